/- Packed: LcS. -/
import Derived.Test.YtdcolicajjmffaaProg
import Derived.Test.YtdcolicajjmffaaP5
import Derived.Test.YtdcolicajjmffaaP14
import Derived.Test.YtdcolicajjmffaaP18
import Derived.Test.YtdcolicajjmffaaP19
import Derived.Test.YtdcolicajjmffaaP20
set_option linter.unusedVariables false
set_option linter.unusedSimpArgs false
namespace Go.Proofs.Ytdcolicajjmffaa
section
set_option maxRecDepth 1000000
open Go.RowKit
namespace SX
def sy : List (Nat × Nat × Nat) := [(14, 1, 1), (20, 3, 1), (23, 6, 1), (24, 7, 1), (51, 9, 0)]
noncomputable def KF : Cfg := ⟨fun f => !(sy.any fun x => x.1 == f), fun _ => true, stdRes Try.prog (fun f => sy.lookup f), fun _ _ => none⟩
def sp3 (a b c : Int) (k : Nat) : Int := match k with
 | 0 => a
 | 1 => b
 | 2 => c
 | _ => 0
theorem sp3_R64 {a b c : Int} (h0 : R64 a) (h1 : R64 b) (h2 : R64 c) : ∀ k, R64 (sp3 a b c k)
 | 0 => h0
 | 1 => h1
 | 2 => h2
 | _ + 3 => R64_0
theorem okI_R64 {v : Bool} {x : Int} (h : R64 x) : R64 (okI v x) := by unfold okI; split <;> first | assumption | exact R64_0
theorem errE_R64 {v : Bool} {x : Int} (h : R64 x) : R64 (errE v x) := by unfold errE; split <;> first | assumption | (unfold R64; omega)
theorem oLo_R64 (a b : Int) : R64 (oLo a b) := by unfold oLo fits R64; split <;> simp_all <;> omega
theorem oHi_R64 (a b : Int) : R64 (oHi a b) := by unfold oHi fits R64; split <;> simp_all <;> omega
theorem oE_R64 (a b : Int) : R64 (oE a b) := by unfold oE R64; split <;> omega
theorem zero1 {v : Bool} {a b : Int} (h : errE v (oE a b) ≠ 0) : okI v (oLo a b) = 0 ∧ okI v (oHi a b) = 0 := by
 unfold errE oE at h; unfold okI oLo oHi
 cases v <;> simp at h ⊢
 cases hf : fits a b <;> simp_all
theorem roE_R64 {ah : Int} : R64 (roE ah) := by unfold roE R64; split <;> omega
theorem ro_R64 {al ah : Int} (i0 : R64 al) (i1 : R64 ah) : R64 (roL al ah) ∧ R64 (roH ah) := by
 by_cases h : ah < 0
 ·obtain ⟨e1, e2, _⟩ := ro_t (al := al) h
  rw [e1, e2]; exact ⟨R64_0, R64_0⟩
 ·obtain ⟨e1, e2, _⟩ := ro_f (al := al) h
  rw [e1, e2]
  have m0 : 0 ≤ mx al 0 ∧ mx al 0 ≤ 9223372036854775807 := by unfold mx R64 at *; split <;> omega
  have a1 := rt_bd m0.1 m0.2
  have a2 := rt_bd (x := ah) (by omega) i1.2
  have b1 := (rt_spec m0.1).1
  have b2 := (rt_spec (x := ah) (by omega)).1
  have c := bI_bd (rtR ah)
  unfold rtH R64
  omega
theorem zero4 {v : Bool} {al ah : Int} (h : errE v (roE ah) ≠ 0) : clampI (okI v (roL al ah)) = 0 ∧ clampI (okI v (roH ah)) = 0 := by
 cases v
 ·exact ⟨rfl, rfl⟩
 ·by_cases k : ah < 0
  ·obtain ⟨e1, e2, _⟩ := ro_t (al := al) k
   rw [e1, e2]; exact ⟨rfl, rfl⟩
  ·obtain ⟨_, _, e3⟩ := ro_f (al := al) k
   rw [e3] at h; exact absurd rfl h
noncomputable def v0 (s : Nat) (L : List Int) (k : Nat) : Int :=
 let g := fun i => L.getD i 0
 match s with
 | 1 => sp3 (okI (vB (g 0) (g 1) && vB (g 2) (g 3)) (oLo (g 0 + g 2) (g 1 + g 3))) (okI (vB (g 0) (g 1) && vB (g 2) (g 3)) (oHi (g 0 + g 2) (g 1 + g 3))) (errE (vB (g 0) (g 1) && vB (g 2) (g 3)) (oE (g 0 + g 2) (g 1 + g 3))) k
 | 3 => sp3 (okI (vB (g 0) (g 1) && vB (g 2) (g 3)) (oLo (mi (mL (g 0) (g 2) (g 3)) (mL (g 1) (g 2) (g 3))) (mx (mH (g 0) (g 2) (g 3)) (mH (g 1) (g 2) (g 3))))) (okI (vB (g 0) (g 1) && vB (g 2) (g 3)) (oHi (mi (mL (g 0) (g 2) (g 3)) (mL (g 1) (g 2) (g 3))) (mx (mH (g 0) (g 2) (g 3)) (mH (g 1) (g 2) (g 3))))) (errE (vB (g 0) (g 1) && vB (g 2) (g 3)) (oE (mi (mL (g 0) (g 2) (g 3)) (mL (g 1) (g 2) (g 3))) (mx (mH (g 0) (g 2) (g 3)) (mH (g 1) (g 2) (g 3))))) k
 | 6 => sp3 (okI (vB (g 0) (g 1)) (oLo (sqL (absL (g 0) (g 1)) (absH (g 0) (g 1))) (sqH (absL (g 0) (g 1)) (absH (g 0) (g 1))))) (okI (vB (g 0) (g 1)) (oHi (sqL (absL (g 0) (g 1)) (absH (g 0) (g 1))) (sqH (absL (g 0) (g 1)) (absH (g 0) (g 1))))) (errE (vB (g 0) (g 1)) (oE (sqL (absL (g 0) (g 1)) (absH (g 0) (g 1))) (sqH (absL (g 0) (g 1)) (absH (g 0) (g 1))))) k
 | 7 => sp3 (clampI (okI (vB (g 0) (g 1)) (roL (g 0) (g 1)))) (clampI (okI (vB (g 0) (g 1)) (roH (g 1)))) (errE (vB (g 0) (g 1)) (roE (g 1))) k
 | 9 => if vB (g 0) (g 1) then 0 else 2
 | 10 => if withinB (g 0) (g 1) (g 2) (g 3) then 1 else 0
 | _ => 0
theorem v0_R64 (s : Nat) (L : List Int) (k : Nat) : R64 (v0 s L k) := by
 unfold v0
 dsimp only
 split
 all_goals first
  | exact R64_0
  | exact sp3_R64 (okI_R64 (oLo_R64 _ _)) (okI_R64 (oHi_R64 _ _)) (errE_R64 (oE_R64 _ _)) k
  | exact sp3_R64 (clampI_R64 _) (clampI_R64 _) (errE_R64 roE_R64) k
  | (split <;> (unfold R64; omega))
def spanP (k : Nat) : LV := .v (.agg [.a (.int .i64 (.var k)), .a (.int .i64 (.var (k + 1)))])
def shpL : List (FuncId × List LV) := [(14, [spanP 0, spanP 2]), (20, [spanP 0, spanP 2]), (23, [spanP 0]), (24, [spanP 0]), (51, [spanP 0])]
def shp0 (f : FuncId) (args : List LV) (mem : List (Nat × Cells)) : Bool := match shpL.lookup f with
 | some p => matchLVs p args 0
 | none => false
noncomputable def S00 : Sig := ⟨fun f => sy.lookup f, v0⟩
def T0 : Env := ⟨fun _ => 0, fun _ => false, fun _ => none, fun _ => 0, fun _ => 0, fun _ => default, fun _ _ => 0⟩
theorem hmix : Try.prog.follows .mixedOrders = true := rfl
theorem R64_getD {L : List Int} (h : ∀ x ∈ L, R64 x) (i : Nat) : I64 (L.getD i 0) := envL_R64 (T := T0) h i
theorem con00 (w0 : World) : Con Try.prog S00 shp0 T0 w0 := by
 intro ε h1 h2 h3 hε w hw f args mem res upd hsh hstd hr hsat
 have ht : ε.sa = T0.sa ∧ ε.sn = T0.sn ∧ ε.sc = T0.sc := ⟨h1, h2, h3⟩
 unfold shp0 at hsh
 split at hsh
 case h_2 => cases hsh
 rename_i p hp
 have hmem := lookup_mem hp
 simp only [shpL, List.mem_cons, Prod.mk.injEq, List.not_mem_nil, or_false] at hmem
 rcases hmem with ⟨rfl, rfl⟩ | ⟨rfl, rfl⟩ | ⟨rfl, rfl⟩ | ⟨rfl, rfl⟩ | ⟨rfl, rfl⟩
 ·exact base_sp (pat := [spanP 0, spanP 2]) (s := 1) rfl Try.func14 (fun base => ⟨base + 3, by kernel_rfl⟩) (fun L h => zero1 h) rfl (fun L hR _ W hb => (by
   show Calls Try.prog 14 #[.agg #[.int .i64 (L.getD 0 0), .int .i64 (L.getD 1 0)], .agg #[.int .i64 (L.getD 2 0), .int .i64 (L.getD 3 0)]] W _
   exact add_any _ _ _ _ (R64_getD hR 0) (R64_getD hR 1) (R64_getD hR 2) (R64_getD hR 3) W)) ht hε hw hsh hr hstd hsat
 ·exact base_sp (pat := [spanP 0, spanP 2]) (s := 3) rfl Try.func20 (fun base => ⟨base + 3, by kernel_rfl⟩) (fun L h => zero1 h) rfl (fun L hR _ W hb => (by
   show Calls Try.prog 20 #[.agg #[.int .i64 (L.getD 0 0), .int .i64 (L.getD 1 0)], .agg #[.int .i64 (L.getD 2 0), .int .i64 (L.getD 3 0)]] W _
   exact mul_any _ _ _ _ (R64_getD hR 0) (R64_getD hR 1) (R64_getD hR 2) (R64_getD hR 3) W)) ht hε hw hsh hr hstd hsat
 ·exact base_sp (pat := [spanP 0]) (s := 6) rfl Try.func23 (fun base => ⟨base + 3, by kernel_rfl⟩) (fun L h => zero1 h) rfl (fun L hR _ W hb => (by
   show Calls Try.prog 23 #[.agg #[.int .i64 (L.getD 0 0), .int .i64 (L.getD 1 0)]] W _
   exact square_any _ _ (R64_getD hR 0) (R64_getD hR 1) W)) ht hε hw hsh hr hstd hsat
 ·exact base_sp (pat := [spanP 0]) (s := 7) rfl Try.func24 (fun base => ⟨base + 3, by kernel_rfl⟩) (fun L h => zero4 h) rfl (fun L hR _ W hb => (by
   show Calls Try.prog 24 #[.agg #[.int .i64 (L.getD 0 0), .int .i64 (L.getD 1 0)]] W _
   refine (sroot_any _ _ (R64_getD hR 0) (R64_getD hR 1) W).mono fun e w' ⟨q1, q2⟩ => ⟨q1.trans ?_, q2⟩
   show _ = Ending.returned (.tuple #[.agg #[.int .i64 (clampI _), .int .i64 (clampI _)], .int .i64 _])
   obtain ⟨r1, r2⟩ := ro_R64 (R64_getD hR 0) (R64_getD hR 1)
   rw [clampI_eq (okI_R64 r1), clampI_eq (okI_R64 r2)]
   rfl)) ht hε hw hsh hr hstd hsat
 ·exact base_i (pat := [spanP 0]) (s := 9) rfl Try.func51 (fun base => ⟨base + 1, by kernel_rfl⟩) rfl (fun L hR _ W hb => (by
   show Calls Try.prog 51 #[.agg #[.int .i64 (L.getD 0 0), .int .i64 (L.getD 1 0)]] W _
   exact check_any _ _ (R64_getD hR 0).1 W)) ht hε hw hsh hr hstd hsat
end SX
end
end Go.Proofs.Ytdcolicajjmffaa
