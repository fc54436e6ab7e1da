/- Packed: RsS. -/
import Derived.Test.YtdoigcpcponnhaaProg
import Derived.Test.YtdoigcpcponnhaaP5
import Derived.Test.YtdoigcpcponnhaaP6
import Derived.Test.YtdoigcpcponnhaaP8
import Derived.Test.YtdoigcpcponnhaaP15
set_option linter.unusedVariables false
set_option linter.unusedSimpArgs false
section
set_option maxRecDepth 1000000
namespace Go.Proofs.Ytdoigcpcponnhaa
open Go.RowKit
namespace SX
def sy : List (Nat × Nat × Nat) := [(53, 1, 1), (49, 1, 1), (46, 2, 1), (41, 2, 1), (58, 6, 1), (51, 6, 1), (59, 7, 1), (52, 7, 1), (25, 9, 0), (40, 9, 0), (34, 15, 1), (35, 15, 1), (47, 16, 1), (42, 16, 1), (8, 30, 0), (14, 30, 0), (11, 34, 0), (15, 34, 0), (12, 35, 1), (16, 35, 1), (4, 90, 0), (5, 90, 0), (6, 91, 0), (7, 91, 0)]
def ct : List Nat := [0, 1, 2, 9, 10, 11, 13, 18, 19, 23, 24, 25, 26, 27, 29, 30, 31, 32, 34, 35, 37, 38, 39, 40, 41, 42, 44, 45, 46, 47, 48, 49, 50, 51, 52, 53, 54, 55, 56, 57, 58, 59, 60, 61, 62, 63, 64, 65, 66, 67, 68, 69, 70, 71, 72, 73, 74, 75, 76, 77, 78, 79, 80, 81, 82, 83, 84, 85, 86, 87, 88, 89, 90, 91, 92, 93, 94, 95, 96, 97, 98, 99, 100, 101, 102, 103, 104, 105, 106, 107, 108]
noncomputable def KF : Cfg := ⟨fun f => !(sy.any fun x => x.1 == f), fun f => ct.contains f, stdRes Try.prog (fun f => sy.lookup f), fun _ _ => none⟩
def sp3 (a b c : Int) (k : Nat) : Int := match k with
 | 0 => a
 | 1 => b
 | 2 => c
 | _ => 0
theorem sp3_R64 {a b c : Int} (h0 : R64 a) (h1 : R64 b) (h2 : R64 c) : ∀ k, R64 (sp3 a b c k)
 | 0 => h0
 | 1 => h1
 | 2 => h2
 | _ + 3 => R64_0
theorem okI_R64 {v : Bool} {x : Int} (h : R64 x) : R64 (okI v x) := by unfold okI; split <;> first | assumption | exact R64_0
theorem zI_R64 {v : Bool} {x : Int} (h : R64 x) : R64 (zI v x) := by unfold zI; split <;> first | assumption | exact R64_0
theorem errE_R64 {v : Bool} {x : Int} (h : R64 x) : R64 (errE v x) := by unfold errE; split <;> first | assumption | (unfold R64; omega)
theorem zE_R64 {v : Bool} {x : Int} (h : R64 x) : R64 (zE v x) := by unfold zE; split <;> first | assumption | (unfold R64; omega)
theorem oLo_R64 (a b : Int) : R64 (oLo a b) := by unfold oLo fits R64; split <;> simp_all <;> omega
theorem oHi_R64 (a b : Int) : R64 (oHi a b) := by unfold oHi fits R64; split <;> simp_all <;> omega
theorem oE_R64 (a b : Int) : R64 (oE a b) := by unfold oE R64; split <;> omega
theorem zero1 {v : Bool} {a b : Int} (h : errE v (oE a b) ≠ 0) : okI v (oLo a b) = 0 ∧ okI v (oHi a b) = 0 := by
 unfold errE oE at h; unfold okI oLo oHi
 cases v <;> simp at h ⊢
 cases hf : fits a b <;> simp_all
theorem zero2 {v z : Bool} {a b : Int} (h : errE v (zE z (oE a b)) ≠ 0) : okI v (zI z (oLo a b)) = 0 ∧ okI v (zI z (oHi a b)) = 0 := by
 unfold errE zE oE at h; unfold okI zI oLo oHi
 cases v <;> cases z <;> simp at h ⊢
 cases hf : fits a b <;> simp_all
theorem zero3 {v : Bool} {a b : Int} (h : errE v 0 ≠ 0) : okI v a = 0 ∧ okI v b = 0 := by
 unfold errE at h; unfold okI
 cases v <;> simp at h ⊢
theorem roE_R64 {ah : Int} : R64 (roE ah) := by unfold roE R64; split <;> omega
theorem ro_R64 {al ah : Int} (i0 : R64 al) (i1 : R64 ah) : R64 (roL al ah) ∧ R64 (roH ah) := by
 by_cases h : ah < 0
 ·obtain ⟨e1, e2, _⟩ := ro_t (al := al) h
  rw [e1, e2]; exact ⟨R64_0, R64_0⟩
 ·obtain ⟨e1, e2, _⟩ := ro_f (al := al) h
  rw [e1, e2]
  have m0 : 0 ≤ mx al 0 ∧ mx al 0 ≤ 9223372036854775807 := by unfold mx R64 at *; split <;> omega
  have a1 := rt_bd m0.1 m0.2
  have a2 := rt_bd (x := ah) (by omega) i1.2
  have b1 := (rt_spec m0.1).1
  have b2 := (rt_spec (x := ah) (by omega)).1
  have c := bI_bd (rtR ah)
  unfold rtH R64
  omega
theorem zero4 {v : Bool} {al ah : Int} (h : errE v (roE ah) ≠ 0) : clampI (okI v (roL al ah)) = 0 ∧ clampI (okI v (roH ah)) = 0 := by
 cases v
 ·exact ⟨rfl, rfl⟩
 ·by_cases k : ah < 0
  ·obtain ⟨e1, e2, _⟩ := ro_t (al := al) k
   rw [e1, e2]; exact ⟨rfl, rfl⟩
  ·obtain ⟨_, _, e3⟩ := ro_f (al := al) k
   rw [e3] at h; exact absurd rfl h
theorem zero5 {v m : Bool} {a b : Int} (h : errE v (meE m) ≠ 0) : clampI (okI v (meI m a)) = 0 ∧ clampI (okI v (meI m b)) = 0 := by
 unfold errE meE at h; unfold okI meI
 cases v <;> cases m <;> simp_all [clampI]
noncomputable def val0 (s : Nat) (L : List Int) (k : Nat) : Int :=
 let g := fun i => L.getD i 0
 match s with
 | 1 => sp3 (okI (vB (g 0) (g 1) && vB (g 2) (g 3)) (oLo (g 0 + g 2) (g 1 + g 3))) (okI (vB (g 0) (g 1) && vB (g 2) (g 3)) (oHi (g 0 + g 2) (g 1 + g 3))) (errE (vB (g 0) (g 1) && vB (g 2) (g 3)) (oE (g 0 + g 2) (g 1 + g 3))) k
 | 2 => sp3 (okI (vB (g 0) (g 1) && vB (g 2) (g 3)) (oLo (g 0 - g 3) (g 1 - g 2))) (okI (vB (g 0) (g 1) && vB (g 2) (g 3)) (oHi (g 0 - g 3) (g 1 - g 2))) (errE (vB (g 0) (g 1) && vB (g 2) (g 3)) (oE (g 0 - g 3) (g 1 - g 2))) k
 | 6 => sp3 (okI (vB (g 0) (g 1)) (oLo (sqL (absL (g 0) (g 1)) (absH (g 0) (g 1))) (sqH (absL (g 0) (g 1)) (absH (g 0) (g 1))))) (okI (vB (g 0) (g 1)) (oHi (sqL (absL (g 0) (g 1)) (absH (g 0) (g 1))) (sqH (absL (g 0) (g 1)) (absH (g 0) (g 1))))) (errE (vB (g 0) (g 1)) (oE (sqL (absL (g 0) (g 1)) (absH (g 0) (g 1))) (sqH (absL (g 0) (g 1)) (absH (g 0) (g 1))))) k
 | 7 => sp3 (clampI (okI (vB (g 0) (g 1)) (roL (g 0) (g 1)))) (clampI (okI (vB (g 0) (g 1)) (roH (g 1)))) (errE (vB (g 0) (g 1)) (roE (g 1))) k
 | 15 => sp3 (clampI (okI (vB (g 0) (g 1) && vB (g 2) (g 3)) (meI (meN (g 0) (g 1) (g 2) (g 3)) (mx (g 0) (g 2))))) (clampI (okI (vB (g 0) (g 1) && vB (g 2) (g 3)) (meI (meN (g 0) (g 1) (g 2) (g 3)) (mi (g 1) (g 3))))) (errE (vB (g 0) (g 1) && vB (g 2) (g 3)) (meE (meN (g 0) (g 1) (g 2) (g 3)))) k
 | 9 => if vB (g 0) (g 1) then 0 else 2
 | _ => 0
theorem meE_R64 (m : Bool) : R64 (meE m) := by unfold meE R64; cases m <;> simp
theorem val0_R64 (s : Nat) (L : List Int) (k : Nat) : R64 (val0 s L k) := by
 unfold val0
 dsimp only
 split
 all_goals first
  | exact R64_0
  | exact sp3_R64 (okI_R64 (oLo_R64 _ _)) (okI_R64 (oHi_R64 _ _)) (errE_R64 (oE_R64 _ _)) k
  | exact sp3_R64 (clampI_R64 _) (clampI_R64 _) (errE_R64 roE_R64) k
  | exact sp3_R64 (clampI_R64 _) (clampI_R64 _) (errE_R64 (meE_R64 _)) k
  | (split <;> (unfold R64; omega))
theorem me_R64 {v m : Bool} {x : Int} (h : R64 x) : R64 (okI v (meI m x)) := by unfold okI meI; cases v <;> cases m <;> first | exact R64_0 | exact h
theorem mx_R64 {a b : Int} (h : R64 a) (k : R64 b) : R64 (mx a b) := by unfold mx; split <;> assumption
theorem mi_R64 {a b : Int} (h : R64 a) (k : R64 b) : R64 (mi a b) := by unfold mi; split <;> assumption
def spanP (k : Nat) : LV := .v (.agg [.a (.int .i64 (.var k)), .a (.int .i64 (.var (k + 1)))])
def shpL : List (FuncId × List LV) := [(53, [spanP 0, spanP 2]), (49, [spanP 0, spanP 2]), (46, [spanP 0, spanP 2]), (41, [spanP 0, spanP 2]), (58, [spanP 0]), (51, [spanP 0]), (59, [spanP 0]), (52, [spanP 0]), (34, [spanP 0, spanP 2]), (35, [spanP 0, spanP 2]), (25, [spanP 0]), (40, [spanP 0])]
def shp0 (f : FuncId) (args : List LV) (mem : List (Nat × Cells)) : Bool := match shpL.lookup f with
 | some p => matchLVs p args 0
 | none => false
noncomputable def S0 : Sig := ⟨fun f => sy.lookup f, val0⟩
def T0 : Env := ⟨fun _ => 0, fun _ => false, fun _ => none, fun _ => 0, fun _ => 0, fun _ => default, fun _ _ => 0⟩
theorem hmix : Try.prog.follows .mixedOrders = true := rfl
theorem R64_getD {L : List Int} (h : ∀ x ∈ L, R64 x) (i : Nat) : I64 (L.getD i 0) := envL_R64 (T := T0) h i
theorem con0 (w0 : World) (T : Env) : Con Try.prog S0 shp0 T w0 := by
 intro ε h1 h2 h3 hε w hw f args mem res upd hsh hstd hr hsat
 have ht : ε.sa = T.sa ∧ ε.sn = T.sn ∧ ε.sc = T.sc := ⟨h1, h2, h3⟩
 unfold shp0 at hsh
 split at hsh
 case h_2 => cases hsh
 rename_i p hp
 have hmem := lookup_mem hp
 simp only [shpL, List.mem_cons, Prod.mk.injEq, List.not_mem_nil, or_false] at hmem
 rcases hmem with ⟨rfl, rfl⟩ | ⟨rfl, rfl⟩ | ⟨rfl, rfl⟩ | ⟨rfl, rfl⟩ | ⟨rfl, rfl⟩ | ⟨rfl, rfl⟩ | ⟨rfl, rfl⟩ | ⟨rfl, rfl⟩ | ⟨rfl, rfl⟩ | ⟨rfl, rfl⟩ | ⟨rfl, rfl⟩ | ⟨rfl, rfl⟩
 ·exact base_sp (pat := [spanP 0, spanP 2]) (s := 1) rfl Try.func53 (fun base => ⟨base + 3, by kernel_rfl⟩) (fun L h => zero1 h) rfl (fun L hR _ W hb => (by
   show Calls Try.prog 53 #[.agg #[.int .i64 (L.getD 0 0), .int .i64 (L.getD 1 0)], .agg #[.int .i64 (L.getD 2 0), .int .i64 (L.getD 3 0)]] W _
   exact add_any _ _ _ _ (R64_getD hR 0) (R64_getD hR 1) (R64_getD hR 2) (R64_getD hR 3) W)) ht hε hw hsh hr hstd hsat
 ·exact base_sp (pat := [spanP 0, spanP 2]) (s := 1) rfl Try.func49 (fun base => ⟨base + 3, by kernel_rfl⟩) (fun L h => zero1 h) rfl (fun L hR _ W hb => (by
   show Calls Try.prog 49 #[.agg #[.int .i64 (L.getD 0 0), .int .i64 (L.getD 1 0)], .agg #[.int .i64 (L.getD 2 0), .int .i64 (L.getD 3 0)]] W _
   exact radd_any _ _ _ _ (R64_getD hR 0) (R64_getD hR 1) (R64_getD hR 2) (R64_getD hR 3) W)) ht hε hw hsh hr hstd hsat
 ·exact base_sp (pat := [spanP 0, spanP 2]) (s := 2) rfl Try.func46 (fun base => ⟨base + 3, by kernel_rfl⟩) (fun L h => zero1 h) rfl (fun L hR _ W hb => (by
   show Calls Try.prog 46 #[.agg #[.int .i64 (L.getD 0 0), .int .i64 (L.getD 1 0)], .agg #[.int .i64 (L.getD 2 0), .int .i64 (L.getD 3 0)]] W _
   exact sub_any _ _ _ _ (R64_getD hR 0) (R64_getD hR 1) (R64_getD hR 2) (R64_getD hR 3) W)) ht hε hw hsh hr hstd hsat
 ·exact base_sp (pat := [spanP 0, spanP 2]) (s := 2) rfl Try.func41 (fun base => ⟨base + 3, by kernel_rfl⟩) (fun L h => zero1 h) rfl (fun L hR _ W hb => (by
   show Calls Try.prog 41 #[.agg #[.int .i64 (L.getD 0 0), .int .i64 (L.getD 1 0)], .agg #[.int .i64 (L.getD 2 0), .int .i64 (L.getD 3 0)]] W _
   exact rsub_any _ _ _ _ (R64_getD hR 0) (R64_getD hR 1) (R64_getD hR 2) (R64_getD hR 3) W)) ht hε hw hsh hr hstd hsat
 ·exact base_sp (pat := [spanP 0]) (s := 6) rfl Try.func58 (fun base => ⟨base + 3, by kernel_rfl⟩) (fun L h => zero1 h) rfl (fun L hR _ W hb => (by
   show Calls Try.prog 58 #[.agg #[.int .i64 (L.getD 0 0), .int .i64 (L.getD 1 0)]] W _
   exact square_any _ _ (R64_getD hR 0) (R64_getD hR 1) W)) ht hε hw hsh hr hstd hsat
 ·exact base_sp (pat := [spanP 0]) (s := 6) rfl Try.func51 (fun base => ⟨base + 3, by kernel_rfl⟩) (fun L h => zero1 h) rfl (fun L hR _ W hb => (by
   show Calls Try.prog 51 #[.agg #[.int .i64 (L.getD 0 0), .int .i64 (L.getD 1 0)]] W _
   exact rsquare_any _ _ (R64_getD hR 0) (R64_getD hR 1) W)) ht hε hw hsh hr hstd hsat
 ·exact base_sp (pat := [spanP 0]) (s := 7) rfl Try.func59 (fun base => ⟨base + 3, by kernel_rfl⟩) (fun L h => zero4 h) rfl (fun L hR _ W hb => (by
   show Calls Try.prog 59 #[.agg #[.int .i64 (L.getD 0 0), .int .i64 (L.getD 1 0)]] W _
   refine (sroot_any _ _ (R64_getD hR 0) (R64_getD hR 1) W).mono fun e w' ⟨q1, q2⟩ => ⟨q1.trans ?_, q2⟩
   show _ = Ending.returned (.tuple #[.agg #[.int .i64 (clampI _), .int .i64 (clampI _)], .int .i64 _])
   obtain ⟨r1, r2⟩ := ro_R64 (R64_getD hR 0) (R64_getD hR 1)
   rw [clampI_eq (okI_R64 r1), clampI_eq (okI_R64 r2)]
   rfl)) ht hε hw hsh hr hstd hsat
 ·exact base_sp (pat := [spanP 0]) (s := 7) rfl Try.func52 (fun base => ⟨base + 3, by kernel_rfl⟩) (fun L h => zero4 h) rfl (fun L hR _ W hb => (by
   show Calls Try.prog 52 #[.agg #[.int .i64 (L.getD 0 0), .int .i64 (L.getD 1 0)]] W _
   refine (rsroot_any _ _ (R64_getD hR 0) (R64_getD hR 1) W).mono fun e w' ⟨q1, q2⟩ => ⟨q1.trans ?_, q2⟩
   show _ = Ending.returned (.tuple #[.agg #[.int .i64 (clampI _), .int .i64 (clampI _)], .int .i64 _])
   obtain ⟨r1, r2⟩ := ro_R64 (R64_getD hR 0) (R64_getD hR 1)
   rw [clampI_eq (okI_R64 r1), clampI_eq (okI_R64 r2)]
   rfl)) ht hε hw hsh hr hstd hsat
 ·exact base_sp (pat := [spanP 0, spanP 2]) (s := 15) rfl Try.func34 (fun base => ⟨base + 3, by kernel_rfl⟩) (fun L h => zero5 h) rfl (fun L hR _ W hb => (by
   show Calls Try.prog 34 #[.agg #[.int .i64 (L.getD 0 0), .int .i64 (L.getD 1 0)], .agg #[.int .i64 (L.getD 2 0), .int .i64 (L.getD 3 0)]] W _
   refine (meet_any _ _ _ _ (R64_getD hR 0) (R64_getD hR 2) W).mono fun e w' ⟨q1, q2⟩ => ⟨q1.trans ?_, q2⟩
   show _ = Ending.returned (.tuple #[.agg #[.int .i64 (clampI _), .int .i64 (clampI _)], .int .i64 _])
   rw [clampI_eq (me_R64 (mx_R64 (R64_getD hR 0) (R64_getD hR 2))), clampI_eq (me_R64 (mi_R64 (R64_getD hR 1) (R64_getD hR 3)))]
   rfl)) ht hε hw hsh hr hstd hsat
 ·exact base_sp (pat := [spanP 0, spanP 2]) (s := 15) rfl Try.func35 (fun base => ⟨base + 3, by kernel_rfl⟩) (fun L h => zero5 h) rfl (fun L hR _ W hb => (by
   show Calls Try.prog 35 #[.agg #[.int .i64 (L.getD 0 0), .int .i64 (L.getD 1 0)], .agg #[.int .i64 (L.getD 2 0), .int .i64 (L.getD 3 0)]] W _
   refine (rmeet_any _ _ _ _ W).mono fun e w' ⟨q1, q2⟩ => ⟨q1.trans ?_, q2⟩
   show _ = Ending.returned (.tuple #[.agg #[.int .i64 (clampI _), .int .i64 (clampI _)], .int .i64 _])
   rw [clampI_eq (me_R64 (mx_R64 (R64_getD hR 0) (R64_getD hR 2))), clampI_eq (me_R64 (mi_R64 (R64_getD hR 1) (R64_getD hR 3)))]
   rfl)) ht hε hw hsh hr hstd hsat
 ·exact base_i (pat := [spanP 0]) (s := 9) rfl Try.func25 (fun base => ⟨base + 1, by kernel_rfl⟩) rfl (fun L hR _ W hb => (by
   show Calls Try.prog 25 #[.agg #[.int .i64 (L.getD 0 0), .int .i64 (L.getD 1 0)]] W _
   exact check_any _ _ (R64_getD hR 0).1 W)) ht hε hw hsh hr hstd hsat
 ·exact base_i (pat := [spanP 0]) (s := 9) rfl Try.func40 (fun base => ⟨base + 1, by kernel_rfl⟩) rfl (fun L hR _ W hb => (by
   show Calls Try.prog 40 #[.agg #[.int .i64 (L.getD 0 0), .int .i64 (L.getD 1 0)]] W _
   exact rcheck _ _ _ rfl W)) ht hε hw hsh hr hstd hsat
end SX
end Go.Proofs.Ytdoigcpcponnhaa
end
