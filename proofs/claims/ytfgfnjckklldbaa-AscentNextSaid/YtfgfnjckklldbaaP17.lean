/- Packed: NxS NxA. -/
import Derived.Test.YtfgfnjckklldbaaProg
import Derived.KernelRfl
import Derived.Test.YtfgfnjckklldbaaP2
import Derived.Test.YtfgfnjckklldbaaP11
import Derived.Test.YtfgfnjckklldbaaP16
set_option linter.unusedVariables false
set_option linter.unusedSimpArgs false
namespace Go.Proofs.Ytfgfnjckklldbaa
section
set_option maxRecDepth 1000000
open Go.RowKit
namespace SX
def sy : List (Nat × Nat × Nat) := [(63, 1, 1), (61, 3, 1), (58, 9, 0), (69, 10, 0)]
def sp3 (a b c : Int) (k : Nat) : Int := match k with
 | 0 => a
 | 1 => b
 | 2 => c
 | _ => 0
theorem sp3_R64 {a b c : Int} (h0 : R64 a) (h1 : R64 b) (h2 : R64 c) : ∀ k, R64 (sp3 a b c k)
 | 0 => h0
 | 1 => h1
 | 2 => h2
 | _ + 3 => R64_0
theorem okI_R64 {v : Bool} {x : Int} (h : R64 x) : R64 (okI v x) := by unfold okI; split <;> first | assumption | exact R64_0
theorem errE_R64 {v : Bool} {x : Int} (h : R64 x) : R64 (errE v x) := by unfold errE; split <;> first | assumption | (unfold R64; omega)
theorem oLo_R64 (a b : Int) : R64 (oLo a b) := by unfold oLo fits R64; split <;> simp_all <;> omega
theorem oHi_R64 (a b : Int) : R64 (oHi a b) := by unfold oHi fits R64; split <;> simp_all <;> omega
theorem oE_R64 (a b : Int) : R64 (oE a b) := by unfold oE R64; split <;> omega
theorem zero1 {v : Bool} {a b : Int} (h : errE v (oE a b) ≠ 0) : okI v (oLo a b) = 0 ∧ okI v (oHi a b) = 0 := by
 unfold errE oE at h; unfold okI oLo oHi
 cases v <;> simp at h ⊢
 cases hf : fits a b <;> simp_all
noncomputable def v0 (s : Nat) (L : List Int) (k : Nat) : Int :=
 let g := fun i => L.getD i 0
 match s with
 | 1 => sp3 (okI (vB (g 0) (g 1) && vB (g 2) (g 3)) (oLo (g 0 + g 2) (g 1 + g 3))) (okI (vB (g 0) (g 1) && vB (g 2) (g 3)) (oHi (g 0 + g 2) (g 1 + g 3))) (errE (vB (g 0) (g 1) && vB (g 2) (g 3)) (oE (g 0 + g 2) (g 1 + g 3))) k
 | 3 => sp3 (okI (vB (g 0) (g 1) && vB (g 2) (g 3)) (oLo (mi (mL (g 0) (g 2) (g 3)) (mL (g 1) (g 2) (g 3))) (mx (mH (g 0) (g 2) (g 3)) (mH (g 1) (g 2) (g 3))))) (okI (vB (g 0) (g 1) && vB (g 2) (g 3)) (oHi (mi (mL (g 0) (g 2) (g 3)) (mL (g 1) (g 2) (g 3))) (mx (mH (g 0) (g 2) (g 3)) (mH (g 1) (g 2) (g 3))))) (errE (vB (g 0) (g 1) && vB (g 2) (g 3)) (oE (mi (mL (g 0) (g 2) (g 3)) (mL (g 1) (g 2) (g 3))) (mx (mH (g 0) (g 2) (g 3)) (mH (g 1) (g 2) (g 3))))) k
 | 9 => if vB (g 0) (g 1) then 0 else 2
 | 10 => if withinB (g 0) (g 1) (g 2) (g 3) then 1 else 0
 | _ => 0
theorem v0_R64 (s : Nat) (L : List Int) (k : Nat) : R64 (v0 s L k) := by
 unfold v0
 dsimp only
 split
 all_goals first
  | exact R64_0
  | exact sp3_R64 (okI_R64 (oLo_R64 _ _)) (okI_R64 (oHi_R64 _ _)) (errE_R64 (oE_R64 _ _)) k
  | (split <;> (unfold R64; omega))
def spanP (k : Nat) : LV := .v (.agg [.a (.int .i64 (.var k)), .a (.int .i64 (.var (k + 1)))])
def shpL : List (FuncId × List LV) := [(63, [spanP 0, spanP 2]), (61, [spanP 0, spanP 2]), (58, [spanP 0]), (69, [spanP 0, spanP 2])]
def shp0 (f : FuncId) (args : List LV) (mem : List (Nat × Cells)) : Bool := match shpL.lookup f with
 | some p => matchLVs p args 0
 | none => false
noncomputable def S00 : Sig := ⟨fun f => sy.lookup f, v0⟩
def T0 : Env := ⟨fun _ => 0, fun _ => false, fun _ => none, fun _ => 0, fun _ => 0, fun _ => default, fun _ _ => 0⟩
theorem hmix : Try.prog.follows .mixedOrders = true := rfl
theorem R64_getD {L : List Int} (h : ∀ x ∈ L, R64 x) (i : Nat) : I64 (L.getD i 0) := envL_R64 (T := T0) h i
theorem con00 (w0 : World) : Con Try.prog S00 shp0 T0 w0 := by
 intro ε h1 h2 h3 hε w hw f args mem res upd hsh hstd hr hsat
 have ht : ε.sa = T0.sa ∧ ε.sn = T0.sn ∧ ε.sc = T0.sc := ⟨h1, h2, h3⟩
 unfold shp0 at hsh
 split at hsh
 case h_2 => cases hsh
 rename_i p hp
 have hmem := lookup_mem hp
 simp only [shpL, List.mem_cons, Prod.mk.injEq, List.not_mem_nil, or_false] at hmem
 rcases hmem with ⟨rfl, rfl⟩ | ⟨rfl, rfl⟩ | ⟨rfl, rfl⟩ | ⟨rfl, rfl⟩
 ·exact base_sp (pat := [spanP 0, spanP 2]) (s := 1) rfl Try.func63 (fun base => ⟨base + 3, by kernel_rfl⟩) (fun L h => zero1 h) rfl (fun L hR _ W hb => (by
   show Calls Try.prog 63 #[.agg #[.int .i64 (L.getD 0 0), .int .i64 (L.getD 1 0)], .agg #[.int .i64 (L.getD 2 0), .int .i64 (L.getD 3 0)]] W _
   exact add_any _ _ _ _ (R64_getD hR 0) (R64_getD hR 1) (R64_getD hR 2) (R64_getD hR 3) W)) ht hε hw hsh hr hstd hsat
 ·exact base_sp (pat := [spanP 0, spanP 2]) (s := 3) rfl Try.func61 (fun base => ⟨base + 3, by kernel_rfl⟩) (fun L h => zero1 h) rfl (fun L hR _ W hb => (by
   show Calls Try.prog 61 #[.agg #[.int .i64 (L.getD 0 0), .int .i64 (L.getD 1 0)], .agg #[.int .i64 (L.getD 2 0), .int .i64 (L.getD 3 0)]] W _
   exact mul_any _ _ _ _ (R64_getD hR 0) (R64_getD hR 1) (R64_getD hR 2) (R64_getD hR 3) W)) ht hε hw hsh hr hstd hsat
 ·exact base_i (pat := [spanP 0]) (s := 9) rfl Try.func58 (fun base => ⟨base + 1, by kernel_rfl⟩) rfl (fun L hR _ W hb => (by
   show Calls Try.prog 58 #[.agg #[.int .i64 (L.getD 0 0), .int .i64 (L.getD 1 0)]] W _
   exact check_any _ _ (R64_getD hR 0).1 W)) ht hε hw hsh hr hstd hsat
 ·exact base_b (pat := [spanP 0, spanP 2]) (s := 10) rfl Try.func69 (fun base => ⟨base + 1, by kernel_rfl⟩) rfl (fun L hR _ W hb => (by
   show Calls Try.prog 69 #[.agg #[.int .i64 (L.getD 0 0), .int .i64 (L.getD 1 0)], .agg #[.int .i64 (L.getD 2 0), .int .i64 (L.getD 3 0)]] W _
   refine (within_any _ _ _ _ (R64_getD hR 0).1 (R64_getD hR 2).1 W).mono fun e w' ⟨q1, q2⟩ => ⟨q1.trans ?_, q2⟩
   show _ = Ending.returned (.bool (decide ((if withinB _ _ _ _ then (1 : Int) else 0) ≠ 0)))
   cases withinB (L.getD 0 0) (L.getD 1 0) (L.getD 2 0) (L.getD 3 0) <;> rfl)) ht hε hw hsh hr hstd hsat
noncomputable def resN (f : FuncId) (args : List LV) (mem : List (Nat × Cells)) : Option (LV × List (Nat × Cells)) := resL Try.prog S00 shp0 f args mem
def symN (f : FuncId) : Bool := sy.any fun x => x.1 == f
theorem resN_ok {f : FuncId} {args : List LV} {mem : List (Nat × Cells)} {res : LV} {upd : List (Nat × Cells)} (h : resN f args mem = some (res, upd)) (ε : Env) (w : World) : Ob.ok Try.prog ε w (.call (.blit true) f args mem res upd) :=
 lit_ok v0_R64 (con00 w) h (Below.refl _ _) ε
end SX
end
section
set_option maxRecDepth 1000000
namespace SX
open Go.RowKit
def i (n : Int) : SV := .a (.int .i64 (.lit n))
def z : SV := i 0
noncomputable def R0 : RF := forced resN
theorem R0_right : RF.right Try.prog R0 := forced_right fun f args mem res upd h ε w => resN_ok h ε w
def k1 : Kwn := ⟨54, [LV.v (V1.agg [z, z, z, z, z, z, z, z, z, z, z, z, z, z])], LV.v (V1.s (z))⟩
theorem k1_ok : k1.ok Try.prog := closedK_ok hmix (isSym := symN) (R := R0) (n := 3000) (sp := 2^240) (by decide) (by kernel_rfl) R0_right
def k2 : Kwn := ⟨55, [LV.v (V1.agg [z, z, z, z, z, i 4294967296, i 4294967296, z, z, z, z, z, z, i 34359738368, i 34359738368])], LV.v (V1.s (z))⟩
theorem k2_ok : k2.ok Try.prog := closedK_ok hmix (isSym := symN) (R := R0) (n := 3000) (sp := 2^240) (by decide) (by kernel_rfl) R0_right
def k3 : Kwn := ⟨80, [LV.v (V1.agg [i 34359738368, i 8589934592, i 268435456, i 268435456, i 1073741824, i 1073741824, z, z, z, z, z, z, SV.a (AV.nils), z, z])], LV.v (V1.s (z))⟩
theorem k3_ok : k3.ok Try.prog := closedK_ok hmix (isSym := symN) (R := R0) (n := 3000) (sp := 2^240) (by decide) (by kernel_rfl) R0_right
def k4 : Kwn := ⟨21, [LV.v (V1.agg [i 4, z, i 1]), LV.v (V1.agg [i 6, i 2, i 1])], LV.tup [V1.s (i 1), V1.s (z)]⟩
theorem k4_ok : k4.ok Try.prog := closedK_ok hmix (isSym := symN) (R := R0) (n := 3000) (sp := 2^240) (by decide) (by kernel_rfl) R0_right
def tab1 : List Kwn := [k1, k2, k3, k4]
theorem tab1_ok : ∀ e ∈ tab1, e.ok Try.prog := by
 intro e he
 simp only [tab1, List.mem_cons, List.not_mem_nil, or_false] at he
 rcases he with rfl | rfl | rfl | rfl
 ·exact k1_ok
 ·exact k2_ok
 ·exact k3_ok
 ·exact k4_ok
noncomputable def R1 : RF := resK tab1 R0
theorem R1_right : RF.right Try.prog R1 := resK_right tab1_ok R0_right
theorem alive_any (w : World) : Calls Try.prog 18 #[] w fun e w' => e = .returned (.bool true) ∧ Below w.heap.size w w' :=
 true_of hmix (isSym := symK tab1 symN) (R := R1) (n := 3000) (sp := 2^240) (by decide) (by kernel_rfl) R1_right w
end SX
end
end Go.Proofs.Ytfgfnjckklldbaa
