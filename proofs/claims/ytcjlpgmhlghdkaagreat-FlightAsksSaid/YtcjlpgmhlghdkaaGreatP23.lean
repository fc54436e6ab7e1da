/- Packed: AkS. -/
import Derived.Test.YtcjlpgmhlghdkaaGreatProg
import Derived.Test.YtcjlpgmhlghdkaaGreatP5
import Derived.Test.YtcjlpgmhlghdkaaGreatP7
import Derived.Test.YtcjlpgmhlghdkaaGreatP14
import Derived.Test.YtcjlpgmhlghdkaaGreatP16
import Derived.Test.YtcjlpgmhlghdkaaGreatP21
import Derived.Test.YtcjlpgmhlghdkaaGreatP22
set_option linter.unusedVariables false
set_option linter.unusedSimpArgs false
namespace Go.Proofs.YtcjlpgmhlghdkaaGreat
section
set_option maxRecDepth 1000000
open Go.RowKit
namespace SX
def sy : List (Nat × Nat × Nat) := [(59, 1, 1), (63, 1, 1), (83, 2, 1), (52, 2, 1), (72, 3, 1), (77, 3, 1), (66, 4, 1), (68, 4, 1), (58, 6, 1), (62, 6, 1), (60, 7, 1), (64, 7, 1), (73, 8, 1), (78, 8, 1), (47, 9, 0), (49, 9, 0), (41, 10, 0), (81, 10, 0), (29, 11, 0), (35, 11, 0), (21, 16, 1), (22, 16, 1), (67, 17, 1), (69, 17, 1), (42, 0, 0), (45, 0, 0), (14, 30, 0), (18, 30, 0), (40, 32, 0), (43, 32, 0), (28, 34, 0), (34, 34, 0), (39, 60, 4), (48, 42, 3), (19, 42, 3), (30, 43, 3), (36, 43, 3), (23, 44, 3), (26, 44, 3), (32, 46, 3), (38, 46, 3), (31, 48, 3), (37, 48, 3), (4, 90, 0), (5, 90, 0), (6, 91, 0), (7, 91, 0), (8, 92, 0), (9, 92, 0), (10, 93, 0), (11, 93, 0)]
def ct : List Nat := [0, 1, 2, 15, 16, 19, 20, 21, 22, 23, 24, 25, 26, 27, 28, 29, 30, 31, 32, 33, 35, 36, 37, 38, 39, 41, 42, 44, 45, 46, 47, 48, 49, 50, 51, 52, 54, 55, 56, 57, 58, 59, 60, 61, 62, 63, 64, 66, 67, 68, 69, 70, 71, 72, 73, 74, 75, 76, 77, 78, 79, 80, 81, 82, 83, 84, 85, 86, 87, 88, 89, 90, 91, 92, 93, 94, 95, 96, 97, 98, 99, 101, 102, 103, 104, 105, 106, 107, 108, 109, 110, 111, 112, 113, 114, 115, 116, 117, 118, 119, 120, 121, 122, 123, 124, 125, 126, 127, 128, 129, 130, 131, 132, 133, 134, 135, 136, 137, 138, 139, 140, 141, 142, 143, 144, 145, 146, 147, 148, 149, 150, 151, 152, 153, 154]
noncomputable def KF : Cfg := ⟨fun f => !(sy.any fun x => x.1 == f), fun f => ct.contains f, stdRes Tryz.prog (fun f => sy.lookup f), fun _ _ => none⟩
def sp3 (a b c : Int) (k : Nat) : Int := match k with
 | 0 => a
 | 1 => b
 | 2 => c
 | _ => 0
theorem sp3_R64 {a b c : Int} (h0 : R64 a) (h1 : R64 b) (h2 : R64 c) : ∀ k, R64 (sp3 a b c k)
 | 0 => h0
 | 1 => h1
 | 2 => h2
 | _ + 3 => R64_0
theorem okI_R64 {v : Bool} {x : Int} (h : R64 x) : R64 (okI v x) := by unfold okI; split <;> first | assumption | exact R64_0
theorem zI_R64 {v : Bool} {x : Int} (h : R64 x) : R64 (zI v x) := by unfold zI; split <;> first | assumption | exact R64_0
theorem errE_R64 {v : Bool} {x : Int} (h : R64 x) : R64 (errE v x) := by unfold errE; split <;> first | assumption | (unfold R64; omega)
theorem zE_R64 {v : Bool} {x : Int} (h : R64 x) : R64 (zE v x) := by unfold zE; split <;> first | assumption | (unfold R64; omega)
theorem oLo_R64 (a b : Int) : R64 (oLo a b) := by unfold oLo fits R64; split <;> simp_all <;> omega
theorem oHi_R64 (a b : Int) : R64 (oHi a b) := by unfold oHi fits R64; split <;> simp_all <;> omega
theorem oE_R64 (a b : Int) : R64 (oE a b) := by unfold oE R64; split <;> omega
theorem zero1 {v : Bool} {a b : Int} (h : errE v (oE a b) ≠ 0) : okI v (oLo a b) = 0 ∧ okI v (oHi a b) = 0 := by
 unfold errE oE at h; unfold okI oLo oHi
 cases v <;> simp at h ⊢
 cases hf : fits a b <;> simp_all
theorem zero2 {v z : Bool} {a b : Int} (h : errE v (zE z (oE a b)) ≠ 0) : okI v (zI z (oLo a b)) = 0 ∧ okI v (zI z (oHi a b)) = 0 := by
 unfold errE zE oE at h; unfold okI zI oLo oHi
 cases v <;> cases z <;> simp at h ⊢
 cases hf : fits a b <;> simp_all
theorem zero3 {v : Bool} {a b : Int} (h : errE v 0 ≠ 0) : okI v a = 0 ∧ okI v b = 0 := by
 unfold errE at h; unfold okI
 cases v <;> simp at h ⊢
theorem roE_R64 {ah : Int} : R64 (roE ah) := by unfold roE R64; split <;> omega
theorem ro_R64 {al ah : Int} (i0 : R64 al) (i1 : R64 ah) : R64 (roL al ah) ∧ R64 (roH ah) := by
 by_cases h : ah < 0
 ·obtain ⟨e1, e2, _⟩ := ro_t (al := al) h
  rw [e1, e2]; exact ⟨R64_0, R64_0⟩
 ·obtain ⟨e1, e2, _⟩ := ro_f (al := al) h
  rw [e1, e2]
  have m0 : 0 ≤ mx al 0 ∧ mx al 0 ≤ 9223372036854775807 := by unfold mx R64 at *; split <;> omega
  have a1 := rt_bd m0.1 m0.2
  have a2 := rt_bd (x := ah) (by omega) i1.2
  have b1 := (rt_spec m0.1).1
  have b2 := (rt_spec (x := ah) (by omega)).1
  have c := bI_bd (rtR ah)
  unfold rtH R64
  omega
theorem ord3 (a b c d : Int) : (if orderI a b c d = 0 then (0 : Int) else if orderI a b c d = 1 then 1 else -1) = orderI a b c d := by
 unfold orderI
 cases hv : (vB a b && vB c d) <;> by_cases h1 : b < c <;> by_cases h2 : d < a <;> simp [h1, h2]
theorem zero4 {v : Bool} {al ah : Int} (h : errE v (roE ah) ≠ 0) : clampI (okI v (roL al ah)) = 0 ∧ clampI (okI v (roH ah)) = 0 := by
 cases v
 ·exact ⟨rfl, rfl⟩
 ·by_cases k : ah < 0
  ·obtain ⟨e1, e2, _⟩ := ro_t (al := al) k
   rw [e1, e2]; exact ⟨rfl, rfl⟩
  ·obtain ⟨_, _, e3⟩ := ro_f (al := al) k
   rw [e3] at h; exact absurd rfl h
noncomputable def val0 (n : Nat) (at_ lo hi : Nat → Int) (s : Nat) (L : List Int) (k : Nat) : Int :=
 let g := fun i => L.getD i 0
 match s with
 | 1 => sp3 (okI (vB (g 0) (g 1) && vB (g 2) (g 3)) (oLo (g 0 + g 2) (g 1 + g 3))) (okI (vB (g 0) (g 1) && vB (g 2) (g 3)) (oHi (g 0 + g 2) (g 1 + g 3))) (errE (vB (g 0) (g 1) && vB (g 2) (g 3)) (oE (g 0 + g 2) (g 1 + g 3))) k
 | 2 => sp3 (okI (vB (g 0) (g 1) && vB (g 2) (g 3)) (oLo (g 0 - g 3) (g 1 - g 2))) (okI (vB (g 0) (g 1) && vB (g 2) (g 3)) (oHi (g 0 - g 3) (g 1 - g 2))) (errE (vB (g 0) (g 1) && vB (g 2) (g 3)) (oE (g 0 - g 3) (g 1 - g 2))) k
 | 3 => sp3 (okI (vB (g 0) (g 1) && vB (g 2) (g 3)) (oLo (mi (mL (g 0) (g 2) (g 3)) (mL (g 1) (g 2) (g 3))) (mx (mH (g 0) (g 2) (g 3)) (mH (g 1) (g 2) (g 3))))) (okI (vB (g 0) (g 1) && vB (g 2) (g 3)) (oHi (mi (mL (g 0) (g 2) (g 3)) (mL (g 1) (g 2) (g 3))) (mx (mH (g 0) (g 2) (g 3)) (mH (g 1) (g 2) (g 3))))) (errE (vB (g 0) (g 1) && vB (g 2) (g 3)) (oE (mi (mL (g 0) (g 2) (g 3)) (mL (g 1) (g 2) (g 3))) (mx (mH (g 0) (g 2) (g 3)) (mH (g 1) (g 2) (g 3))))) k
 | 4 => sp3 (okI (vB (g 0) (g 1) && vB (g 2) (g 3)) (zI (zB (g 2) (g 3)) (oLo (mi (dL (g 0) (g 2) (g 3)) (dL (g 1) (g 2) (g 3))) (mx (dH (g 0) (g 2) (g 3)) (dH (g 1) (g 2) (g 3)))))) (okI (vB (g 0) (g 1) && vB (g 2) (g 3)) (zI (zB (g 2) (g 3)) (oHi (mi (dL (g 0) (g 2) (g 3)) (dL (g 1) (g 2) (g 3))) (mx (dH (g 0) (g 2) (g 3)) (dH (g 1) (g 2) (g 3)))))) (errE (vB (g 0) (g 1) && vB (g 2) (g 3)) (zE (zB (g 2) (g 3)) (oE (mi (dL (g 0) (g 2) (g 3)) (dL (g 1) (g 2) (g 3))) (mx (dH (g 0) (g 2) (g 3)) (dH (g 1) (g 2) (g 3)))))) k
 | 5 => sp3 (okI (vB (g 0) (g 1)) (oLo (mi (g 0 * g 2) (g 1 * g 2)) (mx (g 0 * g 2) (g 1 * g 2)))) (okI (vB (g 0) (g 1)) (oHi (mi (g 0 * g 2) (g 1 * g 2)) (mx (g 0 * g 2) (g 1 * g 2)))) (errE (vB (g 0) (g 1)) (oE (mi (g 0 * g 2) (g 1 * g 2)) (mx (g 0 * g 2) (g 1 * g 2)))) k
 | 6 => sp3 (okI (vB (g 0) (g 1)) (oLo (sqL (absL (g 0) (g 1)) (absH (g 0) (g 1))) (sqH (absL (g 0) (g 1)) (absH (g 0) (g 1))))) (okI (vB (g 0) (g 1)) (oHi (sqL (absL (g 0) (g 1)) (absH (g 0) (g 1))) (sqH (absL (g 0) (g 1)) (absH (g 0) (g 1))))) (errE (vB (g 0) (g 1)) (oE (sqL (absL (g 0) (g 1)) (absH (g 0) (g 1))) (sqH (absL (g 0) (g 1)) (absH (g 0) (g 1))))) k
 | 8 => sp3 (clampI (okI (lkB n at_ lo hi (g 1) (g 2)) (tkL n at_ lo (g 1) (g 2)))) (clampI (okI (lkB n at_ lo hi (g 1) (g 2)) (tkH n at_ hi (g 1) (g 2)))) (errE (lkB n at_ lo hi (g 1) (g 2)) 0) k
 | 7 => sp3 (clampI (okI (vB (g 0) (g 1)) (roL (g 0) (g 1)))) (clampI (okI (vB (g 0) (g 1)) (roH (g 1)))) (errE (vB (g 0) (g 1)) (roE (g 1))) k
 | 9 => if vB (g 0) (g 1) then 0 else 2
 | 10 => if withinB (g 0) (g 1) (g 2) (g 3) then 1 else 0
 | 11 => if tabB n at_ lo hi then 0 else 2
 | 0 => if (orderI (g 0) (g 1) (g 2) (g 3)) = 0 then 0 else if (orderI (g 0) (g 1) (g 2) (g 3)) = 1 then 1 else -1
 | _ => 0
theorem val0_R64 (n : Nat) (at_ lo hi : Nat → Int) (s : Nat) (L : List Int) (k : Nat) : R64 (val0 n at_ lo hi s L k) := by
 unfold val0
 dsimp only
 split
 all_goals first
  | exact R64_0
  | exact sp3_R64 (okI_R64 (oLo_R64 _ _)) (okI_R64 (oHi_R64 _ _)) (errE_R64 (oE_R64 _ _)) k
  | exact sp3_R64 (okI_R64 (zI_R64 (oLo_R64 _ _))) (okI_R64 (zI_R64 (oHi_R64 _ _))) (errE_R64 (zE_R64 (oE_R64 _ _))) k
  | exact sp3_R64 (clampI_R64 _) (clampI_R64 _) (errE_R64 R64_0) k
  | exact sp3_R64 (clampI_R64 _) (clampI_R64 _) (errE_R64 roE_R64) k
  | (split <;> first | (unfold R64; omega) | (split <;> (unfold R64; omega)))
def spanP (k : Nat) : LV := .v (.agg [.a (.int .i64 (.var k)), .a (.int .i64 (.var (k + 1)))])
def shpL : List (FuncId × List LV) := [(59, [spanP 0, spanP 2]), (63, [spanP 0, spanP 2]), (83, [spanP 0, spanP 2]), (52, [spanP 0, spanP 2]), (72, [spanP 0, spanP 2]), (77, [spanP 0, spanP 2]), (66, [spanP 0, spanP 2]), (68, [spanP 0, spanP 2]), (58, [spanP 0]), (62, [spanP 0]), (73, [.v (.s (.a (.fsl 0))), spanP 1]), (78, [.v (.s (.a (.fsl 0))), spanP 1]), (60, [spanP 0]), (64, [spanP 0]), (47, [spanP 0]), (49, [spanP 0]), (41, [spanP 0, spanP 2]), (81, [spanP 0, spanP 2]), (29, [.v (.s (.a (.fsl 0)))]), (35, [.v (.s (.a (.fsl 0)))]), (42, [spanP 0, spanP 2]), (45, [spanP 0, spanP 2])]
def shp0 (f : FuncId) (args : List LV) (mem : List (Nat × Cells)) : Bool := match shpL.lookup f with
 | some p => matchLVs p args 0
 | none => false
noncomputable def S0 (n : Nat) (at_ lo hi : Nat → Int) : Sig := ⟨fun f => sy.lookup f, val0 n at_ lo hi⟩
theorem R64_getD {L : List Int} (h : ∀ x ∈ L, R64 x) (i : Nat) : I64 (L.getD i 0) := envL_R64 (T := ⟨fun _ => 0, fun _ => false, fun _ => none, fun _ => 0, fun _ => 0, fun _ => default, fun _ _ => 0⟩) h i
theorem lk_R64 {n : Nat} {at_ lo hi : Nat → Int} {xl xh : Int} : R64 (okI (lkB n at_ lo hi xl xh) (tkL n at_ lo xl xh)) ∧ R64 (okI (lkB n at_ lo hi xl xh) (tkH n at_ hi xl xh)) := by
 cases hB : tabB n at_ lo hi
 ·have e : lkB n at_ lo hi xl xh = false := by simp [lkB, hB]
  rw [e]; exact ⟨R64_0, R64_0⟩
 ·have hR := right_of hB
  obtain ⟨h1, h2, _⟩ := tk_out hR xl xh
  exact ⟨okI_R64 (h1 ▸ oLo_R64 _ _), okI_R64 (h2 ▸ oHi_R64 _ _)⟩
theorem con0 (n cap : Nat) (A : Option Addr) (at_ lo hi : Nat → Int) (w0 : World) (hT : 0 < n → ∃ ad, A = some ad ∧ Tab w0 ad n at_ lo hi) (hI : ∀ i, i < n → I64 (at_ i) ∧ I64 (lo i) ∧ I64 (hi i)) (T : Env) (hA : T.sa 0 = A) (hn : T.sn 0 = n) (hcp : T.sc 0 = cap) :
  Con Tryz.prog (S0 n at_ lo hi) shp0 T w0 := by
 intro ε h1 h2 h3 hε w hw f args mem res upd hsh hstd hr hsat
 have ht : ε.sa = T.sa ∧ ε.sn = T.sn ∧ ε.sc = T.sc := ⟨h1, h2, h3⟩
 have hT2 : ∀ W, Below w0.heap.size w0 W → 0 < n → ∃ ad, A = some ad ∧ Tab W ad n at_ lo hi := fun W hb h => by
  obtain ⟨ad, ha, hd⟩ := hT h
  exact ⟨ad, ha, hd.below hb⟩
 unfold shp0 at hsh
 split at hsh
 case h_2 => cases hsh
 rename_i p hp
 have hmem := lookup_mem hp
 simp only [shpL, List.mem_cons, Prod.mk.injEq, List.not_mem_nil, or_false] at hmem
 rcases hmem with ⟨rfl, rfl⟩ | ⟨rfl, rfl⟩ | ⟨rfl, rfl⟩ | ⟨rfl, rfl⟩ | ⟨rfl, rfl⟩ | ⟨rfl, rfl⟩ | ⟨rfl, rfl⟩ | ⟨rfl, rfl⟩ | ⟨rfl, rfl⟩ | ⟨rfl, rfl⟩ | ⟨rfl, rfl⟩ | ⟨rfl, rfl⟩ | ⟨rfl, rfl⟩ | ⟨rfl, rfl⟩ | ⟨rfl, rfl⟩ | ⟨rfl, rfl⟩ | ⟨rfl, rfl⟩ | ⟨rfl, rfl⟩ | ⟨rfl, rfl⟩ | ⟨rfl, rfl⟩ | ⟨rfl, rfl⟩ | ⟨rfl, rfl⟩
 ·exact base_sp (pat := [spanP 0, spanP 2]) (s := 1) rfl Tryz.func59 (fun base => ⟨base + 3, by kernel_rfl⟩) (fun L h => zero1 h) rfl (fun L hR _ W hb => (by
   show Calls Tryz.prog 59 #[.agg #[.int .i64 (L.getD 0 0), .int .i64 (L.getD 1 0)], .agg #[.int .i64 (L.getD 2 0), .int .i64 (L.getD 3 0)]] W _
   exact add_any _ _ _ _ (R64_getD hR 0) (R64_getD hR 1) (R64_getD hR 2) (R64_getD hR 3) W)) ht hε hw hsh hr hstd hsat
 ·exact base_sp (pat := [spanP 0, spanP 2]) (s := 1) rfl Tryz.func63 (fun base => ⟨base + 3, by kernel_rfl⟩) (fun L h => zero1 h) rfl (fun L hR _ W hb => (by
   show Calls Tryz.prog 63 #[.agg #[.int .i64 (L.getD 0 0), .int .i64 (L.getD 1 0)], .agg #[.int .i64 (L.getD 2 0), .int .i64 (L.getD 3 0)]] W _
   exact radd_any _ _ _ _ (R64_getD hR 0) (R64_getD hR 1) (R64_getD hR 2) (R64_getD hR 3) W)) ht hε hw hsh hr hstd hsat
 ·exact base_sp (pat := [spanP 0, spanP 2]) (s := 2) rfl Tryz.func83 (fun base => ⟨base + 3, by kernel_rfl⟩) (fun L h => zero1 h) rfl (fun L hR _ W hb => (by
   show Calls Tryz.prog 83 #[.agg #[.int .i64 (L.getD 0 0), .int .i64 (L.getD 1 0)], .agg #[.int .i64 (L.getD 2 0), .int .i64 (L.getD 3 0)]] W _
   exact sub_any _ _ _ _ (R64_getD hR 0) (R64_getD hR 1) (R64_getD hR 2) (R64_getD hR 3) W)) ht hε hw hsh hr hstd hsat
 ·exact base_sp (pat := [spanP 0, spanP 2]) (s := 2) rfl Tryz.func52 (fun base => ⟨base + 3, by kernel_rfl⟩) (fun L h => zero1 h) rfl (fun L hR _ W hb => (by
   show Calls Tryz.prog 52 #[.agg #[.int .i64 (L.getD 0 0), .int .i64 (L.getD 1 0)], .agg #[.int .i64 (L.getD 2 0), .int .i64 (L.getD 3 0)]] W _
   exact rsub_any _ _ _ _ (R64_getD hR 0) (R64_getD hR 1) (R64_getD hR 2) (R64_getD hR 3) W)) ht hε hw hsh hr hstd hsat
 ·exact base_sp (pat := [spanP 0, spanP 2]) (s := 3) rfl Tryz.func72 (fun base => ⟨base + 3, by kernel_rfl⟩) (fun L h => zero1 h) rfl (fun L hR _ W hb => (by
   show Calls Tryz.prog 72 #[.agg #[.int .i64 (L.getD 0 0), .int .i64 (L.getD 1 0)], .agg #[.int .i64 (L.getD 2 0), .int .i64 (L.getD 3 0)]] W _
   exact mul_any _ _ _ _ (R64_getD hR 0) (R64_getD hR 1) (R64_getD hR 2) (R64_getD hR 3) W)) ht hε hw hsh hr hstd hsat
 ·exact base_sp (pat := [spanP 0, spanP 2]) (s := 3) rfl Tryz.func77 (fun base => ⟨base + 3, by kernel_rfl⟩) (fun L h => zero1 h) rfl (fun L hR _ W hb => (by
   show Calls Tryz.prog 77 #[.agg #[.int .i64 (L.getD 0 0), .int .i64 (L.getD 1 0)], .agg #[.int .i64 (L.getD 2 0), .int .i64 (L.getD 3 0)]] W _
   exact rmul_any _ _ _ _ (R64_getD hR 0) (R64_getD hR 1) (R64_getD hR 2) (R64_getD hR 3) W)) ht hε hw hsh hr hstd hsat
 ·exact base_sp (pat := [spanP 0, spanP 2]) (s := 4) rfl Tryz.func66 (fun base => ⟨base + 3, by kernel_rfl⟩) (fun L h => zero2 h) rfl (fun L hR _ W hb => (by
   show Calls Tryz.prog 66 #[.agg #[.int .i64 (L.getD 0 0), .int .i64 (L.getD 1 0)], .agg #[.int .i64 (L.getD 2 0), .int .i64 (L.getD 3 0)]] W _
   exact div_any _ _ _ _ (R64_getD hR 0) (R64_getD hR 1) (R64_getD hR 2) (R64_getD hR 3) W)) ht hε hw hsh hr hstd hsat
 ·exact base_sp (pat := [spanP 0, spanP 2]) (s := 4) rfl Tryz.func68 (fun base => ⟨base + 3, by kernel_rfl⟩) (fun L h => zero2 h) rfl (fun L hR _ W hb => (by
   show Calls Tryz.prog 68 #[.agg #[.int .i64 (L.getD 0 0), .int .i64 (L.getD 1 0)], .agg #[.int .i64 (L.getD 2 0), .int .i64 (L.getD 3 0)]] W _
   exact rdiv_any _ _ _ _ (R64_getD hR 0) (R64_getD hR 1) (R64_getD hR 2) (R64_getD hR 3) W)) ht hε hw hsh hr hstd hsat
 ·exact base_sp (pat := [spanP 0]) (s := 6) rfl Tryz.func58 (fun base => ⟨base + 3, by kernel_rfl⟩) (fun L h => zero1 h) rfl (fun L hR _ W hb => (by
   show Calls Tryz.prog 58 #[.agg #[.int .i64 (L.getD 0 0), .int .i64 (L.getD 1 0)]] W _
   exact square_any _ _ (R64_getD hR 0) (R64_getD hR 1) W)) ht hε hw hsh hr hstd hsat
 ·exact base_sp (pat := [spanP 0]) (s := 6) rfl Tryz.func62 (fun base => ⟨base + 3, by kernel_rfl⟩) (fun L h => zero1 h) rfl (fun L hR _ W hb => (by
   show Calls Tryz.prog 62 #[.agg #[.int .i64 (L.getD 0 0), .int .i64 (L.getD 1 0)]] W _
   exact rsquare_any _ _ (R64_getD hR 0) (R64_getD hR 1) W)) ht hε hw hsh hr hstd hsat
 ·exact base_sp (pat := [.v (.s (.a (.fsl 0))), spanP 1]) (s := 8) rfl Tryz.func73 (fun base => ⟨base + 3, by kernel_rfl⟩) (fun L h => by obtain ⟨e1, e2⟩ := zero3 (a := tkL n at_ lo (L.getD 1 0) (L.getD 2 0)) (b := tkH n at_ hi (L.getD 1 0) (L.getD 2 0)) h; exact ⟨by show clampI _ = 0; rw [e1]; rfl, by show clampI _ = 0; rw [e2]; rfl⟩) rfl (fun L hR _ W hb => (by
   show Calls Tryz.prog 73 #[.slice (T.sa 0) (T.sn 0) (T.sc 0), .agg #[.int .i64 (L.getD 1 0), .int .i64 (L.getD 2 0)]] W _
   rw [hA, hn, hcp]
   refine (look_any n cap A at_ lo hi _ _ (R64_getD hR 1) W (hT2 W hb) hI).mono fun e w' ⟨q1, q2⟩ => ⟨q1.trans ?_, q2⟩
   show _ = Ending.returned (.tuple #[.agg #[.int .i64 (clampI _), .int .i64 (clampI _)], .int .i64 _])
   rw [clampI_eq lk_R64.1, clampI_eq lk_R64.2]
   rfl)) ht hε hw hsh hr hstd hsat
 ·exact base_sp (pat := [.v (.s (.a (.fsl 0))), spanP 1]) (s := 8) rfl Tryz.func78 (fun base => ⟨base + 3, by kernel_rfl⟩) (fun L h => by obtain ⟨e1, e2⟩ := zero3 (a := tkL n at_ lo (L.getD 1 0) (L.getD 2 0)) (b := tkH n at_ hi (L.getD 1 0) (L.getD 2 0)) h; exact ⟨by show clampI _ = 0; rw [e1]; rfl, by show clampI _ = 0; rw [e2]; rfl⟩) rfl (fun L hR _ W hb => (by
   show Calls Tryz.prog 78 #[.slice (T.sa 0) (T.sn 0) (T.sc 0), .agg #[.int .i64 (L.getD 1 0), .int .i64 (L.getD 2 0)]] W _
   rw [hA, hn, hcp]
   refine (rlook_any n cap A at_ lo hi _ _ (R64_getD hR 1) (R64_getD hR 2) W (hT2 W hb) hI).mono fun e w' ⟨q1, q2⟩ => ⟨q1.trans ?_, q2⟩
   show _ = Ending.returned (.tuple #[.agg #[.int .i64 (clampI _), .int .i64 (clampI _)], .int .i64 _])
   rw [clampI_eq lk_R64.1, clampI_eq lk_R64.2]
   rfl)) ht hε hw hsh hr hstd hsat
 ·exact base_sp (pat := [spanP 0]) (s := 7) rfl Tryz.func60 (fun base => ⟨base + 3, by kernel_rfl⟩) (fun L h => zero4 h) rfl (fun L hR _ W hb => (by
   show Calls Tryz.prog 60 #[.agg #[.int .i64 (L.getD 0 0), .int .i64 (L.getD 1 0)]] W _
   refine (sroot_any _ _ (R64_getD hR 0) (R64_getD hR 1) W).mono fun e w' ⟨q1, q2⟩ => ⟨q1.trans ?_, q2⟩
   show _ = Ending.returned (.tuple #[.agg #[.int .i64 (clampI _), .int .i64 (clampI _)], .int .i64 _])
   obtain ⟨r1, r2⟩ := ro_R64 (R64_getD hR 0) (R64_getD hR 1)
   rw [clampI_eq (okI_R64 r1), clampI_eq (okI_R64 r2)]
   rfl)) ht hε hw hsh hr hstd hsat
 ·exact base_sp (pat := [spanP 0]) (s := 7) rfl Tryz.func64 (fun base => ⟨base + 3, by kernel_rfl⟩) (fun L h => zero4 h) rfl (fun L hR _ W hb => (by
   show Calls Tryz.prog 64 #[.agg #[.int .i64 (L.getD 0 0), .int .i64 (L.getD 1 0)]] W _
   refine (rsroot_any _ _ (R64_getD hR 0) (R64_getD hR 1) W).mono fun e w' ⟨q1, q2⟩ => ⟨q1.trans ?_, q2⟩
   show _ = Ending.returned (.tuple #[.agg #[.int .i64 (clampI _), .int .i64 (clampI _)], .int .i64 _])
   obtain ⟨r1, r2⟩ := ro_R64 (R64_getD hR 0) (R64_getD hR 1)
   rw [clampI_eq (okI_R64 r1), clampI_eq (okI_R64 r2)]
   rfl)) ht hε hw hsh hr hstd hsat
 ·exact base_i (pat := [spanP 0]) (s := 9) rfl Tryz.func47 (fun base => ⟨base + 1, by kernel_rfl⟩) rfl (fun L hR _ W hb => (by
   show Calls Tryz.prog 47 #[.agg #[.int .i64 (L.getD 0 0), .int .i64 (L.getD 1 0)]] W _
   exact check_any _ _ (R64_getD hR 0).1 W)) ht hε hw hsh hr hstd hsat
 ·exact base_i (pat := [spanP 0]) (s := 9) rfl Tryz.func49 (fun base => ⟨base + 1, by kernel_rfl⟩) rfl (fun L hR _ W hb => (by
   show Calls Tryz.prog 49 #[.agg #[.int .i64 (L.getD 0 0), .int .i64 (L.getD 1 0)]] W _
   exact rcheck _ _ _ rfl W)) ht hε hw hsh hr hstd hsat
 ·exact base_b (pat := [spanP 0, spanP 2]) (s := 10) rfl Tryz.func41 (fun base => ⟨base + 1, by kernel_rfl⟩) rfl (fun L hR _ W hb => (by
   show Calls Tryz.prog 41 #[.agg #[.int .i64 (L.getD 0 0), .int .i64 (L.getD 1 0)], .agg #[.int .i64 (L.getD 2 0), .int .i64 (L.getD 3 0)]] W _
   refine (within_any _ _ _ _ (R64_getD hR 0).1 (R64_getD hR 2).1 W).mono fun e w' ⟨q1, q2⟩ => ⟨q1.trans ?_, q2⟩
   show _ = Ending.returned (.bool (decide ((if withinB _ _ _ _ then (1 : Int) else 0) ≠ 0)))
   cases withinB (L.getD 0 0) (L.getD 1 0) (L.getD 2 0) (L.getD 3 0) <;> rfl)) ht hε hw hsh hr hstd hsat
 ·exact base_b (pat := [spanP 0, spanP 2]) (s := 10) rfl Tryz.func81 (fun base => ⟨base + 1, by kernel_rfl⟩) rfl (fun L hR _ W hb => (by
   show Calls Tryz.prog 81 #[.agg #[.int .i64 (L.getD 0 0), .int .i64 (L.getD 1 0)], .agg #[.int .i64 (L.getD 2 0), .int .i64 (L.getD 3 0)]] W _
   refine (rwithin_any _ _ _ _ W).mono fun e w' ⟨q1, q2⟩ => ⟨q1.trans ?_, q2⟩
   show _ = Ending.returned (.bool (decide ((if withinB _ _ _ _ then (1 : Int) else 0) ≠ 0)))
   cases withinB (L.getD 0 0) (L.getD 1 0) (L.getD 2 0) (L.getD 3 0) <;> rfl)) ht hε hw hsh hr hstd hsat
 ·exact base_i (pat := [.v (.s (.a (.fsl 0)))]) (s := 11) rfl Tryz.func29 (fun base => ⟨base + 1, by kernel_rfl⟩) rfl (fun L hR _ W hb => (by
   show Calls Tryz.prog 29 #[.slice (T.sa 0) (T.sn 0) (T.sc 0)] W _
   rw [hA, hn, hcp]
   exact checktable_any n cap A at_ lo hi W (hT2 W hb) hI _ rfl)) ht hε hw hsh hr hstd hsat
 ·exact base_i (pat := [.v (.s (.a (.fsl 0)))]) (s := 11) rfl Tryz.func35 (fun base => ⟨base + 1, by kernel_rfl⟩) rfl (fun L hR _ W hb => (by
   show Calls Tryz.prog 35 #[.slice (T.sa 0) (T.sn 0) (T.sc 0)] W _
   rw [hA, hn, hcp]
   exact rchecktable_any n cap A at_ lo hi W (hT2 W hb) hI _ rfl)) ht hε hw hsh hr hstd hsat
 ·exact base_i (pat := [spanP 0, spanP 2]) (s := 0) rfl Tryz.func42 (fun base => ⟨base + 1, by kernel_rfl⟩) rfl (fun L hR _ W hb => (by
   show Calls Tryz.prog 42 #[.agg #[.int .i64 (L.getD 0 0), .int .i64 (L.getD 1 0)], .agg #[.int .i64 (L.getD 2 0), .int .i64 (L.getD 3 0)]] W _
   refine (order_any _ _ _ _ (R64_getD hR 0).1 (R64_getD hR 2).1 W).mono fun e w' ⟨q1, q2⟩ => ⟨q1.trans ?_, q2⟩
   show _ = Ending.returned (.int .i64 (if orderI _ _ _ _ = 0 then 0 else if orderI _ _ _ _ = 1 then 1 else -1))
   rw [ord3])) ht hε hw hsh hr hstd hsat
 ·exact base_i (pat := [spanP 0, spanP 2]) (s := 0) rfl Tryz.func45 (fun base => ⟨base + 1, by kernel_rfl⟩) rfl (fun L hR _ W hb => (by
   show Calls Tryz.prog 45 #[.agg #[.int .i64 (L.getD 0 0), .int .i64 (L.getD 1 0)], .agg #[.int .i64 (L.getD 2 0), .int .i64 (L.getD 3 0)]] W _
   refine (rorder_any _ _ _ _ W).mono fun e w' ⟨q1, q2⟩ => ⟨q1.trans ?_, q2⟩
   show _ = Ending.returned (.int .i64 (if orderI _ _ _ _ = 0 then 0 else if orderI _ _ _ _ = 1 then 1 else -1))
   rw [ord3])) ht hε hw hsh hr hstd hsat
end SX
end
end Go.Proofs.YtcjlpgmhlghdkaaGreat
