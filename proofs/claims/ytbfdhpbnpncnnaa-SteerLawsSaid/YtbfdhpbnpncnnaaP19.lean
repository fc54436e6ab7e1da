/- Packed: StS StR StLt. -/
import Derived.Test.YtbfdhpbnpncnnaaProg
import Derived.Test.YtbfdhpbnpncnnaaP5
import Derived.Test.YtbfdhpbnpncnnaaP7
import Derived.Test.YtbfdhpbnpncnnaaP13
import Derived.Test.YtbfdhpbnpncnnaaP15
import Derived.Test.YtbfdhpbnpncnnaaP18
set_option linter.unusedVariables false
set_option linter.unusedSimpArgs false
section
namespace Go.Proofs.Ytbfdhpbnpncnnaa
open Go.RowKit
namespace SX
def sy : List (Nat × Nat × Nat) := [(38, 1, 1), (39, 1, 1), (28, 2, 1), (33, 2, 1), (31, 3, 1), (35, 3, 1), (29, 4, 1), (36, 4, 1), (30, 5, 1), (37, 5, 1), (26, 9, 0), (32, 9, 0), (25, 60, 4), (22, 41, 3), (24, 41, 3), (9, 42, 3), (17, 42, 3), (13, 43, 3), (18, 43, 3), (10, 44, 3), (19, 44, 3), (11, 45, 3), (20, 45, 3)]
def ct : List Nat := [0, 1, 2, 8, 9, 10, 11, 12, 13, 14, 15, 16, 17, 18, 19, 20, 21, 22, 23, 24, 25, 26, 28, 29, 30, 31, 32, 33, 35, 36, 37, 38, 39, 40, 41, 42, 43, 44, 45, 46, 47, 48, 49, 50, 51, 52, 53, 54, 55, 56, 57, 58, 59, 60, 61, 62, 63, 64, 65, 66, 67, 68, 69, 70, 71, 72, 73, 74, 75, 76, 77, 78, 79, 80, 81, 82, 83, 84, 85, 86, 87, 88, 89, 90, 91, 92, 93, 94, 95, 96]
noncomputable def KF : Cfg := ⟨fun f => !(sy.any fun x => x.1 == f), fun f => ct.contains f, stdRes Try.prog (fun f => sy.lookup f)⟩
def sp3 (a b c : Int) (k : Nat) : Int := match k with
 | 0 => a
 | 1 => b
 | 2 => c
 | _ => 0
theorem sp3_R64 {a b c : Int} (h0 : R64 a) (h1 : R64 b) (h2 : R64 c) : ∀ k, R64 (sp3 a b c k)
 | 0 => h0
 | 1 => h1
 | 2 => h2
 | _ + 3 => R64_0
theorem okI_R64 {v : Bool} {x : Int} (h : R64 x) : R64 (okI v x) := by unfold okI; split <;> first | assumption | exact R64_0
theorem zI_R64 {v : Bool} {x : Int} (h : R64 x) : R64 (zI v x) := by unfold zI; split <;> first | assumption | exact R64_0
theorem errE_R64 {v : Bool} {x : Int} (h : R64 x) : R64 (errE v x) := by unfold errE; split <;> first | assumption | (unfold R64; omega)
theorem zE_R64 {v : Bool} {x : Int} (h : R64 x) : R64 (zE v x) := by unfold zE; split <;> first | assumption | (unfold R64; omega)
theorem oLo_R64 (a b : Int) : R64 (oLo a b) := by unfold oLo fits R64; split <;> simp_all <;> omega
theorem oHi_R64 (a b : Int) : R64 (oHi a b) := by unfold oHi fits R64; split <;> simp_all <;> omega
theorem oE_R64 (a b : Int) : R64 (oE a b) := by unfold oE R64; split <;> omega
theorem zero1 {v : Bool} {a b : Int} (h : errE v (oE a b) ≠ 0) : okI v (oLo a b) = 0 ∧ okI v (oHi a b) = 0 := by
 unfold errE oE at h; unfold okI oLo oHi
 cases v <;> simp at h ⊢
 cases hf : fits a b <;> simp_all
theorem zero2 {v z : Bool} {a b : Int} (h : errE v (zE z (oE a b)) ≠ 0) : okI v (zI z (oLo a b)) = 0 ∧ okI v (zI z (oHi a b)) = 0 := by
 unfold errE zE oE at h; unfold okI zI oLo oHi
 cases v <;> cases z <;> simp at h ⊢
 cases hf : fits a b <;> simp_all
noncomputable def val0 (s : Nat) (L : List Int) (k : Nat) : Int :=
 let g := fun i => L.getD i 0
 match s with
 | 1 => sp3 (okI (vB (g 0) (g 1) && vB (g 2) (g 3)) (oLo (g 0 + g 2) (g 1 + g 3))) (okI (vB (g 0) (g 1) && vB (g 2) (g 3)) (oHi (g 0 + g 2) (g 1 + g 3))) (errE (vB (g 0) (g 1) && vB (g 2) (g 3)) (oE (g 0 + g 2) (g 1 + g 3))) k
 | 2 => sp3 (okI (vB (g 0) (g 1) && vB (g 2) (g 3)) (oLo (g 0 - g 3) (g 1 - g 2))) (okI (vB (g 0) (g 1) && vB (g 2) (g 3)) (oHi (g 0 - g 3) (g 1 - g 2))) (errE (vB (g 0) (g 1) && vB (g 2) (g 3)) (oE (g 0 - g 3) (g 1 - g 2))) k
 | 3 => sp3 (okI (vB (g 0) (g 1) && vB (g 2) (g 3)) (oLo (mi (mL (g 0) (g 2) (g 3)) (mL (g 1) (g 2) (g 3))) (mx (mH (g 0) (g 2) (g 3)) (mH (g 1) (g 2) (g 3))))) (okI (vB (g 0) (g 1) && vB (g 2) (g 3)) (oHi (mi (mL (g 0) (g 2) (g 3)) (mL (g 1) (g 2) (g 3))) (mx (mH (g 0) (g 2) (g 3)) (mH (g 1) (g 2) (g 3))))) (errE (vB (g 0) (g 1) && vB (g 2) (g 3)) (oE (mi (mL (g 0) (g 2) (g 3)) (mL (g 1) (g 2) (g 3))) (mx (mH (g 0) (g 2) (g 3)) (mH (g 1) (g 2) (g 3))))) k
 | 4 => sp3 (okI (vB (g 0) (g 1) && vB (g 2) (g 3)) (zI (zB (g 2) (g 3)) (oLo (mi (dL (g 0) (g 2) (g 3)) (dL (g 1) (g 2) (g 3))) (mx (dH (g 0) (g 2) (g 3)) (dH (g 1) (g 2) (g 3)))))) (okI (vB (g 0) (g 1) && vB (g 2) (g 3)) (zI (zB (g 2) (g 3)) (oHi (mi (dL (g 0) (g 2) (g 3)) (dL (g 1) (g 2) (g 3))) (mx (dH (g 0) (g 2) (g 3)) (dH (g 1) (g 2) (g 3)))))) (errE (vB (g 0) (g 1) && vB (g 2) (g 3)) (zE (zB (g 2) (g 3)) (oE (mi (dL (g 0) (g 2) (g 3)) (dL (g 1) (g 2) (g 3))) (mx (dH (g 0) (g 2) (g 3)) (dH (g 1) (g 2) (g 3)))))) k
 | 5 => sp3 (okI (vB (g 0) (g 1)) (oLo (mi (g 0 * g 2) (g 1 * g 2)) (mx (g 0 * g 2) (g 1 * g 2)))) (okI (vB (g 0) (g 1)) (oHi (mi (g 0 * g 2) (g 1 * g 2)) (mx (g 0 * g 2) (g 1 * g 2)))) (errE (vB (g 0) (g 1)) (oE (mi (g 0 * g 2) (g 1 * g 2)) (mx (g 0 * g 2) (g 1 * g 2)))) k
 | 9 => if vB (g 0) (g 1) then 0 else 2
 | _ => 0
theorem val0_R64 (s : Nat) (L : List Int) (k : Nat) : R64 (val0 s L k) := by
 unfold val0
 dsimp only
 split
 all_goals first
  | exact R64_0
  | exact sp3_R64 (okI_R64 (oLo_R64 _ _)) (okI_R64 (oHi_R64 _ _)) (errE_R64 (oE_R64 _ _)) k
  | exact sp3_R64 (okI_R64 (zI_R64 (oLo_R64 _ _))) (okI_R64 (zI_R64 (oHi_R64 _ _))) (errE_R64 (zE_R64 (oE_R64 _ _))) k
  | (split <;> (unfold R64; omega))
def spanP (k : Nat) : LV := .v (.agg [.a (.int .i64 (.var k)), .a (.int .i64 (.var (k + 1)))])
def shpL : List (FuncId × List LV) := [(38, [spanP 0, spanP 2]), (39, [spanP 0, spanP 2]), (28, [spanP 0, spanP 2]), (33, [spanP 0, spanP 2]), (31, [spanP 0, spanP 2]), (35, [spanP 0, spanP 2]), (29, [spanP 0, spanP 2]), (36, [spanP 0, spanP 2]), (30, [spanP 0, .v (.s (.a (.int .i64 (.var 2))))]), (37, [spanP 0, .v (.s (.a (.int .i64 (.var 2))))]), (26, [spanP 0]), (32, [spanP 0])]
def shp0 (f : FuncId) (args : List LV) (mem : List (Nat × Cells)) : Bool := match shpL.lookup f with
 | some p => matchLVs p args 0
 | none => false
noncomputable def S0 : Sig := ⟨fun f => sy.lookup f, val0⟩
theorem R64_getD {L : List Int} (h : ∀ x ∈ L, R64 x) (i : Nat) : I64 (L.getD i 0) := envL_R64 (T := ⟨fun _ => 0, fun _ => false, fun _ => none, fun _ => 0, fun _ => 0, fun _ => default⟩) h i
theorem con0 (w0 : World) (T : Env) : Con Try.prog S0 shp0 T w0 := by
 intro ε h1 h2 h3 hε w hw f args mem res upd hsh hstd hr hsat
 have ht : ε.sa = T.sa ∧ ε.sn = T.sn ∧ ε.sc = T.sc := ⟨h1, h2, h3⟩
 unfold shp0 at hsh
 split at hsh
 case h_2 => cases hsh
 rename_i p hp
 have hmem := lookup_mem hp
 simp only [shpL, List.mem_cons, Prod.mk.injEq, List.not_mem_nil, or_false] at hmem
 rcases hmem with ⟨rfl, rfl⟩ | ⟨rfl, rfl⟩ | ⟨rfl, rfl⟩ | ⟨rfl, rfl⟩ | ⟨rfl, rfl⟩ | ⟨rfl, rfl⟩ | ⟨rfl, rfl⟩ | ⟨rfl, rfl⟩ | ⟨rfl, rfl⟩ | ⟨rfl, rfl⟩ | ⟨rfl, rfl⟩ | ⟨rfl, rfl⟩
 ·exact base_sp (pat := [spanP 0, spanP 2]) (s := 1) rfl Try.func38 (fun base => ⟨base + 3, by kernel_rfl⟩) (fun L h => zero1 h) rfl (fun L hR _ W hb => (by
   show Calls Try.prog 38 #[.agg #[.int .i64 (L.getD 0 0), .int .i64 (L.getD 1 0)], .agg #[.int .i64 (L.getD 2 0), .int .i64 (L.getD 3 0)]] W _
   exact add_any _ _ _ _ (R64_getD hR 0) (R64_getD hR 1) (R64_getD hR 2) (R64_getD hR 3) W)) ht hε hw hsh hr hstd hsat
 ·exact base_sp (pat := [spanP 0, spanP 2]) (s := 1) rfl Try.func39 (fun base => ⟨base + 3, by kernel_rfl⟩) (fun L h => zero1 h) rfl (fun L hR _ W hb => (by
   show Calls Try.prog 39 #[.agg #[.int .i64 (L.getD 0 0), .int .i64 (L.getD 1 0)], .agg #[.int .i64 (L.getD 2 0), .int .i64 (L.getD 3 0)]] W _
   exact radd_any _ _ _ _ (R64_getD hR 0) (R64_getD hR 1) (R64_getD hR 2) (R64_getD hR 3) W)) ht hε hw hsh hr hstd hsat
 ·exact base_sp (pat := [spanP 0, spanP 2]) (s := 2) rfl Try.func28 (fun base => ⟨base + 3, by kernel_rfl⟩) (fun L h => zero1 h) rfl (fun L hR _ W hb => (by
   show Calls Try.prog 28 #[.agg #[.int .i64 (L.getD 0 0), .int .i64 (L.getD 1 0)], .agg #[.int .i64 (L.getD 2 0), .int .i64 (L.getD 3 0)]] W _
   exact sub_any _ _ _ _ (R64_getD hR 0) (R64_getD hR 1) (R64_getD hR 2) (R64_getD hR 3) W)) ht hε hw hsh hr hstd hsat
 ·exact base_sp (pat := [spanP 0, spanP 2]) (s := 2) rfl Try.func33 (fun base => ⟨base + 3, by kernel_rfl⟩) (fun L h => zero1 h) rfl (fun L hR _ W hb => (by
   show Calls Try.prog 33 #[.agg #[.int .i64 (L.getD 0 0), .int .i64 (L.getD 1 0)], .agg #[.int .i64 (L.getD 2 0), .int .i64 (L.getD 3 0)]] W _
   exact rsub_any _ _ _ _ (R64_getD hR 0) (R64_getD hR 1) (R64_getD hR 2) (R64_getD hR 3) W)) ht hε hw hsh hr hstd hsat
 ·exact base_sp (pat := [spanP 0, spanP 2]) (s := 3) rfl Try.func31 (fun base => ⟨base + 3, by kernel_rfl⟩) (fun L h => zero1 h) rfl (fun L hR _ W hb => (by
   show Calls Try.prog 31 #[.agg #[.int .i64 (L.getD 0 0), .int .i64 (L.getD 1 0)], .agg #[.int .i64 (L.getD 2 0), .int .i64 (L.getD 3 0)]] W _
   exact mul_any _ _ _ _ (R64_getD hR 0) (R64_getD hR 1) (R64_getD hR 2) (R64_getD hR 3) W)) ht hε hw hsh hr hstd hsat
 ·exact base_sp (pat := [spanP 0, spanP 2]) (s := 3) rfl Try.func35 (fun base => ⟨base + 3, by kernel_rfl⟩) (fun L h => zero1 h) rfl (fun L hR _ W hb => (by
   show Calls Try.prog 35 #[.agg #[.int .i64 (L.getD 0 0), .int .i64 (L.getD 1 0)], .agg #[.int .i64 (L.getD 2 0), .int .i64 (L.getD 3 0)]] W _
   exact rmul_any _ _ _ _ (R64_getD hR 0) (R64_getD hR 1) (R64_getD hR 2) (R64_getD hR 3) W)) ht hε hw hsh hr hstd hsat
 ·exact base_sp (pat := [spanP 0, spanP 2]) (s := 4) rfl Try.func29 (fun base => ⟨base + 3, by kernel_rfl⟩) (fun L h => zero2 h) rfl (fun L hR _ W hb => (by
   show Calls Try.prog 29 #[.agg #[.int .i64 (L.getD 0 0), .int .i64 (L.getD 1 0)], .agg #[.int .i64 (L.getD 2 0), .int .i64 (L.getD 3 0)]] W _
   exact div_any _ _ _ _ (R64_getD hR 0) (R64_getD hR 1) (R64_getD hR 2) (R64_getD hR 3) W)) ht hε hw hsh hr hstd hsat
 ·exact base_sp (pat := [spanP 0, spanP 2]) (s := 4) rfl Try.func36 (fun base => ⟨base + 3, by kernel_rfl⟩) (fun L h => zero2 h) rfl (fun L hR _ W hb => (by
   show Calls Try.prog 36 #[.agg #[.int .i64 (L.getD 0 0), .int .i64 (L.getD 1 0)], .agg #[.int .i64 (L.getD 2 0), .int .i64 (L.getD 3 0)]] W _
   exact rdiv_any _ _ _ _ (R64_getD hR 0) (R64_getD hR 1) (R64_getD hR 2) (R64_getD hR 3) W)) ht hε hw hsh hr hstd hsat
 ·exact base_sp (pat := [spanP 0, .v (.s (.a (.int .i64 (.var 2))))]) (s := 5) rfl Try.func30 (fun base => ⟨base + 3, by kernel_rfl⟩) (fun L h => zero1 h) rfl (fun L hR _ W hb => (by
   show Calls Try.prog 30 #[.agg #[.int .i64 (L.getD 0 0), .int .i64 (L.getD 1 0)], .int .i64 (L.getD 2 0)] W _
   exact scale_any _ _ _ (R64_getD hR 0) (R64_getD hR 1) (R64_getD hR 2) W)) ht hε hw hsh hr hstd hsat
 ·exact base_sp (pat := [spanP 0, .v (.s (.a (.int .i64 (.var 2))))]) (s := 5) rfl Try.func37 (fun base => ⟨base + 3, by kernel_rfl⟩) (fun L h => zero1 h) rfl (fun L hR _ W hb => (by
   show Calls Try.prog 37 #[.agg #[.int .i64 (L.getD 0 0), .int .i64 (L.getD 1 0)], .int .i64 (L.getD 2 0)] W _
   exact rscale_any _ _ _ (R64_getD hR 0) (R64_getD hR 1) (R64_getD hR 2) W)) ht hε hw hsh hr hstd hsat
 ·exact base_i (pat := [spanP 0]) (s := 9) rfl Try.func26 (fun base => ⟨base + 1, by kernel_rfl⟩) rfl (fun L hR _ W hb => (by
   show Calls Try.prog 26 #[.agg #[.int .i64 (L.getD 0 0), .int .i64 (L.getD 1 0)]] W _
   exact check_any _ _ (R64_getD hR 0).1 W)) ht hε hw hsh hr hstd hsat
 ·exact base_i (pat := [spanP 0]) (s := 9) rfl Try.func32 (fun base => ⟨base + 1, by kernel_rfl⟩) rfl (fun L hR _ W hb => (by
   show Calls Try.prog 32 #[.agg #[.int .i64 (L.getD 0 0), .int .i64 (L.getD 1 0)]] W _
   exact rcheck _ _ _ rfl W)) ht hε hw hsh hr hstd hsat
end SX
end Go.Proofs.Ytbfdhpbnpncnnaa
end
section
set_option maxRecDepth 1000000
namespace Go.Proofs.Ytbfdhpbnpncnnaa
open Go.RowKit
namespace SX
def T0 : Env := ⟨fun _ => 0, fun _ => false, fun _ => none, fun _ => 0, fun _ => 0, fun _ => default⟩
theorem hmix : Try.prog.follows .mixedOrders = true := rfl
def pat41 : List LV := [.v (.agg [.a (.int .i64 (.var 1)), .a (.int .i64 (.var 2))]), .v (.agg [.a (.int .i64 (.var 3)), .a (.int .i64 (.var 4))])]
theorem pair41 : pairM Try.prog S0 shp0 KF 3000 (2^240) 22 24 pat41 = true := by kernel_rfl
def pat42 : List LV := [.v (.agg [.a (.int .i64 (.var 1)), .a (.int .i64 (.var 2))]), .v (.agg [.a (.int .i64 (.var 3)), .a (.int .i64 (.var 4))])]
theorem pair42 : pairM Try.prog S0 shp0 KF 3000 (2^240) 9 17 pat42 = true := by kernel_rfl
def pat43 : List LV := [.v (.agg [.a (.int .i64 (.var 1)), .a (.int .i64 (.var 2))]), .v (.agg [.a (.int .i64 (.var 3)), .a (.int .i64 (.var 4))])]
theorem pair43 : pairM Try.prog S0 shp0 KF 3000 (2^240) 13 18 pat43 = true := by kernel_rfl
def pat44 : List LV := [.v (.agg [.a (.int .i64 (.var 1)), .a (.int .i64 (.var 2))]), .v (.agg [.a (.int .i64 (.var 3)), .a (.int .i64 (.var 4))])]
theorem pair44 : pairM Try.prog S0 shp0 KF 3000 (2^240) 10 19 pat44 = true := by kernel_rfl
def pat45 : List LV := [.v (.agg [.a (.int .i64 (.var 1)), .a (.int .i64 (.var 2))]), .v (.s (.a (.int .i64 (.var 3))))]
theorem pair45 : pairM Try.prog S0 shp0 KF 3000 (2^240) 11 20 pat45 = true := by kernel_rfl
theorem whole2 : readB Try.prog S0 shp0 KF 3000 (2^240) 25 [.v (.s (.a (.int .i64 (.lit 2))))] [] = true := by kernel_rfl
theorem whole2_lit : (rd Try.prog KF 3000 (2^240) 25 [.v (.s (.a (.int .i64 (.lit 2))))] []).1 = .v (.agg [.a (.int .i64 (.lit 8589934592)), .a (.int .i64 (.lit 8589934592))]) := eq_of_beq (by kernel_rfl)
theorem whole6 : readB Try.prog S0 shp0 KF 3000 (2^240) 25 [.v (.s (.a (.int .i64 (.lit 6))))] [] = true := by kernel_rfl
theorem whole6_lit : (rd Try.prog KF 3000 (2^240) 25 [.v (.s (.a (.int .i64 (.lit 6))))] []).1 = .v (.agg [.a (.int .i64 (.lit 25769803776)), .a (.int .i64 (.lit 25769803776))]) := eq_of_beq (by kernel_rfl)
noncomputable def envM (S : Sig) (T : Env) (f g : FuncId) (rest : List LV) (L : List Int) : Env := (envL T (L.map clampI)).solve S ((rd Try.prog KF 3000 (2^240) f (ptrP rest) memP).2.2 ++ (rd Try.prog KF 3000 (2^240) g (ptrP rest) memP).2.2)
noncomputable def valM (S : Sig) (T : Env) (f g : FuncId) (rest : List LV) (L : List Int) (k : Nat) : Int := match k with
 | 0 => clampI ((spE0 (rd Try.prog KF 3000 (2^240) f (ptrP rest) memP).1).den (envM S T f g rest L)).1
 | 1 => clampI ((spE1 (rd Try.prog KF 3000 (2^240) f (ptrP rest) memP).1).den (envM S T f g rest L)).1
 | 31 => clampI ((cellE (rd Try.prog KF 3000 (2^240) f (ptrP rest) memP).2.1).den (envM S T f g rest L)).1
 | _ => 0
theorem valM_R64 (S : Sig) (T : Env) (f g : FuncId) (rest : List LV) (L : List Int) (k : Nat) : R64 (valM S T f g rest L k) := by
 unfold valM
 split
 ·exact clampI_R64 _
 ·exact clampI_R64 _
 ·exact clampI_R64 _
 ·exact R64_0
noncomputable def val1 (T : Env) (s : Nat) (L : List Int) (k : Nat) : Int := if s ≤ 9 then val0 s L k else match s with
 | 41 => valM S0 T 22 24 pat41 L k
 | 42 => valM S0 T 9 17 pat42 L k
 | 43 => valM S0 T 13 18 pat43 L k
 | 44 => valM S0 T 10 19 pat44 L k
 | 45 => valM S0 T 11 20 pat45 L k
 | _ => 0
theorem val1_R64 (T : Env) (s : Nat) (L : List Int) (k : Nat) : R64 (val1 T s L k) := by
 unfold val1
 split
 ·exact val0_R64 _ _ _
 ·split
  all_goals first
   | exact valM_R64 _ _ _ _ _ _ _
   | exact R64_0
noncomputable def S1 (T : Env) : Sig := ⟨fun f => sy.lookup f, val1 T⟩
def whShape (args : List LV) (mem : List (Nat × Cells)) : Bool := mem.isEmpty && (args == [.v (.s (.a (.int .i64 (.lit 2))))] || args == [.v (.s (.a (.int .i64 (.lit 6))))])
def shp1 (f : FuncId) (args : List LV) (mem : List (Nat × Cells)) : Bool :=
 if f == 22 || f == 24 then shpM pat41 args mem else
 if f == 9 || f == 17 then shpM pat42 args mem else
 if f == 13 || f == 18 then shpM pat43 args mem else
 if f == 10 || f == 19 then shpM pat44 args mem else
 if f == 11 || f == 20 then shpM pat45 args mem else
 if f == 25 then whShape args mem else
 shp0 f args mem
theorem sat_of {S' S : Sig} {f : FuncId} (hsym : S'.sym f = S.sym f) (hval : ∀ s z, S.sym f = some (s, z) → ∀ L k, S'.val s L k = S.val s L k) {ε : Env} {pc : E} {args : List LV} {mem : List (Nat × Cells)} {res : LV} {upd : List (Nat × Cells)} (h : Ob.sat S' ε (.call pc f args mem res upd)) : Ob.sat S ε (.call pc f args mem res upd) := by
 intro base s l hc j hj
 have hc' : callNo S' f args mem = some (base, s, l) := by rw [← hc]; unfold callNo; rw [hsym]
 have := h base s l hc' j hj
 have hz : ∃ z, S.sym f = some (s, z) := by
  unfold callNo at hc
  split at hc
  ·rename_i s' z hs
   simp only [Option.some.injEq, Prod.mk.injEq] at hc
   exact ⟨z, by rw [hs, hc.2.1]⟩
  ·cases hc
 obtain ⟨z, hz⟩ := hz
 rwa [hval s z hz] at this
theorem std_of {S' S : Sig} {f : FuncId} (hsym : S'.sym f = S.sym f) (args : List LV) (mem : List (Nat × Cells)) : stdRes Try.prog S'.sym f args mem = stdRes Try.prog S.sym f args mem := by
 unfold stdRes; rw [hsym]
theorem shpM_R64 {ε : Env} (hε : ∀ i, R64 (ε.i i)) {rest args : List LV} {mem : List (Nat × Cells)} (h : shpM rest args mem = true) (hr : args.all rngLV = true) (hp : rest.all fsl0LV = true) : ∀ x ∈ args.flatMap (argInts ε []), R64 x := by
 unfold shpM at h
 split at h
 ·simp only [Bool.and_eq_true] at h
  intro x hx
  rw [List.flatMap_cons] at hx
  rcases List.mem_append.1 hx with hx | hx
  ·simp [argInts, V1.cells, SV.ints] at hx
  ·simp only [List.all_cons, Bool.and_eq_true] at hr
   exact matchLVs_R64 hε h.1.2 hr.2 hp x hx
 ·cases h
theorem shp0_le {f : FuncId} {args : List LV} {mem : List (Nat × Cells)} {s z : Nat} (h : shp0 f args mem = true) (hs : sy.lookup f = some (s, z)) : s ≤ 9 := by
 unfold shp0 at h
 split at h
 ·rename_i p hp
  have := List.all_eq_true.1 (show shpL.all (fun x => match sy.lookup x.1 with | some y => decide (y.1 ≤ 9) | none => true) = true by kernel_rfl) _ (lookup_mem hp)
  simp only [hs, decide_eq_true_eq] at this
  exact this
 ·cases h
theorem con1 (w0 : World) (T : Env) : Con Try.prog (S1 T) shp1 T w0 := by
 have c0 := con0 w0 T
 intro ε h1 h2 h3 hε w hw f args mem res upd hsh hstd hr hsat
 have ht : ε.sa = T.sa ∧ ε.sn = T.sn ∧ ε.sc = T.sc := ⟨h1, h2, h3⟩
 have hS0 : ∀ s l k, R64 (S0.val s l k) := fun s l k => val0_R64 s l k
 unfold shp1 at hsh
 by_cases hf : (f == 22 || f == 24) = true
 ·rw [if_pos hf] at hsh
  have hq : f = 22 ∨ f = 24 := by simp only [Bool.or_eq_true, beq_iff_eq] at hf; exact hf
  have hR := shpM_R64 hε hsh (rngOb_args hr) (by kernel_rfl)
  rcases hq with rfl | rfl
  ·exact pairM_con hmix (by decide) pair41 (of_decide_eq_true (by kernel_rfl)) hS0 c0 (s := 41) (fun L => rfl) (fun L => rfl) (fun L => rfl) (.inl rfl) rfl Try.func22 (fun base => ⟨base + 2, by kernel_rfl⟩) ε ht hε hw hsh hR hstd hsat
  ·exact pairM_con hmix (by decide) pair41 (of_decide_eq_true (by kernel_rfl)) hS0 c0 (s := 41) (fun L => rfl) (fun L => rfl) (fun L => rfl) (.inr rfl) rfl Try.func24 (fun base => ⟨base + 2, by kernel_rfl⟩) ε ht hε hw hsh hR hstd hsat
 rw [if_neg hf] at hsh
 clear hf
 by_cases hf : (f == 9 || f == 17) = true
 ·rw [if_pos hf] at hsh
  have hq : f = 9 ∨ f = 17 := by simp only [Bool.or_eq_true, beq_iff_eq] at hf; exact hf
  have hR := shpM_R64 hε hsh (rngOb_args hr) (by kernel_rfl)
  rcases hq with rfl | rfl
  ·exact pairM_con hmix (by decide) pair42 (of_decide_eq_true (by kernel_rfl)) hS0 c0 (s := 42) (fun L => rfl) (fun L => rfl) (fun L => rfl) (.inl rfl) rfl Try.func9 (fun base => ⟨base + 2, by kernel_rfl⟩) ε ht hε hw hsh hR hstd hsat
  ·exact pairM_con hmix (by decide) pair42 (of_decide_eq_true (by kernel_rfl)) hS0 c0 (s := 42) (fun L => rfl) (fun L => rfl) (fun L => rfl) (.inr rfl) rfl Try.func17 (fun base => ⟨base + 2, by kernel_rfl⟩) ε ht hε hw hsh hR hstd hsat
 rw [if_neg hf] at hsh
 clear hf
 by_cases hf : (f == 13 || f == 18) = true
 ·rw [if_pos hf] at hsh
  have hq : f = 13 ∨ f = 18 := by simp only [Bool.or_eq_true, beq_iff_eq] at hf; exact hf
  have hR := shpM_R64 hε hsh (rngOb_args hr) (by kernel_rfl)
  rcases hq with rfl | rfl
  ·exact pairM_con hmix (by decide) pair43 (of_decide_eq_true (by kernel_rfl)) hS0 c0 (s := 43) (fun L => rfl) (fun L => rfl) (fun L => rfl) (.inl rfl) rfl Try.func13 (fun base => ⟨base + 2, by kernel_rfl⟩) ε ht hε hw hsh hR hstd hsat
  ·exact pairM_con hmix (by decide) pair43 (of_decide_eq_true (by kernel_rfl)) hS0 c0 (s := 43) (fun L => rfl) (fun L => rfl) (fun L => rfl) (.inr rfl) rfl Try.func18 (fun base => ⟨base + 2, by kernel_rfl⟩) ε ht hε hw hsh hR hstd hsat
 rw [if_neg hf] at hsh
 clear hf
 by_cases hf : (f == 10 || f == 19) = true
 ·rw [if_pos hf] at hsh
  have hq : f = 10 ∨ f = 19 := by simp only [Bool.or_eq_true, beq_iff_eq] at hf; exact hf
  have hR := shpM_R64 hε hsh (rngOb_args hr) (by kernel_rfl)
  rcases hq with rfl | rfl
  ·exact pairM_con hmix (by decide) pair44 (of_decide_eq_true (by kernel_rfl)) hS0 c0 (s := 44) (fun L => rfl) (fun L => rfl) (fun L => rfl) (.inl rfl) rfl Try.func10 (fun base => ⟨base + 2, by kernel_rfl⟩) ε ht hε hw hsh hR hstd hsat
  ·exact pairM_con hmix (by decide) pair44 (of_decide_eq_true (by kernel_rfl)) hS0 c0 (s := 44) (fun L => rfl) (fun L => rfl) (fun L => rfl) (.inr rfl) rfl Try.func19 (fun base => ⟨base + 2, by kernel_rfl⟩) ε ht hε hw hsh hR hstd hsat
 rw [if_neg hf] at hsh
 clear hf
 by_cases hf : (f == 11 || f == 20) = true
 ·rw [if_pos hf] at hsh
  have hq : f = 11 ∨ f = 20 := by simp only [Bool.or_eq_true, beq_iff_eq] at hf; exact hf
  have hR := shpM_R64 hε hsh (rngOb_args hr) (by kernel_rfl)
  rcases hq with rfl | rfl
  ·exact pairM_con hmix (by decide) pair45 (of_decide_eq_true (by kernel_rfl)) hS0 c0 (s := 45) (fun L => rfl) (fun L => rfl) (fun L => rfl) (.inl rfl) rfl Try.func11 (fun base => ⟨base + 2, by kernel_rfl⟩) ε ht hε hw hsh hR hstd hsat
  ·exact pairM_con hmix (by decide) pair45 (of_decide_eq_true (by kernel_rfl)) hS0 c0 (s := 45) (fun L => rfl) (fun L => rfl) (fun L => rfl) (.inr rfl) rfl Try.func20 (fun base => ⟨base + 2, by kernel_rfl⟩) ε ht hε hw hsh hR hstd hsat
 rw [if_neg hf] at hsh
 clear hf
 by_cases hf : (f == 25) = true
 ·rw [if_pos hf] at hsh
  have hq : f = 25 := eq_of_beq hf
  subst hq
  unfold whShape at hsh
  simp only [Bool.and_eq_true, Bool.or_eq_true, beq_iff_eq, List.isEmpty_iff] at hsh
  obtain ⟨rfl, hsh⟩ := hsh
  have hc := fun (ε : Env) (_ : ∀ v, v < top → ε.i v = ([] : List Int).getD v 0) e1 e2 e3 e4 f args mem res upd k1 k2 k3 k4 => con0 w T0 ε e1 e2 e3 e4 w (Below.refl _ _) f args mem res upd k1 k2 k3 k4
  rcases hsh with rfl | rfl
  ·have hz : stdRes Try.prog (S1 T).sym 25 [.v (.s (.a (.int .i64 (.lit 2))))] [] = some (.v (.agg [.a (.int .i64 (.lit 8589934592)), .a (.int .i64 (.lit 8589934592))]), []) := by
    unfold stdRes; rw [show (S1 T).sym 25 = some (60, 4) from rfl, Try.func25]; rfl
   rw [hz] at hstd
   cases hstd
   obtain ⟨ε', -, -, -, -, -, -, hok⟩ := read_ob hmix (by decide) whole2 hS0 T0 (w := w) (L := []) (by simp) hc
   rw [whole2_lit] at hok
   intro _ w2 ρ hw2 hblk hinj
   have run := hok rfl w2 ρ hw2 (fun b cs h => by cases h) hinj
   rw [show List.map (LV.den ε' ρ) [LV.v (.s (.a (.int .i64 (.lit 2))))] = List.map (LV.den ε ρ) [LV.v (.s (.a (.int .i64 (.lit 2))))] from rfl] at run
   exact Calls.mono run fun e w' ⟨q1, _, q3⟩ => ⟨q1.trans rfl, by simp, q3⟩
  ·have hz : stdRes Try.prog (S1 T).sym 25 [.v (.s (.a (.int .i64 (.lit 6))))] [] = some (.v (.agg [.a (.int .i64 (.lit 25769803776)), .a (.int .i64 (.lit 25769803776))]), []) := by
    unfold stdRes; rw [show (S1 T).sym 25 = some (60, 4) from rfl, Try.func25]; rfl
   rw [hz] at hstd
   cases hstd
   obtain ⟨ε', -, -, -, -, -, -, hok⟩ := read_ob hmix (by decide) whole6 hS0 T0 (w := w) (L := []) (by simp) hc
   rw [whole6_lit] at hok
   intro _ w2 ρ hw2 hblk hinj
   have run := hok rfl w2 ρ hw2 (fun b cs h => by cases h) hinj
   rw [show List.map (LV.den ε' ρ) [LV.v (.s (.a (.int .i64 (.lit 6))))] = List.map (LV.den ε ρ) [LV.v (.s (.a (.int .i64 (.lit 6))))] from rfl] at run
   exact Calls.mono run fun e w' ⟨q1, _, q3⟩ => ⟨q1.trans rfl, by simp, q3⟩
 rw [if_neg hf] at hsh
 clear hf
 ·have hsym : (S1 T).sym f = S0.sym f := rfl
  rw [std_of hsym] at hstd
  refine c0 ε h1 h2 h3 hε w hw f args mem res upd hsh hstd hr (sat_of hsym (fun s z hs L' k => ?_) hsat)
  show (if s ≤ 9 then _ else _) = _
  rw [if_pos (shp0_le hsh hs)]; rfl
end SX
end Go.Proofs.Ytbfdhpbnpncnnaa
end
section
set_option maxRecDepth 1000000
namespace Go.Proofs.Ytbfdhpbnpncnnaa
open Go.RowKit
namespace lawSteerLaws
open SX in
def argsF : List LV := [.v (.agg [.a (.int .i64 (.var 0)), .a (.int .i64 (.var 1)), .a (.int .i64 (.var 2)), .a (.int .i64 (.var 3)), .a (.int .i64 (.var 4)), .a (.int .i64 (.var 5)), .a (.int .i64 (.var 6)), .a (.int .i64 (.var 7)), .a (.int .i64 (.var 8))]), .v (.agg [.a (.int .i64 (.var 9)), .a (.int .i64 (.var 10))]), .v (.agg [.a (.int .i64 (.var 11)), .a (.int .i64 (.var 12))])]
open SX in
def onObs (X : Option (LV × St × Nat × List Ob)) (p : LV → List Ob → Bool) : Bool := match X with | some (v, _, _, obs) => p v obs | none => false
open SX in
def gNub (S : Sig) (obs : List Ob) : Bool := match nub S obs [] with | some r => okObs S ⟨[], [], []⟩ (r.reverse.map (·.2)) | none => false
open SX in
def gShp (P : Program) (S : Sig) (shp : FuncId → List LV → List (Nat × Cells) → Bool) (ob : Ob) : Bool := match ob with | .call pc f args mem res upd => pc == .blit true && shp f args mem && stdRes P S.sym f args mem == some (res, upd) | _ => true
open SX in
theorem split {P : Program} {X : Option (LV × St × Nat × List Ob)} {v0 : LV} {S : Sig} {shp : FuncId → List LV → List (Nat × Cells) → Bool} (h0 : onObs X (fun v _ => v == v0) = true)
  (h1 : onObs X (fun _ obs => gNub S obs) = true) (h2 : onObs X (fun _ obs => obs.all rngOb) = true) (h3 : onObs X (fun _ obs => obs.all (gShp P S shp)) = true) :
  onObs X (fun v obs => v == v0 && goodB P S shp obs) = true := by
 cases X with
 | none => cases h0
 | some x =>
  obtain ⟨v, s, n, obs⟩ := x
  simp only [onObs] at h0 h1 h2 h3 ⊢
  have h4 : goodB P S shp obs = true := by
   unfold goodB
   unfold gNub at h1
   cases hn : nub S obs [] with
   | none => rw [hn] at h1; cases h1
   | some r =>
    rw [hn] at h1
    simp only [Bool.and_eq_true]
    exact ⟨⟨h1, h2⟩, h3⟩
  rw [h0, h4]; rfl
open SX in
theorem law_true' {P : Program} (hmix : P.follows .mixedOrders = true) {S : Sig} {shp : FuncId → List LV → List (Nat × Cells) → Bool} {K : Cfg} {n sp : Nat} (hsp : 0 < sp) {f : FuncId} {args : List LV} {nv nid : Nat}
  (h : onObs (evFn P K n sp f args [] (.blit true) nv nid) (fun v obs => v == .v (.s (.a (.bool (.blit true)))) && goodB P S shp obs) = true) (ha : noIds args = true)
  (hS : ∀ s l k, R64 (S.val s l k)) {T : Env} {w : World} (hc : Con P S shp T w) (ε0 : Env) (h0 : ∀ i, R64 (ε0.i i)) (hT : ε0.sa = T.sa ∧ ε0.sn = T.sn ∧ ε0.sc = T.sc) (hv : ∀ x ∈ args, ∀ ε : Env, (∀ v, v < top → ε.i v = ε0.i v) → ε.sa = ε0.sa → ε.sn = ε0.sn → ε.sc = ε0.sc → x.den ε (fun _ => 0) = x.den ε0 (fun _ => 0)) :
  Calls P f (args.map (LV.den ε0 fun _ => 0)).toArray w (fun e w' => e = .returned (.bool true) ∧ Below w.heap.size w w') :=
 law_true hmix hsp (by unfold onObs at h; exact h) ha hS hc ε0 h0 hT hv
open SX in
theorem lt0 : onObs (evFn Try.prog KF 3000 (2^240) 3 argsF [] (.blit true) 0 1) (fun v _ => v == .v (.s (.a (.bool (.blit true))))) = true := by kernel_rfl
open SX in
theorem lt1 (T : Env) : onObs (evFn Try.prog KF 3000 (2^240) 3 argsF [] (.blit true) 0 1) (fun _ obs => gNub (S1 T) obs) = true := by kernel_rfl
open SX in
theorem lt2 : onObs (evFn Try.prog KF 3000 (2^240) 3 argsF [] (.blit true) 0 1) (fun _ obs => obs.all rngOb) = true := by kernel_rfl
open SX in
theorem lt3 (T : Env) : onObs (evFn Try.prog KF 3000 (2^240) 3 argsF [] (.blit true) 0 1) (fun _ obs => obs.all (gShp Try.prog (S1 T) shp1)) = true := by kernel_rfl
end lawSteerLaws
end Go.Proofs.Ytbfdhpbnpncnnaa
end
