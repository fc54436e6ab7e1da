/- Packed: RsLt. -/
import Derived.Test.YtdoigcpcponnhaaP19
set_option linter.unusedVariables false
set_option linter.unusedSimpArgs false
section
set_option maxRecDepth 1000000
namespace Go.Proofs.Ytdoigcpcponnhaa
open Go.RowKit
namespace lawFlightRises
open SX in
def argsF : List LV := [.v (.agg [.a (.int .i64 (.var 0)), .a (.int .i64 (.var 1)), .a (.int .i64 (.var 2)), .a (.int .i64 (.var 3)), .a (.int .i64 (.var 4)), .a (.int .i64 (.var 5)), .a (.int .i64 (.var 6)), .a (.int .i64 (.var 7)), .a (.int .i64 (.var 8)), .a (.int .i64 (.var 9)), .a (.int .i64 (.var 10)), .a (.int .i64 (.var 11)), .a (.int .i64 (.var 12)), .a (.int .i64 (.var 13))]), .v (.s (.a (.fsl 0))), .v (.s (.a (.int .i64 (.var 14)))), .v (.agg [.a (.int .i64 (.var 15)), .a (.int .i64 (.var 16)), .a (.int .i64 (.var 17)), .a (.int .i64 (.var 18)), .a (.int .i64 (.var 19)), .a (.int .i64 (.var 20)), .a (.int .i64 (.var 21)), .a (.int .i64 (.var 22)), .a (.int .i64 (.var 23)), .a (.int .i64 (.var 24)), .a (.int .i64 (.var 25)), .a (.int .i64 (.var 26)), .a (.int .i64 (.var 27)), .a (.int .i64 (.var 28)), .a (.int .i64 (.var 29))]), .v (.agg [.a (.int .i64 (.var 30)), .a (.int .i64 (.var 31)), .a (.int .i64 (.var 32)), .a (.int .i64 (.var 33)), .a (.int .i64 (.var 34)), .a (.int .i64 (.var 35)), .a (.int .i64 (.var 36)), .a (.int .i64 (.var 37)), .a (.int .i64 (.var 38)), .a (.int .i64 (.var 39)), .a (.int .i64 (.var 40)), .a (.int .i64 (.var 41)), .a (.int .i64 (.var 42)), .a (.int .i64 (.var 43)), .a (.int .i64 (.var 44))])]
open SX in
def onObs (X : Option (LV × St × Nat × List Ob)) (p : LV → List Ob → Bool) : Bool := match X with | some (v, _, _, obs) => p v obs | none => false
open SX in
def gNub (S : Sig) (obs : List Ob) : Bool := match nub S obs [] with | some r => okObs S ⟨[], [], []⟩ (r.reverse.map (·.2)) | none => false
open SX in
def gShp (P : Program) (S : Sig) (shp : FuncId → List LV → List (Nat × Cells) → Bool) (ob : Ob) : Bool := match ob with | .call pc f args mem res upd => pc == .blit true && shp f args mem && stdRes P S.sym f args mem == some (res, upd) | _ => true
open SX in
theorem split {P : Program} {X : Option (LV × St × Nat × List Ob)} {v0 : LV} {S : Sig} {shp : FuncId → List LV → List (Nat × Cells) → Bool} (h0 : onObs X (fun v _ => v == v0) = true)
  (h1 : onObs X (fun _ obs => gNub S obs) = true) (h2 : onObs X (fun _ obs => obs.all rngOb) = true) (h3 : onObs X (fun _ obs => obs.all (gShp P S shp)) = true) (h5 : onObs X (fun _ obs => obs.all fun ob => !ob.isM) = true) :
  onObs X (fun v obs => v == v0 && goodB P S shp obs) = true := by
 cases X with
 | none => cases h0
 | some x =>
  obtain ⟨v, s, n, obs⟩ := x
  simp only [onObs] at h0 h1 h2 h3 h5 ⊢
  have h4 : goodB P S shp obs = true := by
   unfold goodB goodL
   unfold gNub at h1
   cases hn : nub S obs [] with
   | none => rw [hn] at h1; cases h1
   | some r =>
    rw [hn] at h1
    simp only [Bool.and_eq_true]
    exact ⟨⟨⟨h1, h2⟩, h3⟩, h5⟩
  rw [h0, h4]; rfl
open SX in
theorem law_true' {P : Program} (hmix : P.follows .mixedOrders = true) {S : Sig} {shp : FuncId → List LV → List (Nat × Cells) → Bool} {K : Cfg} {n sp : Nat} (hsp : 0 < sp) {f : FuncId} {args : List LV} {nv nid : Nat}
  (h : onObs (evFn P K n sp f args [] (.blit true) nv nid) (fun v obs => v == .v (.s (.a (.bool (.blit true)))) && goodB P S shp obs) = true) (ha : noIds args = true)
  (hS : ∀ s l k, R64 (S.val s l k)) {T : Env} {w : World} (hc : Con P S shp T w) (ε0 : Env) (h0 : ∀ i, R64 (ε0.i i)) (hT : ε0.sa = T.sa ∧ ε0.sn = T.sn ∧ ε0.sc = T.sc) (hv : ∀ x ∈ args, ∀ ε : Env, (∀ v, v < top → ε.i v = ε0.i v) → ε.sa = ε0.sa → ε.sn = ε0.sn → ε.sc = ε0.sc → x.den ε (fun _ => 0) = x.den ε0 (fun _ => 0)) :
  Calls P f (args.map (LV.den ε0 fun _ => 0)).toArray w (fun e w' => e = .returned (.bool true) ∧ Below w.heap.size w w') :=
 law_true hmix hsp (by unfold onObs at h; exact h) ha hS hc ε0 h0 hT hv
open SX in
theorem lt0 : onObs (evFn Try.prog KL 3000 (2^240) 3 argsF [] (.blit true) 0 1) (fun v _ => v == .v (.s (.a (.bool (.blit true))))) = true := by kernel_rfl
open SX in
theorem lt1 (T : Env) : onObs (evFn Try.prog KL 3000 (2^240) 3 argsF [] (.blit true) 0 1) (fun _ obs => gNub (S4 T) obs) = true := by kernel_rfl
open SX in
theorem lt2 : onObs (evFn Try.prog KL 3000 (2^240) 3 argsF [] (.blit true) 0 1) (fun _ obs => obs.all rngOb) = true := by kernel_rfl
open SX in
theorem lt3 (T : Env) : onObs (evFn Try.prog KL 3000 (2^240) 3 argsF [] (.blit true) 0 1) (fun _ obs => obs.all (gShp Try.prog (S4 T) shp4)) = true := by kernel_rfl
open SX in
theorem lt4 : onObs (evFn Try.prog KL 3000 (2^240) 3 argsF [] (.blit true) 0 1) (fun _ obs => obs.all fun ob => !ob.isM) = true := by kernel_rfl
end lawFlightRises
end Go.Proofs.Ytdoigcpcponnhaa
end
