/- Planets, arcs, states, and numbers of steps: the program's answers and the document's. -/
import Derived.Test.YtfknnnlbfdeomaaFlA
import Derived.Test.YtfknnnlbfdeomaaFlM
set_option linter.unusedVariables false
set_option linter.unusedSimpArgs false
namespace Go.Proofs.Ytfknnnlbfdeomaa
open Go.RowKit
set_option maxRecDepth 100000 in
set_option maxHeartbeats 4000000 in
theorem fplanet_any (p0 p1 p2 p3 p4 p5 p6 p7 p8 p9 p10 p11 p12 p13 : Int)  (kp0 : -9223372036854775808 ≤ p0) (kp2 : -9223372036854775808 ≤ p2) (kp4 : -9223372036854775808 ≤ p4) (kp6 : -9223372036854775808 ≤ p6) (kp8 : -9223372036854775808 ≤ p8) (kp10 : -9223372036854775808 ≤ p10) (kp12 : -9223372036854775808 ≤ p12) (w : World)  : Calls Try.prog 10 #[.agg #[.int .i64 p0, .int .i64 p1, .int .i64 p2, .int .i64 p3, .int .i64 p4, .int .i64 p5, .int .i64 p6, .int .i64 p7, .int .i64 p8, .int .i64 p9, .int .i64 p10, .int .i64 p11, .int .i64 p12, .int .i64 p13]] w fun e w' => e = .returned (.int .i64 (planetI p0 p1 p2 p3 p4 p5 p6 p7 p8 p9 p10 p11 p12 p13)) ∧ Below w.heap.size w w' := by
  obtain ⟨x14, hx14⟩ : ∃ x, x = chkI p0 p1 := ⟨_, rfl⟩
  have C0 : ∀ W, Below w.heap.size w W → Calls Try.prog 49 #[.agg #[.int .i64 p0, .int .i64 p1]] W fun e w' => e = .returned (.int .i64 x14) ∧ Below W.heap.size W w' := fun W hb => by
    rw [hx14]; exact check_any p0 p1 (by omega) W
  obtain ⟨x15, hx15⟩ : ∃ x, x = chkI p2 p3 := ⟨_, rfl⟩
  have C1 : ∀ W, Below w.heap.size w W → Calls Try.prog 49 #[.agg #[.int .i64 p2, .int .i64 p3]] W fun e w' => e = .returned (.int .i64 x15) ∧ Below W.heap.size W w' := fun W hb => by
    rw [hx15]; exact check_any p2 p3 (by omega) W
  obtain ⟨x16, hx16⟩ : ∃ x, x = chkI p4 p5 := ⟨_, rfl⟩
  have C2 : ∀ W, Below w.heap.size w W → Calls Try.prog 49 #[.agg #[.int .i64 p4, .int .i64 p5]] W fun e w' => e = .returned (.int .i64 x16) ∧ Below W.heap.size W w' := fun W hb => by
    rw [hx16]; exact check_any p4 p5 (by omega) W
  obtain ⟨x17, hx17⟩ : ∃ x, x = chkI p6 p7 := ⟨_, rfl⟩
  have C3 : ∀ W, Below w.heap.size w W → Calls Try.prog 49 #[.agg #[.int .i64 p6, .int .i64 p7]] W fun e w' => e = .returned (.int .i64 x17) ∧ Below W.heap.size W w' := fun W hb => by
    rw [hx17]; exact check_any p6 p7 (by omega) W
  obtain ⟨x18, hx18⟩ : ∃ x, x = chkI p8 p9 := ⟨_, rfl⟩
  have C4 : ∀ W, Below w.heap.size w W → Calls Try.prog 49 #[.agg #[.int .i64 p8, .int .i64 p9]] W fun e w' => e = .returned (.int .i64 x18) ∧ Below W.heap.size W w' := fun W hb => by
    rw [hx18]; exact check_any p8 p9 (by omega) W
  obtain ⟨x19, hx19⟩ : ∃ x, x = chkI p10 p11 := ⟨_, rfl⟩
  have C5 : ∀ W, Below w.heap.size w W → Calls Try.prog 49 #[.agg #[.int .i64 p10, .int .i64 p11]] W fun e w' => e = .returned (.int .i64 x19) ∧ Below W.heap.size W w' := fun W hb => by
    rw [hx19]; exact check_any p10 p11 (by omega) W
  obtain ⟨x20, hx20⟩ : ∃ x, x = chkI p12 p13 := ⟨_, rfl⟩
  have C6 : ∀ W, Below w.heap.size w W → Calls Try.prog 49 #[.agg #[.int .i64 p12, .int .i64 p13]] W fun e w' => e = .returned (.int .i64 x20) ∧ Below W.heap.size W w' := fun W hb => by
    rw [hx20]; exact check_any p12 p13 (by omega) W
  let ε : SX.Env := ⟨fun q => [p0, p1, p2, p3, p4, p5, p6, p7, p8, p9, p10, p11, p12, p13, x14, x15, x16, x17, x18, x19, x20].getD q 0, fun q => [false, false, false, false, false, false, false, false, false, false, false, false, false, false, false, false, false, false, false, false, false].getD q false, fun _ => none, fun _ => 0, fun _ => 0, fun _ => default⟩
  have R := SX.reads_of (P := Try.prog) (by kernel_rfl) SX.fplanet_r ε w (by
    simp only [SX.fplanet_o, List.forall_mem_cons]
    exact ⟨fun _ W hb => C0 W hb,
      fun _ W hb => C1 W hb,
      fun _ W hb => C2 W hb,
      fun _ W hb => C3 W hb,
      fun _ W hb => C4 W hb,
      fun _ W hb => C5 W hb,
      fun _ W hb => C6 W hb, by simp⟩)
  refine R.mono fun e w' ⟨h1, h2⟩ => ⟨h1.trans ?_, h2⟩
  show Ending.returned (.int .i64 (if (if (!(if (if (x14 != 0) = true then true else (decide (p0 < 0))) = true then false else (!(if (x15 != 0) = true then true else (decide (p2 < 0)))))) = true then true else (if (!(if (x16 != 0) = true then false else (!(x17 != 0)))) = true then true else (!(if (x18 != 0) = true then false else (if (x19 != 0) = true then false else (!(x20 != 0))))))) = true then 2 else 0)) = _
  show _ = Ending.returned (.int .i64 (planetI p0 p1 p2 p3 p4 p5 p6 p7 p8 p9 p10 p11 p12 p13))
  refine congrArg (fun x => Ending.returned (Value.int .i64 x)) ?_
  rw [hx14, hx15, hx16, hx17, hx18, hx19, hx20]
  unfold planetI
  simp only [chk_ne, chk_eq, d_lt, d_ge, d_gt, d_ge1, d_num, d_len, tab_eq, Bool.not_not]
  generalize vB p0 p1 = v0
  generalize vB p2 p3 = v1
  generalize vB p4 p5 = v2
  generalize vB p6 p7 = v3
  generalize vB p8 p9 = v4
  generalize vB p10 p11 = v5
  generalize vB p12 p13 = v6
  generalize decide (0 ≤ p0) = d0
  generalize decide (0 ≤ p2) = d1
  revert v0 v1 v2 v3 v4 v5 v6 d0 d1
  decide +kernel

set_option maxRecDepth 100000 in
set_option maxHeartbeats 4000000 in
theorem qplanet_any (p0 p1 p2 p3 p4 p5 p6 p7 p8 p9 p10 p11 p12 p13 : Int)  (kp0 : -9223372036854775808 ≤ p0) (kp2 : -9223372036854775808 ≤ p2) (kp4 : -9223372036854775808 ≤ p4) (kp6 : -9223372036854775808 ≤ p6) (kp8 : -9223372036854775808 ≤ p8) (kp10 : -9223372036854775808 ≤ p10) (kp12 : -9223372036854775808 ≤ p12) (w : World)  : Calls Try.prog 11 #[.agg #[.int .i64 p0, .int .i64 p1, .int .i64 p2, .int .i64 p3, .int .i64 p4, .int .i64 p5, .int .i64 p6, .int .i64 p7, .int .i64 p8, .int .i64 p9, .int .i64 p10, .int .i64 p11, .int .i64 p12, .int .i64 p13]] w fun e w' => e = .returned (.int .i64 (planetI p0 p1 p2 p3 p4 p5 p6 p7 p8 p9 p10 p11 p12 p13)) ∧ Below w.heap.size w w' := by
  obtain ⟨x14, hx14⟩ : ∃ x, x = chkI p8 p9 := ⟨_, rfl⟩
  have C0 : ∀ W, Below w.heap.size w W → Calls Try.prog 50 #[.agg #[.int .i64 p8, .int .i64 p9]] W fun e w' => e = .returned (.int .i64 x14) ∧ Below W.heap.size W w' := fun W hb => by
    rw [hx14]; exact rcheck p8 p9 _ rfl W
  obtain ⟨x15, hx15⟩ : ∃ x, x = chkI p10 p11 := ⟨_, rfl⟩
  have C1 : ∀ W, Below w.heap.size w W → Calls Try.prog 50 #[.agg #[.int .i64 p10, .int .i64 p11]] W fun e w' => e = .returned (.int .i64 x15) ∧ Below W.heap.size W w' := fun W hb => by
    rw [hx15]; exact rcheck p10 p11 _ rfl W
  obtain ⟨x16, hx16⟩ : ∃ x, x = chkI p12 p13 := ⟨_, rfl⟩
  have C2 : ∀ W, Below w.heap.size w W → Calls Try.prog 50 #[.agg #[.int .i64 p12, .int .i64 p13]] W fun e w' => e = .returned (.int .i64 x16) ∧ Below W.heap.size W w' := fun W hb => by
    rw [hx16]; exact rcheck p12 p13 _ rfl W
  obtain ⟨x17, hx17⟩ : ∃ x, x = chkI p0 p1 := ⟨_, rfl⟩
  have C3 : ∀ W, Below w.heap.size w W → Calls Try.prog 50 #[.agg #[.int .i64 p0, .int .i64 p1]] W fun e w' => e = .returned (.int .i64 x17) ∧ Below W.heap.size W w' := fun W hb => by
    rw [hx17]; exact rcheck p0 p1 _ rfl W
  obtain ⟨x18, hx18⟩ : ∃ x, x = chkI p2 p3 := ⟨_, rfl⟩
  have C4 : ∀ W, Below w.heap.size w W → Calls Try.prog 50 #[.agg #[.int .i64 p2, .int .i64 p3]] W fun e w' => e = .returned (.int .i64 x18) ∧ Below W.heap.size W w' := fun W hb => by
    rw [hx18]; exact rcheck p2 p3 _ rfl W
  obtain ⟨x19, hx19⟩ : ∃ x, x = chkI p4 p5 := ⟨_, rfl⟩
  have C5 : ∀ W, Below w.heap.size w W → Calls Try.prog 50 #[.agg #[.int .i64 p4, .int .i64 p5]] W fun e w' => e = .returned (.int .i64 x19) ∧ Below W.heap.size W w' := fun W hb => by
    rw [hx19]; exact rcheck p4 p5 _ rfl W
  obtain ⟨x20, hx20⟩ : ∃ x, x = chkI p6 p7 := ⟨_, rfl⟩
  have C6 : ∀ W, Below w.heap.size w W → Calls Try.prog 50 #[.agg #[.int .i64 p6, .int .i64 p7]] W fun e w' => e = .returned (.int .i64 x20) ∧ Below W.heap.size W w' := fun W hb => by
    rw [hx20]; exact rcheck p6 p7 _ rfl W
  let ε : SX.Env := ⟨fun q => [p0, p1, p2, p3, p4, p5, p6, p7, p8, p9, p10, p11, p12, p13, x14, x15, x16, x17, x18, x19, x20].getD q 0, fun q => [false, false, false, false, false, false, false, false, false, false, false, false, false, false, false, false, false, false, false, false, false].getD q false, fun _ => none, fun _ => 0, fun _ => 0, fun _ => default⟩
  have R := SX.reads_of (P := Try.prog) (by kernel_rfl) SX.qplanet_r ε w (by
    simp only [SX.qplanet_o, List.forall_mem_cons]
    exact ⟨fun _ W hb => C0 W hb,
      fun _ W hb => C1 W hb,
      fun _ W hb => C2 W hb,
      fun _ W hb => C3 W hb,
      fun _ W hb => C4 W hb,
      fun _ W hb => C5 W hb,
      fun _ W hb => C6 W hb, by simp⟩)
  refine R.mono fun e w' ⟨h1, h2⟩ => ⟨h1.trans ?_, h2⟩
  show Ending.returned (.int .i64 (if (if (!(if (x14 != 0) = true then false else (if (x15 != 0) = true then false else (!(x16 != 0))))) = true then true else (if (!(if (x17 == 0) = true then (decide (p0 ≥ 0)) else false)) = true then true else (if (!(if (x18 == 0) = true then (decide (p2 ≥ 0)) else false)) = true then true else (!(if (x19 == 0) = true then (x20 == 0) else false))))) = true then 2 else 0)) = _
  show _ = Ending.returned (.int .i64 (planetI p0 p1 p2 p3 p4 p5 p6 p7 p8 p9 p10 p11 p12 p13))
  refine congrArg (fun x => Ending.returned (Value.int .i64 x)) ?_
  rw [hx14, hx15, hx16, hx17, hx18, hx19, hx20]
  unfold planetI
  simp only [chk_ne, chk_eq, d_lt, d_ge, d_gt, d_ge1, d_num, d_len, tab_eq, Bool.not_not]
  generalize vB p0 p1 = v0
  generalize vB p2 p3 = v1
  generalize vB p4 p5 = v2
  generalize vB p6 p7 = v3
  generalize vB p8 p9 = v4
  generalize vB p10 p11 = v5
  generalize vB p12 p13 = v6
  generalize decide (0 ≤ p0) = d0
  generalize decide (0 ≤ p2) = d1
  revert v0 v1 v2 v3 v4 v5 v6 d0 d1
  decide +kernel

set_option maxRecDepth 100000 in
set_option maxHeartbeats 4000000 in
theorem fstate_any (p0 p1 p2 p3 p4 p5 p6 p7 p8 p9 p10 p11 p12 p13 p14 : Int)  (kp0 : -9223372036854775808 ≤ p0) (kp1 : -9223372036854775808 ≤ p1) (kp3 : -9223372036854775808 ≤ p3) (kp5 : -9223372036854775808 ≤ p5) (kp7 : -9223372036854775808 ≤ p7) (kp9 : -9223372036854775808 ≤ p9) (kp11 : -9223372036854775808 ≤ p11) (kp13 : -9223372036854775808 ≤ p13) (w : World)  : Calls Try.prog 12 #[.agg #[.int .i64 p0, .int .i64 p1, .int .i64 p2, .int .i64 p3, .int .i64 p4, .int .i64 p5, .int .i64 p6, .int .i64 p7, .int .i64 p8, .int .i64 p9, .int .i64 p10, .int .i64 p11, .int .i64 p12, .int .i64 p13, .int .i64 p14]] w fun e w' => e = .returned (.int .i64 (stateI p0 p1 p2 p3 p4 p5 p6 p7 p8 p9 p10 p11 p12 p13 p14)) ∧ Below w.heap.size w w' := by
  obtain ⟨x15, hx15⟩ : ∃ x, x = chkI p0 p0 := ⟨_, rfl⟩
  have C0 : ∀ W, Below w.heap.size w W → Calls Try.prog 49 #[.agg #[.int .i64 p0, .int .i64 p0]] W fun e w' => e = .returned (.int .i64 x15) ∧ Below W.heap.size W w' := fun W hb => by
    rw [hx15]; exact check_any p0 p0 (by omega) W
  obtain ⟨x16, hx16⟩ : ∃ x, x = chkI p1 p2 := ⟨_, rfl⟩
  have C1 : ∀ W, Below w.heap.size w W → Calls Try.prog 49 #[.agg #[.int .i64 p1, .int .i64 p2]] W fun e w' => e = .returned (.int .i64 x16) ∧ Below W.heap.size W w' := fun W hb => by
    rw [hx16]; exact check_any p1 p2 (by omega) W
  obtain ⟨x17, hx17⟩ : ∃ x, x = chkI p3 p4 := ⟨_, rfl⟩
  have C2 : ∀ W, Below w.heap.size w W → Calls Try.prog 49 #[.agg #[.int .i64 p3, .int .i64 p4]] W fun e w' => e = .returned (.int .i64 x17) ∧ Below W.heap.size W w' := fun W hb => by
    rw [hx17]; exact check_any p3 p4 (by omega) W
  obtain ⟨x18, hx18⟩ : ∃ x, x = chkI p5 p6 := ⟨_, rfl⟩
  have C3 : ∀ W, Below w.heap.size w W → Calls Try.prog 49 #[.agg #[.int .i64 p5, .int .i64 p6]] W fun e w' => e = .returned (.int .i64 x18) ∧ Below W.heap.size W w' := fun W hb => by
    rw [hx18]; exact check_any p5 p6 (by omega) W
  obtain ⟨x19, hx19⟩ : ∃ x, x = chkI p7 p8 := ⟨_, rfl⟩
  have C4 : ∀ W, Below w.heap.size w W → Calls Try.prog 49 #[.agg #[.int .i64 p7, .int .i64 p8]] W fun e w' => e = .returned (.int .i64 x19) ∧ Below W.heap.size W w' := fun W hb => by
    rw [hx19]; exact check_any p7 p8 (by omega) W
  obtain ⟨x20, hx20⟩ : ∃ x, x = chkI p9 p10 := ⟨_, rfl⟩
  have C5 : ∀ W, Below w.heap.size w W → Calls Try.prog 49 #[.agg #[.int .i64 p9, .int .i64 p10]] W fun e w' => e = .returned (.int .i64 x20) ∧ Below W.heap.size W w' := fun W hb => by
    rw [hx20]; exact check_any p9 p10 (by omega) W
  obtain ⟨x21, hx21⟩ : ∃ x, x = chkI p11 p12 := ⟨_, rfl⟩
  have C6 : ∀ W, Below w.heap.size w W → Calls Try.prog 49 #[.agg #[.int .i64 p11, .int .i64 p12]] W fun e w' => e = .returned (.int .i64 x21) ∧ Below W.heap.size W w' := fun W hb => by
    rw [hx21]; exact check_any p11 p12 (by omega) W
  obtain ⟨x22, hx22⟩ : ∃ x, x = chkI p13 p14 := ⟨_, rfl⟩
  have C7 : ∀ W, Below w.heap.size w W → Calls Try.prog 49 #[.agg #[.int .i64 p13, .int .i64 p14]] W fun e w' => e = .returned (.int .i64 x22) ∧ Below W.heap.size W w' := fun W hb => by
    rw [hx22]; exact check_any p13 p14 (by omega) W
  let ε : SX.Env := ⟨fun q => [p0, p1, p2, p3, p4, p5, p6, p7, p8, p9, p10, p11, p12, p13, p14, x15, x16, x17, x18, x19, x20, x21, x22].getD q 0, fun q => [false, false, false, false, false, false, false, false, false, false, false, false, false, false, false, false, false, false, false, false, false, false, false].getD q false, fun _ => none, fun _ => 0, fun _ => 0, fun _ => default⟩
  have R := SX.reads_of (P := Try.prog) (by kernel_rfl) SX.fstate_r ε w (by
    simp only [SX.fstate_o, List.forall_mem_cons]
    exact ⟨fun _ W hb => C0 W hb,
      fun _ W hb => C1 W hb,
      fun _ W hb => C2 W hb,
      fun _ W hb => C3 W hb,
      fun _ W hb => C4 W hb,
      fun _ W hb => C5 W hb,
      fun _ W hb => C6 W hb,
      fun _ W hb => C7 W hb, by simp⟩)
  refine R.mono fun e w' ⟨h1, h2⟩ => ⟨h1.trans ?_, h2⟩
  show Ending.returned (.int .i64 (if (if (x15 != 0) = true then true else (!(if (if (x16 != 0) = true then false else (if (x17 != 0) = true then false else (!(x18 != 0)))) = true then (if (if (x19 != 0) = true then false else (if (x20 != 0) = true then false else (!(x21 != 0)))) = true then (if (!(x22 != 0)) = true then (decide (p13 > 0)) else false) else false) else false))) = true then 2 else 0)) = _
  show _ = Ending.returned (.int .i64 (stateI p0 p1 p2 p3 p4 p5 p6 p7 p8 p9 p10 p11 p12 p13 p14))
  refine congrArg (fun x => Ending.returned (Value.int .i64 x)) ?_
  rw [hx15, hx16, hx17, hx18, hx19, hx20, hx21, hx22]
  unfold stateI
  simp only [chk_ne, chk_eq, d_lt, d_ge, d_gt, d_ge1, d_num, d_len, tab_eq, Bool.not_not]
  generalize decide (p0 ≥ -9223372036854775807) = t0
  generalize vB p1 p2 = v0
  generalize vB p3 p4 = v1
  generalize vB p5 p6 = v2
  generalize vB p7 p8 = v3
  generalize vB p9 p10 = v4
  generalize vB p11 p12 = v5
  generalize vB p13 p14 = v6
  generalize decide (1 ≤ p13) = d0
  revert t0 v0 v1 v2 v3 v4 v5 v6 d0
  decide +kernel

set_option maxRecDepth 100000 in
set_option maxHeartbeats 4000000 in
theorem qstate_any (p0 p1 p2 p3 p4 p5 p6 p7 p8 p9 p10 p11 p12 p13 p14 : Int)  (kp0 : -9223372036854775808 ≤ p0) (kp1 : -9223372036854775808 ≤ p1) (kp3 : -9223372036854775808 ≤ p3) (kp5 : -9223372036854775808 ≤ p5) (kp7 : -9223372036854775808 ≤ p7) (kp9 : -9223372036854775808 ≤ p9) (kp11 : -9223372036854775808 ≤ p11) (kp13 : -9223372036854775808 ≤ p13) (w : World)  : Calls Try.prog 13 #[.agg #[.int .i64 p0, .int .i64 p1, .int .i64 p2, .int .i64 p3, .int .i64 p4, .int .i64 p5, .int .i64 p6, .int .i64 p7, .int .i64 p8, .int .i64 p9, .int .i64 p10, .int .i64 p11, .int .i64 p12, .int .i64 p13, .int .i64 p14]] w fun e w' => e = .returned (.int .i64 (stateI p0 p1 p2 p3 p4 p5 p6 p7 p8 p9 p10 p11 p12 p13 p14)) ∧ Below w.heap.size w w' := by
  obtain ⟨x15, hx15⟩ : ∃ x, x = chkI p1 p2 := ⟨_, rfl⟩
  have C0 : ∀ W, Below w.heap.size w W → Calls Try.prog 50 #[.agg #[.int .i64 p1, .int .i64 p2]] W fun e w' => e = .returned (.int .i64 x15) ∧ Below W.heap.size W w' := fun W hb => by
    rw [hx15]; exact rcheck p1 p2 _ rfl W
  obtain ⟨x16, hx16⟩ : ∃ x, x = chkI p3 p4 := ⟨_, rfl⟩
  have C1 : ∀ W, Below w.heap.size w W → Calls Try.prog 50 #[.agg #[.int .i64 p3, .int .i64 p4]] W fun e w' => e = .returned (.int .i64 x16) ∧ Below W.heap.size W w' := fun W hb => by
    rw [hx16]; exact rcheck p3 p4 _ rfl W
  obtain ⟨x17, hx17⟩ : ∃ x, x = chkI p5 p6 := ⟨_, rfl⟩
  have C2 : ∀ W, Below w.heap.size w W → Calls Try.prog 50 #[.agg #[.int .i64 p5, .int .i64 p6]] W fun e w' => e = .returned (.int .i64 x17) ∧ Below W.heap.size W w' := fun W hb => by
    rw [hx17]; exact rcheck p5 p6 _ rfl W
  obtain ⟨x18, hx18⟩ : ∃ x, x = chkI p7 p8 := ⟨_, rfl⟩
  have C3 : ∀ W, Below w.heap.size w W → Calls Try.prog 50 #[.agg #[.int .i64 p7, .int .i64 p8]] W fun e w' => e = .returned (.int .i64 x18) ∧ Below W.heap.size W w' := fun W hb => by
    rw [hx18]; exact rcheck p7 p8 _ rfl W
  obtain ⟨x19, hx19⟩ : ∃ x, x = chkI p9 p10 := ⟨_, rfl⟩
  have C4 : ∀ W, Below w.heap.size w W → Calls Try.prog 50 #[.agg #[.int .i64 p9, .int .i64 p10]] W fun e w' => e = .returned (.int .i64 x19) ∧ Below W.heap.size W w' := fun W hb => by
    rw [hx19]; exact rcheck p9 p10 _ rfl W
  obtain ⟨x20, hx20⟩ : ∃ x, x = chkI p11 p12 := ⟨_, rfl⟩
  have C5 : ∀ W, Below w.heap.size w W → Calls Try.prog 50 #[.agg #[.int .i64 p11, .int .i64 p12]] W fun e w' => e = .returned (.int .i64 x20) ∧ Below W.heap.size W w' := fun W hb => by
    rw [hx20]; exact rcheck p11 p12 _ rfl W
  obtain ⟨x21, hx21⟩ : ∃ x, x = chkI p13 p14 := ⟨_, rfl⟩
  have C6 : ∀ W, Below w.heap.size w W → Calls Try.prog 50 #[.agg #[.int .i64 p13, .int .i64 p14]] W fun e w' => e = .returned (.int .i64 x21) ∧ Below W.heap.size W w' := fun W hb => by
    rw [hx21]; exact rcheck p13 p14 _ rfl W
  let ε : SX.Env := ⟨fun q => [p0, p1, p2, p3, p4, p5, p6, p7, p8, p9, p10, p11, p12, p13, p14, x15, x16, x17, x18, x19, x20, x21].getD q 0, fun q => [false, false, false, false, false, false, false, false, false, false, false, false, false, false, false, false, false, false, false, false, false, false].getD q false, fun _ => none, fun _ => 0, fun _ => 0, fun _ => default⟩
  have R := SX.reads_of (P := Try.prog) (by kernel_rfl) SX.qstate_r ε w (by
    simp only [SX.qstate_o, List.forall_mem_cons]
    exact ⟨fun _ W hb => C0 W hb,
      fun _ W hb => C1 W hb,
      fun _ W hb => C2 W hb,
      fun _ W hb => C3 W hb,
      fun _ W hb => C4 W hb,
      fun _ W hb => C5 W hb,
      fun _ W hb => C6 W hb, by simp⟩)
  refine R.mono fun e w' ⟨h1, h2⟩ => ⟨h1.trans ?_, h2⟩
  show Ending.returned (.int .i64 (if (if (!(decide (p0 ≥ (-9223372036854775807)))) = true then true else (if (!(if (x15 != 0) = true then false else (if (x16 != 0) = true then false else (!(x17 != 0))))) = true then true else (if (!(if (x18 != 0) = true then false else (if (x19 != 0) = true then false else (!(x20 != 0))))) = true then true else (!(if (x21 == 0) = true then (decide (p13 ≥ 1)) else false))))) = true then 2 else 0)) = _
  show _ = Ending.returned (.int .i64 (stateI p0 p1 p2 p3 p4 p5 p6 p7 p8 p9 p10 p11 p12 p13 p14))
  refine congrArg (fun x => Ending.returned (Value.int .i64 x)) ?_
  rw [hx15, hx16, hx17, hx18, hx19, hx20, hx21]
  unfold stateI
  simp only [chk_ne, chk_eq, d_lt, d_ge, d_gt, d_ge1, d_num, d_len, tab_eq, Bool.not_not]
  generalize decide (p0 ≥ -9223372036854775807) = t0
  generalize vB p1 p2 = v0
  generalize vB p3 p4 = v1
  generalize vB p5 p6 = v2
  generalize vB p7 p8 = v3
  generalize vB p9 p10 = v4
  generalize vB p11 p12 = v5
  generalize vB p13 p14 = v6
  generalize decide (1 ≤ p13) = d0
  revert t0 v0 v1 v2 v3 v4 v5 v6 d0
  decide +kernel

set_option maxRecDepth 100000 in
set_option maxHeartbeats 4000000 in
theorem farc_any (p0 p1 p2 p3 p4 p5 p6 p7 p8 p9 p10 p11 p12 p13 : Int)  (A : Option Addr) (n cap : Nat) (at_ lo hi : Nat → Int) (kp2 : -9223372036854775808 ≤ p2) (kp4 : -9223372036854775808 ≤ p4) (kp6 : -9223372036854775808 ≤ p6) (kp8 : -9223372036854775808 ≤ p8) (kp10 : -9223372036854775808 ≤ p10) (kp12 : -9223372036854775808 ≤ p12) (w : World) (hT : TabIn w A n at_ lo hi) (hI : ∀ i, i < n → I64 (at_ i) ∧ I64 (lo i) ∧ I64 (hi i)) : Calls Try.prog 14 #[.agg #[.int .i64 p0, .int .i64 p1, .int .i64 p2, .int .i64 p3, .int .i64 p4, .int .i64 p5, .int .i64 p6, .int .i64 p7, .int .i64 p8, .int .i64 p9, .int .i64 p10, .int .i64 p11, .slice A n cap, .int .i64 p12, .int .i64 p13]] w fun e w' => e = .returned (.int .i64 (arcI p0 p1 p2 p3 p4 p5 p6 p7 p8 p9 p10 p11 p12 p13 n (tabB n at_ lo hi))) ∧ Below w.heap.size w w' := by
  obtain ⟨x14, hx14⟩ : ∃ x, x = chkI p2 p3 := ⟨_, rfl⟩
  have C0 : ∀ W, Below w.heap.size w W → Calls Try.prog 49 #[.agg #[.int .i64 p2, .int .i64 p3]] W fun e w' => e = .returned (.int .i64 x14) ∧ Below W.heap.size W w' := fun W hb => by
    rw [hx14]; exact check_any p2 p3 (by omega) W
  obtain ⟨x15, hx15⟩ : ∃ x, x = chkI p4 p5 := ⟨_, rfl⟩
  have C1 : ∀ W, Below w.heap.size w W → Calls Try.prog 49 #[.agg #[.int .i64 p4, .int .i64 p5]] W fun e w' => e = .returned (.int .i64 x15) ∧ Below W.heap.size W w' := fun W hb => by
    rw [hx15]; exact check_any p4 p5 (by omega) W
  obtain ⟨x16, hx16⟩ : ∃ x, x = chkI p12 p13 := ⟨_, rfl⟩
  have C2 : ∀ W, Below w.heap.size w W → Calls Try.prog 49 #[.agg #[.int .i64 p12, .int .i64 p13]] W fun e w' => e = .returned (.int .i64 x16) ∧ Below W.heap.size W w' := fun W hb => by
    rw [hx16]; exact check_any p12 p13 (by omega) W
  obtain ⟨b17, hb17⟩ : ∃ x, x = withinB p6 p7 (-4294967296) 4294967296 := ⟨_, rfl⟩
  have C3 : ∀ W, Below w.heap.size w W → Calls Try.prog 22 #[.agg #[.int .i64 p6, .int .i64 p7], .agg #[.int .i64 (-4294967296), .int .i64 4294967296]] W fun e w' => e = .returned (.bool b17) ∧ Below W.heap.size W w' := fun W hb => by
    rw [hb17]; exact within_any p6 p7 (-4294967296) 4294967296 (by omega) (by omega) W
  obtain ⟨b18, hb18⟩ : ∃ x, x = withinB p8 p9 (-4294967296) 4294967296 := ⟨_, rfl⟩
  have C4 : ∀ W, Below w.heap.size w W → Calls Try.prog 22 #[.agg #[.int .i64 p8, .int .i64 p9], .agg #[.int .i64 (-4294967296), .int .i64 4294967296]] W fun e w' => e = .returned (.bool b18) ∧ Below W.heap.size W w' := fun W hb => by
    rw [hb18]; exact within_any p8 p9 (-4294967296) 4294967296 (by omega) (by omega) W
  obtain ⟨b19, hb19⟩ : ∃ x, x = withinB p10 p11 (-4294967296) 4294967296 := ⟨_, rfl⟩
  have C5 : ∀ W, Below w.heap.size w W → Calls Try.prog 22 #[.agg #[.int .i64 p10, .int .i64 p11], .agg #[.int .i64 (-4294967296), .int .i64 4294967296]] W fun e w' => e = .returned (.bool b19) ∧ Below W.heap.size W w' := fun W hb => by
    rw [hb19]; exact within_any p10 p11 (-4294967296) 4294967296 (by omega) (by omega) W
  obtain ⟨x20, hx20⟩ : ∃ x, x = if tabB n at_ lo hi = true then (0 : Int) else 2 := ⟨_, rfl⟩
  have C6 : ∀ W, Below w.heap.size w W → Calls Try.prog 32 #[.slice A n cap] W fun e w' => e = .returned (.int .i64 x20) ∧ Below W.heap.size W w' := fun W hb => by
    rw [hx20]; exact checktable_any n cap A at_ lo hi W (hT.below hb) hI _ rfl
  let ε : SX.Env := ⟨fun q => [p0, p1, p2, p3, p4, p5, p6, p7, p8, p9, p10, p11, p12, p13, x14, x15, x16, 0, 0, 0, x20].getD q 0, fun q => [false, false, false, false, false, false, false, false, false, false, false, false, false, false, false, false, false, b17, b18, b19, false].getD q false, fun q => [A].getD q none, fun q => [n].getD q 0, fun q => [cap].getD q 0, fun _ => default⟩
  have R := SX.reads_of (P := Try.prog) (by kernel_rfl) SX.farc_r ε w (by
    simp only [SX.farc_o, List.forall_mem_cons]
    exact ⟨fun _ W hb => C0 W hb,
      fun _ W hb => C1 W hb,
      fun _ W hb => C2 W hb,
      fun _ W hb => C3 W hb,
      fun _ W hb => C4 W hb,
      fun _ W hb => C5 W hb,
      fun _ W hb => C6 W hb, by simp⟩)
  refine R.mono fun e w' ⟨h1, h2⟩ => ⟨h1.trans ?_, h2⟩
  show Ending.returned (.int .i64 (if (if (decide (p0 ≤ 0)) = true then true else (if (decide (p1 ≤ 0)) = true then true else (!(if (if (x14 != 0) = true then true else (decide (p2 < 0))) = true then false else (if (if (x15 != 0) = true then true else (decide (p4 < 0))) = true then false else (!(if (x16 != 0) = true then true else (decide (p12 < 0))))))))) = true then 2 else (if (!b17) = true then 2 else (if (!b18) = true then 2 else (if (!b19) = true then 2 else (if (decide (((n : Nat) : Int) > 0)) = true then x20 else 0)))))) = _
  show _ = Ending.returned (.int .i64 (arcI p0 p1 p2 p3 p4 p5 p6 p7 p8 p9 p10 p11 p12 p13 n (tabB n at_ lo hi)))
  refine congrArg (fun x => Ending.returned (Value.int .i64 x)) ?_
  rw [hx14, hx15, hx16, hb17, hb18, hb19, hx20]
  unfold arcI
  simp only [chk_ne, chk_eq, d_lt, d_ge, d_num, d_len, tab_eq, Bool.not_not]
  generalize decide (p0 ≤ 0) = a0
  generalize decide (p1 ≤ 0) = a1
  generalize vB p2 p3 = v0
  generalize decide (0 ≤ p2) = d0
  generalize vB p4 p5 = v1
  generalize decide (0 ≤ p4) = d1
  generalize vB p12 p13 = v2
  generalize decide (0 ≤ p12) = d2
  generalize withinB p6 p7 (-4294967296) 4294967296 = w1
  generalize withinB p8 p9 (-4294967296) 4294967296 = w2
  generalize withinB p10 p11 (-4294967296) 4294967296 = w3
  generalize tabB n at_ lo hi = tb
  generalize ((n : Int) == 0) = z
  revert a0 a1 v0 d0 v1 d1 v2 d2 w1 w2 w3 tb z
  decide +kernel

set_option maxRecDepth 100000 in
set_option maxHeartbeats 4000000 in
theorem qarc_any (p0 p1 p2 p3 p4 p5 p6 p7 p8 p9 p10 p11 p12 p13 : Int)  (A : Option Addr) (n cap : Nat) (at_ lo hi : Nat → Int) (kp2 : -9223372036854775808 ≤ p2) (kp4 : -9223372036854775808 ≤ p4) (kp6 : -9223372036854775808 ≤ p6) (kp8 : -9223372036854775808 ≤ p8) (kp10 : -9223372036854775808 ≤ p10) (kp12 : -9223372036854775808 ≤ p12) (w : World) (hT : TabIn w A n at_ lo hi) (hI : ∀ i, i < n → I64 (at_ i) ∧ I64 (lo i) ∧ I64 (hi i)) : Calls Try.prog 15 #[.agg #[.int .i64 p0, .int .i64 p1, .int .i64 p2, .int .i64 p3, .int .i64 p4, .int .i64 p5, .int .i64 p6, .int .i64 p7, .int .i64 p8, .int .i64 p9, .int .i64 p10, .int .i64 p11, .slice A n cap, .int .i64 p12, .int .i64 p13]] w fun e w' => e = .returned (.int .i64 (arcI p0 p1 p2 p3 p4 p5 p6 p7 p8 p9 p10 p11 p12 p13 n (tabB n at_ lo hi))) ∧ Below w.heap.size w w' := by
  obtain ⟨b14, hb14⟩ : ∃ x, x = withinB p6 p7 (-4294967296) 4294967296 := ⟨_, rfl⟩
  have C0 : ∀ W, Below w.heap.size w W → Calls Try.prog 33 #[.agg #[.int .i64 p6, .int .i64 p7], .agg #[.int .i64 (-4294967296), .int .i64 4294967296]] W fun e w' => e = .returned (.bool b14) ∧ Below W.heap.size W w' := fun W hb => by
    rw [hb14]; exact rwithin_any p6 p7 (-4294967296) 4294967296 W
  obtain ⟨b15, hb15⟩ : ∃ x, x = withinB p8 p9 (-4294967296) 4294967296 := ⟨_, rfl⟩
  have C1 : ∀ W, Below w.heap.size w W → Calls Try.prog 33 #[.agg #[.int .i64 p8, .int .i64 p9], .agg #[.int .i64 (-4294967296), .int .i64 4294967296]] W fun e w' => e = .returned (.bool b15) ∧ Below W.heap.size W w' := fun W hb => by
    rw [hb15]; exact rwithin_any p8 p9 (-4294967296) 4294967296 W
  obtain ⟨b16, hb16⟩ : ∃ x, x = withinB p10 p11 (-4294967296) 4294967296 := ⟨_, rfl⟩
  have C2 : ∀ W, Below w.heap.size w W → Calls Try.prog 33 #[.agg #[.int .i64 p10, .int .i64 p11], .agg #[.int .i64 (-4294967296), .int .i64 4294967296]] W fun e w' => e = .returned (.bool b16) ∧ Below W.heap.size W w' := fun W hb => by
    rw [hb16]; exact rwithin_any p10 p11 (-4294967296) 4294967296 W
  obtain ⟨x17, hx17⟩ : ∃ x, x = chkI p2 p3 := ⟨_, rfl⟩
  have C3 : ∀ W, Below w.heap.size w W → Calls Try.prog 50 #[.agg #[.int .i64 p2, .int .i64 p3]] W fun e w' => e = .returned (.int .i64 x17) ∧ Below W.heap.size W w' := fun W hb => by
    rw [hx17]; exact rcheck p2 p3 _ rfl W
  obtain ⟨x18, hx18⟩ : ∃ x, x = chkI p4 p5 := ⟨_, rfl⟩
  have C4 : ∀ W, Below w.heap.size w W → Calls Try.prog 50 #[.agg #[.int .i64 p4, .int .i64 p5]] W fun e w' => e = .returned (.int .i64 x18) ∧ Below W.heap.size W w' := fun W hb => by
    rw [hx18]; exact rcheck p4 p5 _ rfl W
  obtain ⟨x19, hx19⟩ : ∃ x, x = chkI p12 p13 := ⟨_, rfl⟩
  have C5 : ∀ W, Below w.heap.size w W → Calls Try.prog 50 #[.agg #[.int .i64 p12, .int .i64 p13]] W fun e w' => e = .returned (.int .i64 x19) ∧ Below W.heap.size W w' := fun W hb => by
    rw [hx19]; exact rcheck p12 p13 _ rfl W
  obtain ⟨x20, hx20⟩ : ∃ x, x = if tabB n at_ lo hi = true then (0 : Int) else 2 := ⟨_, rfl⟩
  have C6 : ∀ W, Below w.heap.size w W → Calls Try.prog 34 #[.slice A n cap] W fun e w' => e = .returned (.int .i64 x20) ∧ Below W.heap.size W w' := fun W hb => by
    rw [hx20]; exact rchecktable_any n cap A at_ lo hi W (hT.below hb) hI _ rfl
  let ε : SX.Env := ⟨fun q => [p0, p1, p2, p3, p4, p5, p6, p7, p8, p9, p10, p11, p12, p13, 0, 0, 0, x17, x18, x19, x20].getD q 0, fun q => [false, false, false, false, false, false, false, false, false, false, false, false, false, false, b14, b15, b16, false, false, false, false].getD q false, fun q => [A].getD q none, fun q => [n].getD q 0, fun q => [cap].getD q 0, fun _ => default⟩
  have R := SX.reads_of (P := Try.prog) (by kernel_rfl) SX.qarc_r ε w (by
    simp only [SX.qarc_o, List.forall_mem_cons]
    exact ⟨fun _ W hb => C0 W hb,
      fun _ W hb => C1 W hb,
      fun _ W hb => C2 W hb,
      fun _ W hb => C3 W hb,
      fun _ W hb => C4 W hb,
      fun _ W hb => C5 W hb,
      fun _ W hb => C6 W hb, by simp⟩)
  refine R.mono fun e w' ⟨h1, h2⟩ => ⟨h1.trans ?_, h2⟩
  show Ending.returned (.int .i64 (if (!b14) = true then 2 else (if (!b15) = true then 2 else (if (!b16) = true then 2 else (if (if (decide (p0 ≤ 0)) = true then true else (if (decide (p1 ≤ 0)) = true then true else (if (!(if (if (x17 == 0) = true then (decide (p2 ≥ 0)) else false) = true then (if (if (x18 == 0) = true then (decide (p4 ≥ 0)) else false) = true then (if (x19 == 0) = true then (decide (p12 ≥ 0)) else false) else false) else false)) = true then true else (!(if (((n : Nat) : Int) == 0) = true then true else (x20 == 0)))))) = true then 2 else 0))))) = _
  show _ = Ending.returned (.int .i64 (arcI p0 p1 p2 p3 p4 p5 p6 p7 p8 p9 p10 p11 p12 p13 n (tabB n at_ lo hi)))
  refine congrArg (fun x => Ending.returned (Value.int .i64 x)) ?_
  rw [hb14, hb15, hb16, hx17, hx18, hx19, hx20]
  unfold arcI
  simp only [chk_ne, chk_eq, d_lt, d_ge, d_num, d_len, tab_eq, Bool.not_not]
  generalize decide (p0 ≤ 0) = a0
  generalize decide (p1 ≤ 0) = a1
  generalize vB p2 p3 = v0
  generalize decide (0 ≤ p2) = d0
  generalize vB p4 p5 = v1
  generalize decide (0 ≤ p4) = d1
  generalize vB p12 p13 = v2
  generalize decide (0 ≤ p12) = d2
  generalize withinB p6 p7 (-4294967296) 4294967296 = w1
  generalize withinB p8 p9 (-4294967296) 4294967296 = w2
  generalize withinB p10 p11 (-4294967296) 4294967296 = w3
  generalize tabB n at_ lo hi = tb
  generalize ((n : Int) == 0) = z
  revert a0 a1 v0 d0 v1 d1 v2 d2 w1 w2 w3 tb z
  decide +kernel

set_option maxRecDepth 100000 in
set_option maxHeartbeats 4000000 in
theorem fsteps_any (p0 p1 p2 p3 p4 p5 p6 p7 p8 p9 p10 p11 p12 p13 : Int)  (A : Option Addr) (n cap : Nat) (at_ lo hi : Nat → Int) (kp2 : -9223372036854775808 ≤ p2) (kp4 : -9223372036854775808 ≤ p4) (kp6 : -9223372036854775808 ≤ p6) (kp8 : -9223372036854775808 ≤ p8) (kp10 : -9223372036854775808 ≤ p10) (kp12 : -9223372036854775808 ≤ p12) (w : World) (hT : TabIn w A n at_ lo hi) (hI : ∀ i, i < n → I64 (at_ i) ∧ I64 (lo i) ∧ I64 (hi i)) : Calls Try.prog 8 #[.agg #[.int .i64 p0, .int .i64 p1, .int .i64 p2, .int .i64 p3, .int .i64 p4, .int .i64 p5, .int .i64 p6, .int .i64 p7, .int .i64 p8, .int .i64 p9, .int .i64 p10, .int .i64 p11, .slice A n cap, .int .i64 p12, .int .i64 p13]] w fun e w' => e = .returned (.tuple #[.int .i64 (stepsN (arcI p0 p1 p2 p3 p4 p5 p6 p7 p8 p9 p10 p11 p12 p13 n (tabB n at_ lo hi)) p0 p1), .int .i64 (stepsE (arcI p0 p1 p2 p3 p4 p5 p6 p7 p8 p9 p10 p11 p12 p13 n (tabB n at_ lo hi)) p0 p1)]) ∧ Below w.heap.size w w' := by
  obtain ⟨x14, hx14⟩ : ∃ x, x = arcI p0 p1 p2 p3 p4 p5 p6 p7 p8 p9 p10 p11 p12 p13 n (tabB n at_ lo hi) := ⟨_, rfl⟩
  have C0 : ∀ W, Below w.heap.size w W → Calls Try.prog 14 #[.agg #[.int .i64 p0, .int .i64 p1, .int .i64 p2, .int .i64 p3, .int .i64 p4, .int .i64 p5, .int .i64 p6, .int .i64 p7, .int .i64 p8, .int .i64 p9, .int .i64 p10, .int .i64 p11, .slice A n cap, .int .i64 p12, .int .i64 p13]] W fun e w' => e = .returned (.int .i64 x14) ∧ Below W.heap.size W w' := fun W hb => by
    rw [hx14]; exact farc_any p0 p1 p2 p3 p4 p5 p6 p7 p8 p9 p10 p11 p12 p13 A n cap at_ lo hi (by omega) (by omega) (by omega) (by omega) (by omega) (by omega) W (hT.below hb) hI
  let ε : SX.Env := ⟨fun q => [p0, p1, p2, p3, p4, p5, p6, p7, p8, p9, p10, p11, p12, p13, x14].getD q 0, fun q => [false, false, false, false, false, false, false, false, false, false, false, false, false, false, false].getD q false, fun q => [A].getD q none, fun q => [n].getD q 0, fun q => [cap].getD q 0, fun _ => default⟩
  have R := SX.reads_of (P := Try.prog) (by kernel_rfl) SX.fsteps_r ε w (by
    simp only [SX.fsteps_o, List.forall_mem_cons]
    exact ⟨fun _ W hb => C0 W hb,
      (fun h => (show (p1 != 0) = true from arc_pos (hx14.symm.trans (by simpa using (show (!(x14 != 0)) = true from h))))),
      (fun h => (show (p1 != 0) = true from arc_pos (hx14.symm.trans (by simpa using (show (!(x14 != 0)) = true from h))))), by simp⟩)
  refine R.mono fun e w' ⟨h1, h2⟩ => ⟨h1.trans ?_, h2⟩
  show Ending.returned (.tuple #[.int .i64 (if (x14 != 0) = true then 0 else (if (decide ((if ((SX.AO.den .i64 p0 p1 .rem) != 0) = true then (SX.AO.den .i64 (SX.AO.den .i64 p0 p1 .quo) 1 .add) else (SX.AO.den .i64 p0 p1 .quo)) > 4096)) = true then 0 else (if ((SX.AO.den .i64 p0 p1 .rem) != 0) = true then (SX.AO.den .i64 (SX.AO.den .i64 p0 p1 .quo) 1 .add) else (SX.AO.den .i64 p0 p1 .quo)))), .int .i64 (if (x14 != 0) = true then 2 else (if (decide ((if ((SX.AO.den .i64 p0 p1 .rem) != 0) = true then (SX.AO.den .i64 (SX.AO.den .i64 p0 p1 .quo) 1 .add) else (SX.AO.den .i64 p0 p1 .quo)) > 4096)) = true then 3 else 0))]) = _
  show _ = Ending.returned (.tuple #[.int .i64 (stepsN (arcI p0 p1 p2 p3 p4 p5 p6 p7 p8 p9 p10 p11 p12 p13 n (tabB n at_ lo hi)) p0 p1), .int .i64 (stepsE (arcI p0 p1 p2 p3 p4 p5 p6 p7 p8 p9 p10 p11 p12 p13 n (tabB n at_ lo hi)) p0 p1)])
  rw [← hx14]
  rfl

set_option maxRecDepth 100000 in
set_option maxHeartbeats 4000000 in
theorem qsteps_any (p0 p1 p2 p3 p4 p5 p6 p7 p8 p9 p10 p11 p12 p13 : Int)  (A : Option Addr) (n cap : Nat) (at_ lo hi : Nat → Int) (kp2 : -9223372036854775808 ≤ p2) (kp4 : -9223372036854775808 ≤ p4) (kp6 : -9223372036854775808 ≤ p6) (kp8 : -9223372036854775808 ≤ p8) (kp10 : -9223372036854775808 ≤ p10) (kp12 : -9223372036854775808 ≤ p12) (w : World) (hT : TabIn w A n at_ lo hi) (hI : ∀ i, i < n → I64 (at_ i) ∧ I64 (lo i) ∧ I64 (hi i)) : Calls Try.prog 9 #[.agg #[.int .i64 p0, .int .i64 p1, .int .i64 p2, .int .i64 p3, .int .i64 p4, .int .i64 p5, .int .i64 p6, .int .i64 p7, .int .i64 p8, .int .i64 p9, .int .i64 p10, .int .i64 p11, .slice A n cap, .int .i64 p12, .int .i64 p13]] w fun e w' => e = .returned (.tuple #[.int .i64 (stepsN (arcI p0 p1 p2 p3 p4 p5 p6 p7 p8 p9 p10 p11 p12 p13 n (tabB n at_ lo hi)) p0 p1), .int .i64 (stepsE (arcI p0 p1 p2 p3 p4 p5 p6 p7 p8 p9 p10 p11 p12 p13 n (tabB n at_ lo hi)) p0 p1)]) ∧ Below w.heap.size w w' := by
  obtain ⟨x14, hx14⟩ : ∃ x, x = arcI p0 p1 p2 p3 p4 p5 p6 p7 p8 p9 p10 p11 p12 p13 n (tabB n at_ lo hi) := ⟨_, rfl⟩
  have C0 : ∀ W, Below w.heap.size w W → Calls Try.prog 15 #[.agg #[.int .i64 p0, .int .i64 p1, .int .i64 p2, .int .i64 p3, .int .i64 p4, .int .i64 p5, .int .i64 p6, .int .i64 p7, .int .i64 p8, .int .i64 p9, .int .i64 p10, .int .i64 p11, .slice A n cap, .int .i64 p12, .int .i64 p13]] W fun e w' => e = .returned (.int .i64 x14) ∧ Below W.heap.size W w' := fun W hb => by
    rw [hx14]; exact qarc_any p0 p1 p2 p3 p4 p5 p6 p7 p8 p9 p10 p11 p12 p13 A n cap at_ lo hi (by omega) (by omega) (by omega) (by omega) (by omega) (by omega) W (hT.below hb) hI
  let ε : SX.Env := ⟨fun q => [p0, p1, p2, p3, p4, p5, p6, p7, p8, p9, p10, p11, p12, p13, x14].getD q 0, fun q => [false, false, false, false, false, false, false, false, false, false, false, false, false, false, false].getD q false, fun q => [A].getD q none, fun q => [n].getD q 0, fun q => [cap].getD q 0, fun _ => default⟩
  have R := SX.reads_of (P := Try.prog) (by kernel_rfl) SX.qsteps_r ε w (by
    simp only [SX.qsteps_o, List.forall_mem_cons]
    exact ⟨fun _ W hb => C0 W hb,
      (fun h => (show (p1 != 0) = true from arc_pos (hx14.symm.trans (by simpa using (show (!(x14 != 0)) = true from h))))),
      (fun h => (show (p1 != 0) = true from arc_pos (hx14.symm.trans (by simpa using (show (!(x14 != 0)) = true from h))))), by simp⟩)
  refine R.mono fun e w' ⟨h1, h2⟩ => ⟨h1.trans ?_, h2⟩
  show Ending.returned (.tuple #[.int .i64 (if (x14 != 0) = true then 0 else (if (decide ((if ((SX.AO.den .i64 p0 p1 .rem) != 0) = true then (SX.AO.den .i64 (SX.AO.den .i64 p0 p1 .quo) 1 .add) else (SX.AO.den .i64 p0 p1 .quo)) > 4096)) = true then 0 else (if ((SX.AO.den .i64 p0 p1 .rem) != 0) = true then (SX.AO.den .i64 (SX.AO.den .i64 p0 p1 .quo) 1 .add) else (SX.AO.den .i64 p0 p1 .quo)))), .int .i64 (if (x14 != 0) = true then 2 else (if (decide ((if ((SX.AO.den .i64 p0 p1 .rem) != 0) = true then (SX.AO.den .i64 (SX.AO.den .i64 p0 p1 .quo) 1 .add) else (SX.AO.den .i64 p0 p1 .quo)) > 4096)) = true then 3 else 0))]) = _
  show _ = Ending.returned (.tuple #[.int .i64 (stepsN (arcI p0 p1 p2 p3 p4 p5 p6 p7 p8 p9 p10 p11 p12 p13 n (tabB n at_ lo hi)) p0 p1), .int .i64 (stepsE (arcI p0 p1 p2 p3 p4 p5 p6 p7 p8 p9 p10 p11 p12 p13 n (tabB n at_ lo hi)) p0 p1)])
  rw [← hx14]
  rfl
set_option maxRecDepth 100000 in
set_option maxHeartbeats 4000000 in
theorem walk_checks (p0 p1 p2 p3 p4 p5 p6 p7 p8 p9 p10 p11 p12 p13 p14 p15 p16 p17 p18 p19 p20 p21 p22 p23 p24 p25 p26 p27 p28 p29 p30 p31 p32 p33 p34 p35 p36 p37 p38 p39 p40 p41 p42 : Int) (A : Option Addr) (n cap : Nat) (at_ lo hi : Nat → Int) (kp0 : -9223372036854775808 ≤ p0) (kp2 : -9223372036854775808 ≤ p2) (kp4 : -9223372036854775808 ≤ p4) (kp6 : -9223372036854775808 ≤ p6) (kp8 : -9223372036854775808 ≤ p8) (kp10 : -9223372036854775808 ≤ p10) (kp12 : -9223372036854775808 ≤ p12) (kp16 : -9223372036854775808 ≤ p16) (kp18 : -9223372036854775808 ≤ p18) (kp20 : -9223372036854775808 ≤ p20) (kp22 : -9223372036854775808 ≤ p22) (kp24 : -9223372036854775808 ≤ p24) (kp26 : -9223372036854775808 ≤ p26) (kp28 : -9223372036854775808 ≤ p28) (kp29 : -9223372036854775808 ≤ p29) (kp31 : -9223372036854775808 ≤ p31) (kp33 : -9223372036854775808 ≤ p33) (kp35 : -9223372036854775808 ≤ p35) (kp37 : -9223372036854775808 ≤ p37) (kp39 : -9223372036854775808 ≤ p39) (kp41 : -9223372036854775808 ≤ p41) (w : World) (hT : TabIn w A n at_ lo hi) (hI : ∀ i, i < n → I64 (at_ i) ∧ I64 (lo i) ∧ I64 (hi i)) : Calls Try.prog 3 #[.agg #[.int .i64 p0, .int .i64 p1, .int .i64 p2, .int .i64 p3, .int .i64 p4, .int .i64 p5, .int .i64 p6, .int .i64 p7, .int .i64 p8, .int .i64 p9, .int .i64 p10, .int .i64 p11, .int .i64 p12, .int .i64 p13], .agg #[.int .i64 p14, .int .i64 p15, .int .i64 p16, .int .i64 p17, .int .i64 p18, .int .i64 p19, .int .i64 p20, .int .i64 p21, .int .i64 p22, .int .i64 p23, .int .i64 p24, .int .i64 p25, .slice A n cap, .int .i64 p26, .int .i64 p27], .agg #[.int .i64 p28, .int .i64 p29, .int .i64 p30, .int .i64 p31, .int .i64 p32, .int .i64 p33, .int .i64 p34, .int .i64 p35, .int .i64 p36, .int .i64 p37, .int .i64 p38, .int .i64 p39, .int .i64 p40, .int .i64 p41, .int .i64 p42]] w fun e w' => e = .returned (.bool true) ∧ Below w.heap.size w w' := by
  obtain ⟨x43, hx43⟩ : ∃ x, x = stepsN (arcI p14 p15 p16 p17 p18 p19 p20 p21 p22 p23 p24 p25 p26 p27 n (tabB n at_ lo hi)) p14 p15 := ⟨_, rfl⟩
  obtain ⟨x44, hx44⟩ : ∃ x, x = stepsE (arcI p14 p15 p16 p17 p18 p19 p20 p21 p22 p23 p24 p25 p26 p27 n (tabB n at_ lo hi)) p14 p15 := ⟨_, rfl⟩
  have C0 : ∀ W, Below w.heap.size w W → Calls Try.prog 8 #[.agg #[.int .i64 p14, .int .i64 p15, .int .i64 p16, .int .i64 p17, .int .i64 p18, .int .i64 p19, .int .i64 p20, .int .i64 p21, .int .i64 p22, .int .i64 p23, .int .i64 p24, .int .i64 p25, .slice A n cap, .int .i64 p26, .int .i64 p27]] W fun e w' => e = .returned (.tuple #[.int .i64 x43, .int .i64 x44]) ∧ Below W.heap.size W w' := fun W hb => by
    rw [hx43, hx44]; exact fsteps_any p14 p15 p16 p17 p18 p19 p20 p21 p22 p23 p24 p25 p26 p27 A n cap at_ lo hi (by omega) (by omega) (by omega) (by omega) (by omega) (by omega) W (hT.below hb) hI
  obtain ⟨x45, hx45⟩ : ∃ x, x = stepsN (arcI p14 p15 p16 p17 p18 p19 p20 p21 p22 p23 p24 p25 p26 p27 n (tabB n at_ lo hi)) p14 p15 := ⟨_, rfl⟩
  obtain ⟨x46, hx46⟩ : ∃ x, x = stepsE (arcI p14 p15 p16 p17 p18 p19 p20 p21 p22 p23 p24 p25 p26 p27 n (tabB n at_ lo hi)) p14 p15 := ⟨_, rfl⟩
  have C1 : ∀ W, Below w.heap.size w W → Calls Try.prog 9 #[.agg #[.int .i64 p14, .int .i64 p15, .int .i64 p16, .int .i64 p17, .int .i64 p18, .int .i64 p19, .int .i64 p20, .int .i64 p21, .int .i64 p22, .int .i64 p23, .int .i64 p24, .int .i64 p25, .slice A n cap, .int .i64 p26, .int .i64 p27]] W fun e w' => e = .returned (.tuple #[.int .i64 x45, .int .i64 x46]) ∧ Below W.heap.size W w' := fun W hb => by
    rw [hx45, hx46]; exact qsteps_any p14 p15 p16 p17 p18 p19 p20 p21 p22 p23 p24 p25 p26 p27 A n cap at_ lo hi (by omega) (by omega) (by omega) (by omega) (by omega) (by omega) W (hT.below hb) hI
  obtain ⟨x47, hx47⟩ : ∃ x, x = planetI p0 p1 p2 p3 p4 p5 p6 p7 p8 p9 p10 p11 p12 p13 := ⟨_, rfl⟩
  have C2 : ∀ W, Below w.heap.size w W → Calls Try.prog 10 #[.agg #[.int .i64 p0, .int .i64 p1, .int .i64 p2, .int .i64 p3, .int .i64 p4, .int .i64 p5, .int .i64 p6, .int .i64 p7, .int .i64 p8, .int .i64 p9, .int .i64 p10, .int .i64 p11, .int .i64 p12, .int .i64 p13]] W fun e w' => e = .returned (.int .i64 x47) ∧ Below W.heap.size W w' := fun W hb => by
    rw [hx47]; exact fplanet_any p0 p1 p2 p3 p4 p5 p6 p7 p8 p9 p10 p11 p12 p13 (by omega) (by omega) (by omega) (by omega) (by omega) (by omega) (by omega) W
  obtain ⟨x48, hx48⟩ : ∃ x, x = planetI p0 p1 p2 p3 p4 p5 p6 p7 p8 p9 p10 p11 p12 p13 := ⟨_, rfl⟩
  have C3 : ∀ W, Below w.heap.size w W → Calls Try.prog 11 #[.agg #[.int .i64 p0, .int .i64 p1, .int .i64 p2, .int .i64 p3, .int .i64 p4, .int .i64 p5, .int .i64 p6, .int .i64 p7, .int .i64 p8, .int .i64 p9, .int .i64 p10, .int .i64 p11, .int .i64 p12, .int .i64 p13]] W fun e w' => e = .returned (.int .i64 x48) ∧ Below W.heap.size W w' := fun W hb => by
    rw [hx48]; exact qplanet_any p0 p1 p2 p3 p4 p5 p6 p7 p8 p9 p10 p11 p12 p13 (by omega) (by omega) (by omega) (by omega) (by omega) (by omega) (by omega) W
  obtain ⟨x49, hx49⟩ : ∃ x, x = stateI p28 p29 p30 p31 p32 p33 p34 p35 p36 p37 p38 p39 p40 p41 p42 := ⟨_, rfl⟩
  have C4 : ∀ W, Below w.heap.size w W → Calls Try.prog 12 #[.agg #[.int .i64 p28, .int .i64 p29, .int .i64 p30, .int .i64 p31, .int .i64 p32, .int .i64 p33, .int .i64 p34, .int .i64 p35, .int .i64 p36, .int .i64 p37, .int .i64 p38, .int .i64 p39, .int .i64 p40, .int .i64 p41, .int .i64 p42]] W fun e w' => e = .returned (.int .i64 x49) ∧ Below W.heap.size W w' := fun W hb => by
    rw [hx49]; exact fstate_any p28 p29 p30 p31 p32 p33 p34 p35 p36 p37 p38 p39 p40 p41 p42 (by omega) (by omega) (by omega) (by omega) (by omega) (by omega) (by omega) (by omega) W
  obtain ⟨x50, hx50⟩ : ∃ x, x = stateI p28 p29 p30 p31 p32 p33 p34 p35 p36 p37 p38 p39 p40 p41 p42 := ⟨_, rfl⟩
  have C5 : ∀ W, Below w.heap.size w W → Calls Try.prog 13 #[.agg #[.int .i64 p28, .int .i64 p29, .int .i64 p30, .int .i64 p31, .int .i64 p32, .int .i64 p33, .int .i64 p34, .int .i64 p35, .int .i64 p36, .int .i64 p37, .int .i64 p38, .int .i64 p39, .int .i64 p40, .int .i64 p41, .int .i64 p42]] W fun e w' => e = .returned (.int .i64 x50) ∧ Below W.heap.size W w' := fun W hb => by
    rw [hx50]; exact qstate_any p28 p29 p30 p31 p32 p33 p34 p35 p36 p37 p38 p39 p40 p41 p42 (by omega) (by omega) (by omega) (by omega) (by omega) (by omega) (by omega) (by omega) W
  obtain ⟨x51, hx51⟩ : ∃ x, x = arcI p14 p15 p16 p17 p18 p19 p20 p21 p22 p23 p24 p25 p26 p27 n (tabB n at_ lo hi) := ⟨_, rfl⟩
  have C6 : ∀ W, Below w.heap.size w W → Calls Try.prog 14 #[.agg #[.int .i64 p14, .int .i64 p15, .int .i64 p16, .int .i64 p17, .int .i64 p18, .int .i64 p19, .int .i64 p20, .int .i64 p21, .int .i64 p22, .int .i64 p23, .int .i64 p24, .int .i64 p25, .slice A n cap, .int .i64 p26, .int .i64 p27]] W fun e w' => e = .returned (.int .i64 x51) ∧ Below W.heap.size W w' := fun W hb => by
    rw [hx51]; exact farc_any p14 p15 p16 p17 p18 p19 p20 p21 p22 p23 p24 p25 p26 p27 A n cap at_ lo hi (by omega) (by omega) (by omega) (by omega) (by omega) (by omega) W (hT.below hb) hI
  obtain ⟨x52, hx52⟩ : ∃ x, x = arcI p14 p15 p16 p17 p18 p19 p20 p21 p22 p23 p24 p25 p26 p27 n (tabB n at_ lo hi) := ⟨_, rfl⟩
  have C7 : ∀ W, Below w.heap.size w W → Calls Try.prog 15 #[.agg #[.int .i64 p14, .int .i64 p15, .int .i64 p16, .int .i64 p17, .int .i64 p18, .int .i64 p19, .int .i64 p20, .int .i64 p21, .int .i64 p22, .int .i64 p23, .int .i64 p24, .int .i64 p25, .slice A n cap, .int .i64 p26, .int .i64 p27]] W fun e w' => e = .returned (.int .i64 x52) ∧ Below W.heap.size W w' := fun W hb => by
    rw [hx52]; exact qarc_any p14 p15 p16 p17 p18 p19 p20 p21 p22 p23 p24 p25 p26 p27 A n cap at_ lo hi (by omega) (by omega) (by omega) (by omega) (by omega) (by omega) W (hT.below hb) hI
  let ε : SX.Env := ⟨fun q => [p0, p1, p2, p3, p4, p5, p6, p7, p8, p9, p10, p11, p12, p13, p14, p15, p16, p17, p18, p19, p20, p21, p22, p23, p24, p25, p26, p27, p28, p29, p30, p31, p32, p33, p34, p35, p36, p37, p38, p39, p40, p41, p42, x43, x44, x45, x46, x47, x48, x49, x50, x51, x52].getD q 0, fun q => [false, false, false, false, false, false, false, false, false, false, false, false, false, false, false, false, false, false, false, false, false, false, false, false, false, false, false, false, false, false, false, false, false, false, false, false, false, false, false, false, false, false, false, false, false, false, false, false, false, false, false, false, false].getD q false, fun q => [A].getD q none, fun q => [n].getD q 0, fun q => [cap].getD q 0, fun _ => default⟩
  have key : (if (decide (((n : Nat) : Int) > 70)) = true then true else (if (if (x47 == x48) = true then (x49 == x50) else false) = true then (if (x51 == x52) = true then (if (x43 == x45) = true then (x44 == x46) else false) else false) else false)) = true := by
    subst hx43 hx44 hx45 hx46 hx47 hx48 hx49 hx50 hx51 hx52
    simp
  have R := SX.reads_of (P := Try.prog) (by kernel_rfl) SX.checks_r ε w (by
    simp only [SX.checks_o, List.forall_mem_cons]
    exact ⟨fun _ W hb => C0 W hb,
      fun _ W hb => C1 W hb,
      fun _ W hb => C2 W hb,
      fun _ W hb => C3 W hb,
      fun _ W hb => C4 W hb,
      fun _ W hb => C5 W hb,
      fun _ W hb => C6 W hb,
      fun _ W hb => C7 W hb, by simp⟩)
  refine R.mono fun e w' ⟨h1, h2⟩ => ⟨h1.trans (congrArg Ending.returned (congrArg Value.bool key)), h2⟩
end Go.Proofs.Ytfknnnlbfdeomaa
