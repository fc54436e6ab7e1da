/- Packed: FoldP. -/
import Derived.RangeFuncNested
import Derived.RangeFuncBound
import Derived.RangeFuncCalls
import Derived.RangeFuncLeaves
import Derived.RangeFuncBox
import Derived.Shelf.Abstract
import Derived.Shelf.RegionOpen
import Derived.WalkKit
import Derived.OwnWalkIn
import Derived.TacticsInMore
import Derived.LoopNIn
import Derived.LoopIn
import Derived.Lib.Hide
import Derived.Test.YtopdikifgbdnoaaGreatProg
import Derived.Test.YtopdikifgbdnoaaGreatP16
import Derived.Test.YtopdikifgbdnoaaGreatP18
set_option linter.unusedVariables false
set_option linter.unusedSimpArgs false
namespace Go.Proofs.YtopdikifgbdnoaaGreat
section
open Go.RowKit Go.Shelf
namespace FP
open FD
attribute [local go_sem] Oper.semAt_some
structure Pr where
  a : Sp
  b : Sp
abbrev prv (x : Pr) : Value := .agg #[.int .i64 x.a.lo, .int .i64 x.a.hi, .int .i64 x.b.lo, .int .i64 x.b.hi]
def elp (lo hi lo' hi' : Nat → Int) (hE : ∀ j, In64 (lo j) ∧ In64 (hi j)) (hE' : ∀ j, In64 (lo' j) ∧ In64 (hi' j)) (j : Nat) : Pr := ⟨el lo hi hE j, el lo' hi' hE' j⟩
theorem grownBy_drew (W : World) : W.grownBy W.drew none := ⟨rfl, rfl, rfl, Nat.le_refl _, fun i hi _ => rfl⟩
theorem below_drew {n : Nat} {A B : World} (h : Below n A B) : Below n A B.drew := ⟨h.os, h.tape, h.output, h.size, h.block⟩
set_option maxRecDepth 100000 in
set_option maxHeartbeats 2000000 in
theorem pairs1_in (F : Fence) (n : Nat) (h7 : F.fn 91) (hro : F.round = none) (hn : 1 ≤ n) (l Ba Bb n₀ b off cap b' off' cap' len : Nat) (lo hi lo' hi' : Nat → Int) (hE : ∀ j, In64 (lo j) ∧ In64 (hi j)) (hE' : ∀ j, In64 (lo' j) ∧ In64 (hi' j)) (hreach : len * 16 ≤ 140737488351232) (hb : b < n₀) (hb' : b' < n₀) (hBan : Ba < n₀) (hBbn : Bb < n₀) (J Jx : List Pr → World → Prop)
    (hJd : ∀ xs W, J xs W → J xs W.drew)
    (hY : ∀ pre x W, J pre W → pre.length < len → YieldAt F (n - 1) Tryz.prog l #[prv x] W fun e W' =>
      (e = .returned (.bool true) ∧ J (pre ++ [x]) W' ∧ Below n₀ W W') ∨ (e = .returned (.bool false) ∧ Jx (pre ++ [x]) W'))
    (W : World) (hsz : n₀ ≤ W.heap.size) (hBa : W.cell? ⟨Ba, 0, none⟩ = some (.slice (some ⟨b, off, none⟩) len cap)) (hBb : W.cell? ⟨Bb, 0, none⟩ = some (.slice (some ⟨b', off', none⟩) len cap')) (hc : Elems W b off len lo hi) (hc' : Elems W b' off' len lo' hi') (h0 : J [] W) :
    CallsIn F n Tryz.prog 91 #[.func (.yield l) #[] #[], .pointer (some ⟨Ba, 0, none⟩), .pointer (some ⟨Bb, 0, none⟩)] W fun e W' => (∃ v, e = .returned v) ∧
      ((∃ ys, ys = upto (elp lo hi lo' hi' hE hE') len ∧ J ys W') ∨ (∃ pre, (∃ k, k ≤ len ∧ pre = upto (elp lo hi lo' hi' hE hE') k) ∧ Jx pre W')) := by
  have hmix : Tryz.prog.follows .mixedOrders = true := by kernel_rfl
  refine callsIn_of_wp Tryz.func91 rfl h7 ?_ hro
  simp only [Tryz.ntmps91, List.size_toArray, List.length_cons, List.length_nil, Nat.reduceAdd, Nat.reduceSub, Array.replicate_succ, Array.replicate_zero, List.push_toArray, List.append_toArray, List.nil_append, List.cons_append]
  gi_wp2
  gi_loopw [7] (fun i wr => ∃ k : Nat, k ≤ len ∧ i = .int .i64 k ∧ J (upto (elp lo hi lo' hi' hE hE') k) wr ∧ Below n₀ W wr)
    (fun i _ => len - (intOf i).toNat)
  case atStart => exact ⟨0, Nat.zero_le _, rfl, h0, Below.refl _ _⟩
  case round =>
    obtain ⟨k, hk, rfl, hJs', hnx⟩ := hrel
    by_cases hlt : k < len
    · have hc1 := (hnx.cell (p := ⟨b, off + k * 2, none⟩) hb).trans (hc k hlt).1
      have hc2 := (hnx.cell (p := ⟨b, off + k * 2 + 1, none⟩) hb).trans (hc k hlt).2
      have hc3 := (hnx.cell (p := ⟨b', off' + k * 2, none⟩) hb').trans (hc' k hlt).1
      have hc4 := (hnx.cell (p := ⟨b', off' + k * 2 + 1, none⟩) hb').trans (hc' k hlt).2
      have hs1 := (hnx.cell (p := ⟨Ba, 0, none⟩) hBan).trans hBa
      have hs2 := (hnx.cell (p := ⟨Bb, 0, none⟩) hBbn).trans hBb
      have hJ2 := hJd _ _ hJs'
      obtain ⟨fn, tmps, assign, body, hy, hR0⟩ := hY _ (elp lo hi lo' hi' hE hE' k) _ hJ2 (by rw [upto_length]; exact hlt)
      have hR := hR0.mono (R' := fun e W' => ∃ bb : Bool, e = .returned (.bool bb) ∧ ((bb = true ∧ J (upto (elp lo hi lo' hi' hE hE') k ++ [elp lo hi lo' hi' hE hE' k]) W' ∧ Below n₀ wr.drew W') ∨ (bb = false ∧ Jx (upto (elp lo hi lo' hi' hE hE') k ++ [elp lo hi lo' hi' hE hE' k]) W'))) (by
        rintro e W3 (⟨rfl, h⟩ | ⟨rfl, h⟩)
        · exact ⟨true, rfl, .inl ⟨rfl, h⟩⟩
        · exact ⟨false, rfl, .inr ⟨rfl, h⟩⟩)
      clear hR0
      dsimp only [prv, elp, el] at hy hR
      gi_wp2
      refine QTI.region_tail_same 10 hro hmix (by kernel_rfl) ?_
      simp only [List.take_succ_cons, List.take_zero, List.drop_succ_cons, List.drop_zero]
      repeat (gi_big_quiet_step (first | rfl | (intro hC; subst hC; go_simp; done) | (intro hC; subst hC; go_simp; rfl)))
      refine wpQuietIn_nil ?_
      gi_wp2
      refine hR.mono ?_
      rintro e W3 ⟨bb, rfl, hP⟩
      rcases hP with ⟨rfl, hJ3, hk3⟩ | ⟨rfl, hJx3⟩
      · gi_wp2
        go_roundw
        case rel => exact ⟨k + 1, by omega, by simp, by rw [upto_succ]; exact hJ3, (below_drew hnx).trans hk3⟩
        case measure => simp [intOf]; omega
      · gi_wp2
        refine bodyPost_ret (results_none rfl _ _ _) rfl ?_
        exact ⟨⟨_, rfl⟩, .inr ⟨_, ⟨k + 1, by omega, (upto_succ _ _).symm⟩, hJx3⟩⟩
    · obtain rfl : k = len := by omega
      gi_wp2
      go_end0
      exact ⟨⟨_, rfl⟩, .inl ⟨_, rfl, hJs'⟩⟩
def Cells4 (W : World) (b : Nat) (x : Pr) : Prop := (W.cell? ⟨b, 0, none⟩ = some (.int .i64 x.a.lo) ∧ W.frozen? ⟨b, 0, none⟩ = false) ∧ W.cell? ⟨b, 1, none⟩ = some (.int .i64 x.a.hi) ∧ W.cell? ⟨b, 2, none⟩ = some (.int .i64 x.b.lo) ∧ W.cell? ⟨b, 3, none⟩ = some (.int .i64 x.b.hi)
theorem Cells4.kept {A B : World} {row : Option Nat} {b : Nat} {x : Pr} (h : Cells4 A b x) (hg : A.grownBy B row) (hr : ∀ r, row = some r → ∃ o : Obj, A.heap[r]? = some o ∧ o.isCells = false) : Cells4 B b x :=
  ⟨⟨cell_kept h.1.1 hg hr, (frozen_kept h.1.1 hg hr).trans h.1.2⟩, cell_kept h.2.1 hg hr, cell_kept h.2.2.1 hg hr, cell_kept h.2.2.2 hg hr⟩
theorem Cells4.new (W : World) (x : Pr) (t : TypeId) : Cells4 (W.alloc (.cells #[.int .i64 x.a.lo, .int .i64 x.a.hi, .int .i64 x.b.lo, .int .i64 x.b.hi] t)) W.heap.size x := by
  refine ⟨⟨?_, ?_⟩, ?_, ?_, ?_⟩
  · rw [World.cell?_alloc_new]; rfl
  · rw [World.frozen?_alloc_new]
  · rw [World.cell?_alloc_new]; rfl
  · rw [World.cell?_alloc_new]; rfl
  · rw [World.cell?_alloc_new]; rfl
def acc (f : Sp → Pr → Sp × Int) (s : Sp) : List Pr → Option Sp
  | [] => some s
  | x :: xs => if (f s x).2 = 0 then acc f (f s x).1 xs else none
def foldS (f : Sp → Pr → Sp × Int) (s : Sp) : List Pr → Sp × Int
  | [] => (s, 0)
  | x :: xs => if (f s x).2 = 0 then foldS f (f s x).1 xs else (.zero, (f s x).2)
theorem acc_snoc (f : Sp → Pr → Sp × Int) : ∀ (xs : List Pr) (s : Sp) (x : Pr) (r : Sp), acc f s xs = some r → acc f s (xs ++ [x]) = if (f r x).2 = 0 then some (f r x).1 else none
  | [], s, x, r, h => by cases h; rfl
  | y :: ys, s, x, r, h => by
    simp only [acc, List.cons_append] at h ⊢
    split at h
    · rename_i he; rw [if_pos he]; exact acc_snoc f ys _ x r h
    · cases h
theorem foldS_acc (f : Sp → Pr → Sp × Int) : ∀ (xs : List Pr) (s r : Sp), acc f s xs = some r → foldS f s xs = (r, 0)
  | [], s, r, h => by cases h; rfl
  | y :: ys, s, r, h => by
    simp only [acc, foldS] at h ⊢
    split at h
    · rename_i he; rw [if_pos he]; exact foldS_acc f ys _ r h
    · cases h
theorem foldS_bad (f : Sp → Pr → Sp × Int) : ∀ (xs ys : List Pr) (s : Sp) (x : Pr) (r : Sp), acc f s xs = some r → (f r x).2 ≠ 0 → foldS f s (xs ++ x :: ys) = (.zero, (f r x).2)
  | [], ys, s, x, r, h, hn => by cases h; simp only [List.nil_append, foldS, if_neg hn]
  | y :: l, ys, s, x, r, h, hn => by
    simp only [acc, foldS, List.cons_append] at h ⊢
    split at h
    · rename_i he; rw [if_pos he]; exact foldS_bad f l ys _ x r h hn
    · cases h
structure Inv (f : Sp → Pr → Sp × Int) (g : Nat) (s0 : Sp) (w : World) (pre : List Pr) (W : World) : Prop where
  accu : ∃ r, acc f s0 pre = some r ∧ Cells2 W (w.heap.size + 5) r
  step : Cell1 W (w.heap.size + 1) (.func (.func g) #[] #[])
  res : Cells2 W (w.heap.size + 2) .zero
  err : Cell1 W (w.heap.size + 3) (.int .i64 0)
  non : Cells2 W (w.heap.size + 4) .zero
  below : Below w.heap.size w W
  size : w.heap.size + 6 ≤ W.heap.size
structure Left (f : Sp → Pr → Sp × Int) (s0 : Sp) (w : World) (c : Code) (pre : List Pr) (W : World) : Prop where
  ret : c = .ret
  bad : ∃ e, e ≠ 0 ∧ (∀ ys, foldS f s0 (pre ++ ys) = (.zero, e)) ∧ Cell1 W (w.heap.size + 3) (.int .i64 e)
  res : Cells2 W (w.heap.size + 2) .zero
  below : Below w.heap.size w W
  size : w.heap.size + 6 ≤ W.heap.size
theorem pairs_stops (F : Fence) (n : Nat) (h7 : F.fn 91) (hro : F.round = none) (hn : 1 ≤ n) (Ba Bb : Nat) (w₀ : World) (b off cap b' off' cap' len : Nat) (lo hi lo' hi' : Nat → Int) (hE : ∀ j, In64 (lo j) ∧ In64 (hi j)) (hE' : ∀ j, In64 (lo' j) ∧ In64 (hi' j)) (hreach : len * 16 ≤ 140737488351232)
    (hb : b < w₀.heap.size) (hb' : b' < w₀.heap.size) (hBan : Ba < w₀.heap.size) (hBbn : Bb < w₀.heap.size) (hBa : w₀.cell? ⟨Ba, 0, none⟩ = some (.slice (some ⟨b, off, none⟩) len cap)) (hBb : w₀.cell? ⟨Bb, 0, none⟩ = some (.slice (some ⟨b', off', none⟩) len cap')) (hc : Elems w₀ b off len lo hi) (hc' : Elems w₀ b' off' len lo' hi') (w : World) (hw : Below w₀.heap.size w₀ w) :
    SeqStopsK F n Tryz.prog 91 #[.pointer (some ⟨Ba, 0, none⟩), .pointer (some ⟨Bb, 0, none⟩)] (fun x : Pr => #[prv x]) (Below w₀.heap.size) (fun ys => ys = upto (elp lo hi lo' hi' hE hE') len) (fun pre => pre <+: upto (elp lo hi lo' hi' hE hE') len) len w := fun l J Jx W hW hJ _ hY h0 => by
  have hB := hw.trans (hW.mono hw.size)
  have el1 : ∀ {b off : Nat} {lo hi : Nat → Int}, b < w₀.heap.size → Elems w₀ b off len lo hi → Elems W b off len lo hi := fun hb h j hj => ⟨(hB.cell (p := ⟨_, _, none⟩) hb).trans (h j hj).1, (hB.cell (p := ⟨_, _, none⟩) hb).trans (h j hj).2⟩
  refine (pairs1_in F n h7 hro hn l Ba Bb w₀.heap.size b off cap b' off' cap' len lo hi lo' hi' hE hE' hreach hb hb' hBan hBbn J Jx (fun xs W h => ?_) hY W hB.size ((hB.cell (p := ⟨Ba, 0, none⟩) hBan).trans hBa) ((hB.cell (p := ⟨Bb, 0, none⟩) hBbn).trans hBb) (el1 hb hc) (el1 hb' hc') h0).mono ?_
  · exact hJ _ _ _ none h (grownBy_drew W) (fun r e => by cases e)
  · rintro e W' ⟨he, ⟨ys, rfl, hj⟩ | ⟨pre, ⟨k, hk, rfl⟩, hj⟩⟩
    · exact ⟨he, .inl ⟨_, rfl, hj⟩⟩
    · exact ⟨he, .inr ⟨_, by rw [upto_take _ hk]; exact List.take_prefix _ _, hj⟩⟩
abbrev inLoop (g Ba Bb : Nat) (s0 : Sp) (B Bx : Nat) (x : Pr) : Act :=
  { tmps := #[Value.func (Fn.func 91) #[] #[Value.pointer (some ⟨Ba, 0, none⟩), Value.pointer (some ⟨Bb, 0, none⟩)], .agg #[.int .i64 s0.lo, .int .i64 s0.hi],
      Value.func (Fn.func g) #[] #[], undef, .pointer (some ⟨B, 0, none⟩), .pointer (some ⟨B + 1, 0, none⟩), .pointer (some ⟨B + 1 + 1, 0, none⟩),
      .pointer (some ⟨B + 1 + 1 + 1, 0, none⟩), .pointer (some ⟨B + 1 + 1 + 1 + 1, 0, none⟩), .pointer (some ⟨B + 1 + 1 + 1 + 1 + 1, 0, none⟩),
      .pointer (some ⟨Bx, 0, none⟩), undef, .agg #[.int .i64 s0.lo, .int .i64 s0.hi], Value.func (Fn.func 91) #[] #[Value.pointer (some ⟨Ba, 0, none⟩), Value.pointer (some ⟨Bb, 0, none⟩)], prv x,
      undef, undef, undef, undef, undef, undef, undef, undef, undef, undef, undef, undef],
    defers := [] }
theorem fin_ret {x : Sp × Int} {r : Sp} {e : Int} {w W : World} {tmps : Array Value} {D : Nat} (hx : x = (r, e)) (C : Cells2 W (w.heap.size + 2) r) (D0 : Cell1 W (w.heap.size + 3) (.int .i64 e)) (hB : Below w.heap.size w W)
    (hK : W.heap[D]? = some (.deferred (some []))) (hD : w.heap.size ≤ D) (h6 : tmps.getD 6 undef = .pointer (some ⟨w.heap.size + 1 + 1, 0, none⟩)) (h7 : tmps.getD 7 undef = .pointer (some ⟨w.heap.size + 1 + 1 + 1, 0, none⟩)) :
    bodyPostM Fence.wide 4 Tryz.prog Tryz.f71 (fun e w' => e = .returned (.tuple #[spv x.1, .int .i64 x.2]) ∧ Below w.heap.size w w') .ret { tmps := tmps, defers := [{ target := Target.collected D, args := #[] }] } W := by
  subst hx
  refine ⟨by simp, .inl ⟨_, _, rfl, run_takeDeferred hK, ?_⟩⟩
  have hg := grownBy_putObj' W D (.deferred none)
  have hr : ∀ r', (some D : Option Nat) = some r' → ∃ o : Obj, W.heap[r']? = some o ∧ o.isCells = false := fun r' e => by cases e; exact ⟨_, hK, rfl⟩
  have C' := C.kept hg hr
  have D' := D0.kept hg hr
  have B' := hB.trans (belowK_b (w := w) (Nat.le_refl _) W D (.deferred (some [])) (.deferred none) hD hK rfl rfl)
  obtain ⟨⟨c00, c01⟩, c10, c11⟩ := C'
  obtain ⟨d00, d01⟩ := D'
  refine ⟨.tuple #[spv r, .int .i64 e], ?_, rfl, B'⟩
  have h6' : tmps[6]?.getD undef = Value.pointer (some { block := w.heap.size + 1 + 1, off := 0 }) := by rw [← Array.getD_eq_getD_getElem?]; exact h6
  have h7' : tmps[7]?.getD undef = Value.pointer (some { block := w.heap.size + 1 + 1 + 1, off := 0 }) := by rw [← Array.getD_eq_getD_getElem?]; exact h7
  simp [results, Tryz.results71, go_sem, h6', h7', c00, c10, d00]
set_option maxRecDepth 100000 in
set_option maxHeartbeats 4000000 in
theorem foldp_any (f : Sp → Pr → Sp × Int)
    (hstep : ∀ s x W, Calls Tryz.prog 73 #[spv s, prv x] W fun e W' => e = .returned (.tuple #[spv (f s x).1, .int .i64 (f s x).2]) ∧ Below W.heap.size W W')
    (Ba Bb b off cap b' off' cap' len : Nat) (lo hi lo' hi' : Nat → Int) (hE : ∀ j, In64 (lo j) ∧ In64 (hi j)) (hE' : ∀ j, In64 (lo' j) ∧ In64 (hi' j)) (hreach : len * 16 ≤ 140737488351232) (s0 : Sp) (w : World) (hBan : Ba < w.heap.size) (hBbn : Bb < w.heap.size) (hb : b < w.heap.size) (hb' : b' < w.heap.size) (hBa : w.cell? ⟨Ba, 0, none⟩ = some (.slice (some ⟨b, off, none⟩) len cap)) (hBb : w.cell? ⟨Bb, 0, none⟩ = some (.slice (some ⟨b', off', none⟩) len cap')) (hc : Elems w b off len lo hi) (hc' : Elems w b' off' len lo' hi') :
    Calls Tryz.prog 71 #[.func (.func 91) #[] #[.pointer (some ⟨Ba, 0, none⟩), .pointer (some ⟨Bb, 0, none⟩)], spv s0, .func (.func 73) #[] #[]] w fun e w' =>
      e = .returned (.tuple #[spv (foldS f s0 (upto (elp lo hi lo' hi' hE hE') len)).1, .int .i64 (foldS f s0 (upto (elp lo hi lo' hi' hE hE') len)).2]) ∧ Below w.heap.size w w' := by
  refine (callsIn_wide (n := 4)).1 ?_
  refine callsIn_of_wp_marks Tryz.func71 rfl trivial ?_ rfl
  simp only [Tryz.ntmps71, List.size_toArray, List.length_cons, List.length_nil, Nat.reduceAdd, Nat.reduceSub, Array.replicate_succ, Array.replicate_zero, List.push_toArray, List.append_toArray, List.nil_append, List.cons_append]
  gi_wp2
  have z1 : ∀ (W : World) (a b : Int), (W.alloc (.cells #[.int .i64 a, .int .i64 b] 24)).heap.size = W.heap.size + 1 := fun _ _ _ => World.size_alloc _ _
  have hI0 : Inv f 73 s0 w [] ((((((w.alloc (Obj.cells #[Value.int IntKind.i64 s0.lo, Value.int IntKind.i64 s0.hi] 24)).alloc
                      (Obj.cells #[Value.func (Fn.func 73) #[] #[]] 115)).alloc
                  (Obj.cells #[Value.int IntKind.i64 0, Value.int IntKind.i64 0] 24)).alloc
              (Obj.cells #[Value.int IntKind.i64 0] 38)).alloc
          (Obj.cells #[Value.int IntKind.i64 0, Value.int IntKind.i64 0] 24)).alloc
      (Obj.cells #[Value.int IntKind.i64 s0.lo, Value.int IntKind.i64 s0.hi] 24)) := by
    refine ⟨⟨s0, rfl, ?_⟩, ?_, ?_, ?_, ?_, ?_, ?_⟩
    · have := Cells2.new (((((w.alloc (Obj.cells #[Value.int IntKind.i64 s0.lo, Value.int IntKind.i64 s0.hi] 24)).alloc (Obj.cells #[Value.func (Fn.func 73) #[] #[]] 115)).alloc (Obj.cells #[Value.int IntKind.i64 0, Value.int IntKind.i64 0] 24)).alloc (Obj.cells #[Value.int IntKind.i64 0] 38)).alloc (Obj.cells #[Value.int IntKind.i64 0, Value.int IntKind.i64 0] 24)) s0 24
      simpa [Sp.zero] using this
    · have := ((((Cell1.new (w.alloc (Obj.cells #[Value.int IntKind.i64 s0.lo, Value.int IntKind.i64 s0.hi] 24)) (Value.func (Fn.func 73) #[] #[]) 115).alloc (Obj.cells #[Value.int IntKind.i64 0, Value.int IntKind.i64 0] 24) (by simp)).alloc (Obj.cells #[Value.int IntKind.i64 0] 38) (by (simp <;> omega))).alloc (Obj.cells #[Value.int IntKind.i64 0, Value.int IntKind.i64 0] 24) (by (simp <;> omega))).alloc (Obj.cells #[Value.int IntKind.i64 s0.lo, Value.int IntKind.i64 s0.hi] 24) (by (simp <;> omega))
      simpa [Sp.zero] using this
    · have := (((Cells2.new ((w.alloc (Obj.cells #[Value.int IntKind.i64 s0.lo, Value.int IntKind.i64 s0.hi] 24)).alloc (Obj.cells #[Value.func (Fn.func 73) #[] #[]] 115)) .zero 24).alloc (Obj.cells #[Value.int IntKind.i64 0] 38) (by simp)).alloc (Obj.cells #[Value.int IntKind.i64 0, Value.int IntKind.i64 0] 24) (by (simp <;> omega))).alloc (Obj.cells #[Value.int IntKind.i64 s0.lo, Value.int IntKind.i64 s0.hi] 24) (by (simp <;> omega))
      simpa [Sp.zero] using this
    · have := ((Cell1.new (((w.alloc (Obj.cells #[Value.int IntKind.i64 s0.lo, Value.int IntKind.i64 s0.hi] 24)).alloc (Obj.cells #[Value.func (Fn.func 73) #[] #[]] 115)).alloc (Obj.cells #[Value.int IntKind.i64 0, Value.int IntKind.i64 0] 24)) (.int .i64 0) 38).alloc (Obj.cells #[Value.int IntKind.i64 0, Value.int IntKind.i64 0] 24) (by simp)).alloc (Obj.cells #[Value.int IntKind.i64 s0.lo, Value.int IntKind.i64 s0.hi] 24) (by (simp <;> omega))
      simpa [Sp.zero] using this
    · have := (Cells2.new ((((w.alloc (Obj.cells #[Value.int IntKind.i64 s0.lo, Value.int IntKind.i64 s0.hi] 24)).alloc (Obj.cells #[Value.func (Fn.func 73) #[] #[]] 115)).alloc (Obj.cells #[Value.int IntKind.i64 0, Value.int IntKind.i64 0] 24)).alloc (Obj.cells #[Value.int IntKind.i64 0] 38)) .zero 24).alloc (Obj.cells #[Value.int IntKind.i64 s0.lo, Value.int IntKind.i64 s0.hi] 24) (by simp)
      simpa [Sp.zero] using this
    · exact ((((((Below.refl _ w).alloc (Nat.le_refl _) _).alloc (by simp) _).alloc (by (simp <;> omega)) _).alloc (by (simp <;> omega)) _).alloc (by (simp <;> omega)) _).alloc (by (simp <;> omega)) _
    · simp
  have hszW := hI0.size
  have hB0 := hI0.below
  generalize ((((((w.alloc (Obj.cells #[Value.int IntKind.i64 s0.lo, Value.int IntKind.i64 s0.hi] 24)).alloc
                      (Obj.cells #[Value.func (Fn.func 73) #[] #[]] 115)).alloc
                  (Obj.cells #[Value.int IntKind.i64 0, Value.int IntKind.i64 0] 24)).alloc
              (Obj.cells #[Value.int IntKind.i64 0] 38)).alloc
          (Obj.cells #[Value.int IntKind.i64 0, Value.int IntKind.i64 0] 24)).alloc
      (Obj.cells #[Value.int IntKind.i64 s0.lo, Value.int IntKind.i64 s0.hi] 24)) = W0 at *
  clear z1
  refine wpIn_rangeFunc_ownH rfl (by omega) (gf := 91) (lb := #[.pointer (some ⟨Ba, 0, none⟩), .pointer (some ⟨Bb, 0, none⟩)]) rfl trivial (enters_of Tryz.func91 (by kernel_rfl) rfl)
    (pairs_stops _ (4 - 1) trivial rfl (by omega) Ba Bb w b off cap b' off' cap' len lo hi lo' hi' hE hE' hreach hb hb' hBan hBbn hBa hBb hc hc' W0 hB0) belowK_t (belowK_b (by omega)) (Below.refl _ _) (fun _ => rfl)
    (fun pre W => Inv f 73 s0 w pre W) (fun c pre W => Left f s0 w c pre W) ?_ ?_ hI0
    (fun x a' W => ∃ Bx, w.heap.size + 6 ≤ Bx ∧ Cells4 W Bx x ∧ a' = inLoop 73 Ba Bb s0 w.heap.size Bx x) ?_ ?assign ?body ?done ?stop
  · intro pre A B row hs hg hr
    have hr' := fun r e => (hr r e).2
    obtain ⟨⟨r, a1, a3⟩, b, c, d, e, fb, fz⟩ := hs
    exact ⟨⟨r, a1, a3.kept hg hr'⟩, b.kept hg hr', c.kept hg hr', d.kept hg hr', e.kept hg hr', ownFrom_below (β := Unit) (Nat.le_refl _) (by omega) () A B row fb hg hr, Nat.le_trans fz (grown_size hg)⟩
  · intro c pre A B row hs hg hr
    have hr' := fun r e => (hr r e).2
    obtain ⟨a, ⟨e, e0, e1, e2⟩, b, fb, fz⟩ := hs
    exact ⟨a, ⟨e, e0, e1, e2.kept hg hr'⟩, b.kept hg hr', ownFrom_below (β := Unit) (Nat.le_refl _) (by omega) () A B row fb hg hr, Nat.le_trans fz (grown_size hg)⟩
  · intro x a' u A B row ⟨Bx, h1, h2, h3⟩ hg hr
    exact ⟨Bx, h1, h2.kept hg fun r e => (hr r e).2, h3⟩
  case assign =>
    rintro l pre x W K hi hK
    gi_wp2
    have hB := hi.below
    have hz := hi.size
    refine hK _ _ ((KeepsOthers.alloc _ _).from _) ((Below.refl _ W).alloc (by omega) _) ?_ ⟨W.heap.size, by omega, Cells4.new W x 111, rfl⟩
    obtain ⟨⟨r, a1, a3⟩, b, c, d, e, fb, fz⟩ := hi
    exact ⟨⟨r, a1, a3.alloc _ (by omega)⟩, b.alloc _ (by omega), c.alloc _ (by omega), d.alloc _ (by omega), e.alloc _ (by omega), fb.alloc (by omega) _, by simp; omega⟩
  case body =>
    rintro l pre x a' W hl ⟨r0, hr0⟩ ⟨⟨r, a1, a3⟩, b, c, d, e, fb, fz⟩ ⟨Bx, hBx, hX, rfl⟩ hlt
    have hst := hstep r x
    have A3 := a3
    have E3 := e
    have C3 := c
    have D3 := d
    obtain ⟨⟨r00, r01⟩, r10, r11⟩ := a3
    obtain ⟨⟨x00, x01⟩, x10, x20, x30⟩ := hX
    obtain ⟨b0, b1⟩ := id b
    by_cases he : (f r x).2 = 0
    · have t0 : ((f r x).2 != 0) = false := by simp [he]
      have t1 : ((f r x).2 == 0) = true := by simp [he]
      have HE := Lib.hid he
      clear he
      gi_wp2_with (refine ⟨trivial, ?_⟩; gi_at_call 73; refine (CallsIn.inRound l (callsIn_wide.2 (hst _))).mono ?_; rintro e' w' ⟨rfl, hb'⟩; obtain ⟨⟨q00, q01⟩, q10, q11⟩ := A3.below hb' (by omega))
      have hW' : Below W.heap.size W w' := hb'
      have Q3 : Cells2 ((w'.setCell ⟨w.heap.size + 1 + 1 + 1 + 1 + 1, 0, none⟩ (Value.int IntKind.i64 (f r x).fst.lo)).setCell ⟨w.heap.size + 1 + 1 + 1 + 1 + 1, 1, none⟩ (Value.int IntKind.i64 (f r x).fst.hi)) (w.heap.size + 5) (f r x).1 := Cells2.put (A3.below hb' (by omega)) _
      have b' := ((b.below hb' (by omega)).set (c := w.heap.size + 1 + 1 + 1 + 1 + 1) (by omega) 0 (Value.int IntKind.i64 (f r x).fst.lo)).set (c := w.heap.size + 1 + 1 + 1 + 1 + 1) (by omega) 1 (Value.int IntKind.i64 (f r x).fst.hi)
      have c' := ((C3.below hb' (by omega)).set (c := w.heap.size + 1 + 1 + 1 + 1 + 1) (by omega) 0 (Value.int IntKind.i64 (f r x).fst.lo)).set (c := w.heap.size + 1 + 1 + 1 + 1 + 1) (by omega) 1 (Value.int IntKind.i64 (f r x).fst.hi)
      have d' := ((D3.below hb' (by omega)).set (c := w.heap.size + 1 + 1 + 1 + 1 + 1) (by omega) 0 (Value.int IntKind.i64 (f r x).fst.lo)).set (c := w.heap.size + 1 + 1 + 1 + 1 + 1) (by omega) 1 (Value.int IntKind.i64 (f r x).fst.hi)
      have e' := ((E3.below hb' (by omega)).set (c := w.heap.size + 1 + 1 + 1 + 1 + 1) (by omega) 0 (Value.int IntKind.i64 (f r x).fst.lo)).set (c := w.heap.size + 1 + 1 + 1 + 1 + 1) (by omega) 1 (Value.int IntKind.i64 (f r x).fst.hi)
      have B1 : Below w.heap.size W ((w'.setCell ⟨w.heap.size + 1 + 1 + 1 + 1 + 1, 0, none⟩ (Value.int IntKind.i64 (f r x).fst.lo)).setCell ⟨w.heap.size + 1 + 1 + 1 + 1 + 1, 1, none⟩ (Value.int IntKind.i64 (f r x).fst.hi)) :=
        ((hb'.mono (by omega)).setCell (p := ⟨w.heap.size + 1 + 1 + 1 + 1 + 1, 0, none⟩) (by dsimp only; omega) _).setCell (p := ⟨w.heap.size + 1 + 1 + 1 + 1 + 1, 1, none⟩) (by dsimp only; omega) _
      refine ⟨((keeps_below hb').trans ((KeepsOthers.setCell _ _ _).trans (KeepsOthers.setCell _ _ _))).from _, B1, ⟨⟨_, ?_, Q3⟩, b', c', d', e', fb.trans B1, ?_⟩⟩
      · rw [acc_snoc f pre s0 x r a1, if_pos HE.out]
      · have := hb'.size; simp; omega
    · have t0 : ((f r x).2 != 0) = true := by simp [he]
      have t1 : ((f r x).2 == 0) = false := by simp [he]
      have HE := Lib.hid he
      clear he
      gi_wp2_with (refine ⟨trivial, ?_⟩; gi_at_call 73; refine (CallsIn.inRound l (callsIn_wide.2 (hst _))).mono ?_; rintro e' w' ⟨rfl, hb'⟩; obtain ⟨⟨q00, q01⟩, q10, q11⟩ := A3.below hb' (by omega); obtain ⟨⟨n00, n01⟩, n10, n11⟩ := E3.below hb' (by omega); obtain ⟨⟨c00, c01⟩, c10, c11⟩ := C3.below hb' (by omega); obtain ⟨d00, d01⟩ := D3.below hb' (by omega))
      have C4 := (((C3.below hb' (by omega)).set (c := w.heap.size + 1 + 1 + 1 + 1 + 1) (by omega) 0 (Value.int IntKind.i64 (f r x).fst.lo)).set (c := w.heap.size + 1 + 1 + 1 + 1 + 1) (by omega) 1 (Value.int IntKind.i64 (f r x).fst.hi))
      have C5 := (Cells2.put C4 Sp.zero).set (c := w.heap.size + 1 + 1 + 1) (by omega) 0 (Value.int IntKind.i64 (f r x).snd)
      have D4 := (((((D3.below hb' (by omega)).set (c := w.heap.size + 1 + 1 + 1 + 1 + 1) (by omega) 0 (Value.int IntKind.i64 (f r x).fst.lo)).set (c := w.heap.size + 1 + 1 + 1 + 1 + 1) (by omega) 1 (Value.int IntKind.i64 (f r x).fst.hi)).set (c := w.heap.size + 1 + 1) (by omega) 0 (Value.int IntKind.i64 Sp.zero.lo)).set (c := w.heap.size + 1 + 1) (by omega) 1 (Value.int IntKind.i64 Sp.zero.hi))
      have D5 := Cell1.put D4 (Value.int IntKind.i64 (f r x).snd)
      refine ⟨((keeps_below hb').trans ((KeepsOthers.setCell _ _ _).trans ((KeepsOthers.setCell _ _ _).trans ((KeepsOthers.setCell _ _ _).trans ((KeepsOthers.setCell _ _ _).trans (KeepsOthers.setCell _ _ _)))))).from _, ⟨rfl, ⟨_, HE.out, fun ys => ?_, D5⟩, C5, ?_, ?_⟩⟩
      · rw [List.append_assoc]; exact foldS_bad f pre ys s0 x r a1 HE.out
      · exact fb.trans ((((((hb'.mono (by omega)).setCell (p := ⟨w.heap.size + 1 + 1 + 1 + 1 + 1, 0, none⟩) (by dsimp only; omega) _).setCell (p := ⟨w.heap.size + 1 + 1 + 1 + 1 + 1, 1, none⟩) (by dsimp only; omega) _).setCell (p := ⟨w.heap.size + 1 + 1, 0, none⟩) (by dsimp only; omega) _).setCell (p := ⟨w.heap.size + 1 + 1, 1, none⟩) (by dsimp only; omega) _).setCell (p := ⟨w.heap.size + 1 + 1 + 1, 0, none⟩) (by dsimp only; omega) _)
      · have := hb'.size; simp; omega
  case done =>
    rintro D xs W hD rfl ⟨⟨r, a1, a3⟩, b, c, d, e, fb, fz⟩ hK
    obtain ⟨⟨r00, r01⟩, r10, r11⟩ := id a3
    obtain ⟨⟨c00, c01⟩, c10, c11⟩ := id c
    obtain ⟨d00, d01⟩ := id d
    have hf := foldS_acc f _ _ _ a1
    have C4 := (Cells2.put c r).set (c := w.heap.size + 1 + 1 + 1) (by omega) 0 (Value.int IntKind.i64 0)
    have D4 := Cell1.put ((d.set (c := w.heap.size + 1 + 1) (by omega) 0 (Value.int IntKind.i64 r.lo)).set (c := w.heap.size + 1 + 1) (by omega) 1 (Value.int IntKind.i64 r.hi)) (Value.int IntKind.i64 0)
    have B4 := ((fb.setCell (p := ⟨w.heap.size + 1 + 1, 0, none⟩) (by dsimp only; omega) (Value.int IntKind.i64 r.lo)).setCell (p := ⟨w.heap.size + 1 + 1, 1, none⟩) (by dsimp only; omega) (Value.int IntKind.i64 r.hi)).setCell (p := ⟨w.heap.size + 1 + 1 + 1, 0, none⟩) (by dsimp only; omega) (Value.int IntKind.i64 0)
    have K4 := (KeepsOthers.trans (KeepsOthers.setCell W ⟨w.heap.size + 1 + 1, 0, none⟩ (Value.int IntKind.i64 r.lo)) ((KeepsOthers.setCell _ ⟨w.heap.size + 1 + 1, 1, none⟩ (Value.int IntKind.i64 r.hi)).trans (KeepsOthers.setCell _ ⟨w.heap.size + 1 + 1 + 1, 0, none⟩ (Value.int IntKind.i64 0)))).same D _ hK rfl
    gi_wp2
    exact fin_ret hf C4 D4 B4 K4 (by omega) rfl rfl
  case stop =>
    rintro D c pre W hD ⟨ys, hys⟩ ⟨rfl, ⟨e0, he0, hf, d⟩, c, fb, fz⟩ hK
    have hf' := hf ys
    rw [hys] at hf'
    obtain ⟨⟨c00, c01⟩, c10, c11⟩ := id c
    obtain ⟨d00, d01⟩ := id d
    gi_wp2
    exact fin_ret hf' c d fb hK (by omega) rfl rfl
end FP
end
end Go.Proofs.YtopdikifgbdnoaaGreat
