/- Packed: FoldP. -/
import Derived.RangeFuncNested
import Derived.RangeFuncBound
import Derived.RangeFuncCalls
import Derived.RangeFuncLeaves
import Derived.RangeFuncBox
import Derived.Shelf.Abstract
import Derived.Shelf.RegionOpen
import Derived.WalkKit
import Derived.OwnWalkIn
import Derived.TacticsInMore
import Derived.LoopNIn
import Derived.LoopIn
import Derived.Lib.Hide
import Derived.Test.YtdcolicajjmffaaProg
import Derived.Test.YtdcolicajjmffaaP1
import Derived.Test.YtdcolicajjmffaaP2
set_option linter.unusedVariables false
set_option linter.unusedSimpArgs false
namespace Go.Proofs.Ytdcolicajjmffaa
section
open Go.RowKit Go.Shelf
namespace FP
open FD
attribute [local go_sem] Oper.semAt_some
structure Pr where
  a : Sp
  b : Sp
abbrev prv (x : Pr) : Value := .agg #[.int .i64 x.a.lo, .int .i64 x.a.hi, .int .i64 x.b.lo, .int .i64 x.b.hi]
def elp (lo hi lo' hi' : Nat → Int) (hE : ∀ j, In64 (lo j) ∧ In64 (hi j)) (hE' : ∀ j, In64 (lo' j) ∧ In64 (hi' j)) (j : Nat) : Pr := ⟨el lo hi hE j, el lo' hi' hE' j⟩
theorem grownBy_drew (W : World) : W.grownBy W.drew none := ⟨rfl, rfl, rfl, Nat.le_refl _, fun i hi _ => rfl⟩
theorem below_drew {n : Nat} {A B : World} (h : Below n A B) : Below n A B.drew := ⟨h.os, h.tape, h.output, h.size, h.block⟩
def Cells4 (W : World) (b : Nat) (x : Pr) : Prop := (W.cell? ⟨b, 0, none⟩ = some (.int .i64 x.a.lo) ∧ W.frozen? ⟨b, 0, none⟩ = false) ∧ W.cell? ⟨b, 1, none⟩ = some (.int .i64 x.a.hi) ∧ W.cell? ⟨b, 2, none⟩ = some (.int .i64 x.b.lo) ∧ W.cell? ⟨b, 3, none⟩ = some (.int .i64 x.b.hi)
theorem Cells4.kept {A B : World} {row : Option Nat} {b : Nat} {x : Pr} (h : Cells4 A b x) (hg : A.grownBy B row) (hr : ∀ r, row = some r → ∃ o : Obj, A.heap[r]? = some o ∧ o.isCells = false) : Cells4 B b x :=
  ⟨⟨cell_kept h.1.1 hg hr, (frozen_kept h.1.1 hg hr).trans h.1.2⟩, cell_kept h.2.1 hg hr, cell_kept h.2.2.1 hg hr, cell_kept h.2.2.2 hg hr⟩
theorem Cells4.new (W : World) (x : Pr) (t : TypeId) : Cells4 (W.alloc (.cells #[.int .i64 x.a.lo, .int .i64 x.a.hi, .int .i64 x.b.lo, .int .i64 x.b.hi] t)) W.heap.size x := by
  refine ⟨⟨?_, ?_⟩, ?_, ?_, ?_⟩
  · rw [World.cell?_alloc_new]; rfl
  · rw [World.frozen?_alloc_new]
  · rw [World.cell?_alloc_new]; rfl
  · rw [World.cell?_alloc_new]; rfl
  · rw [World.cell?_alloc_new]; rfl
def acc (f : Sp → Pr → Sp × Int) (s : Sp) : List Pr → Option Sp
  | [] => some s
  | x :: xs => if (f s x).2 = 0 then acc f (f s x).1 xs else none
def foldS (f : Sp → Pr → Sp × Int) (s : Sp) : List Pr → Sp × Int
  | [] => (s, 0)
  | x :: xs => if (f s x).2 = 0 then foldS f (f s x).1 xs else (.zero, (f s x).2)
theorem acc_snoc (f : Sp → Pr → Sp × Int) : ∀ (xs : List Pr) (s : Sp) (x : Pr) (r : Sp), acc f s xs = some r → acc f s (xs ++ [x]) = if (f r x).2 = 0 then some (f r x).1 else none
  | [], s, x, r, h => by cases h; rfl
  | y :: ys, s, x, r, h => by
    simp only [acc, List.cons_append] at h ⊢
    split at h
    · rename_i he; rw [if_pos he]; exact acc_snoc f ys _ x r h
    · cases h
theorem foldS_acc (f : Sp → Pr → Sp × Int) : ∀ (xs : List Pr) (s r : Sp), acc f s xs = some r → foldS f s xs = (r, 0)
  | [], s, r, h => by cases h; rfl
  | y :: ys, s, r, h => by
    simp only [acc, foldS] at h ⊢
    split at h
    · rename_i he; rw [if_pos he]; exact foldS_acc f ys _ r h
    · cases h
theorem foldS_bad (f : Sp → Pr → Sp × Int) : ∀ (xs ys : List Pr) (s : Sp) (x : Pr) (r : Sp), acc f s xs = some r → (f r x).2 ≠ 0 → foldS f s (xs ++ x :: ys) = (.zero, (f r x).2)
  | [], ys, s, x, r, h, hn => by cases h; simp only [List.nil_append, foldS, if_neg hn]
  | y :: l, ys, s, x, r, h, hn => by
    simp only [acc, foldS, List.cons_append] at h ⊢
    split at h
    · rename_i he; rw [if_pos he]; exact foldS_bad f l ys _ x r h hn
    · cases h
structure Inv (f : Sp → Pr → Sp × Int) (g : Nat) (s0 : Sp) (w : World) (pre : List Pr) (W : World) : Prop where
  accu : ∃ r, acc f s0 pre = some r ∧ Cells2 W (w.heap.size + 5) r
  step : Cell1 W (w.heap.size + 1) (.func (.func g) #[] #[])
  res : Cells2 W (w.heap.size + 2) .zero
  err : Cell1 W (w.heap.size + 3) (.int .i64 0)
  non : Cells2 W (w.heap.size + 4) .zero
  below : Below w.heap.size w W
  size : w.heap.size + 6 ≤ W.heap.size
structure Left (f : Sp → Pr → Sp × Int) (s0 : Sp) (w : World) (c : Code) (pre : List Pr) (W : World) : Prop where
  ret : c = .ret
  bad : ∃ e, e ≠ 0 ∧ (∀ ys, foldS f s0 (pre ++ ys) = (.zero, e)) ∧ Cell1 W (w.heap.size + 3) (.int .i64 e)
  res : Cells2 W (w.heap.size + 2) .zero
  below : Below w.heap.size w W
  size : w.heap.size + 6 ≤ W.heap.size
abbrev inLoop (g Ba Bb : Nat) (s0 : Sp) (B Bx : Nat) (x : Pr) : Act :=
  { tmps := #[Value.func (Fn.func 35) #[] #[Value.pointer (some ⟨Ba, 0, none⟩), Value.pointer (some ⟨Bb, 0, none⟩)], .agg #[.int .i64 s0.lo, .int .i64 s0.hi],
      Value.func (Fn.func g) #[] #[], undef, .pointer (some ⟨B, 0, none⟩), .pointer (some ⟨B + 1, 0, none⟩), .pointer (some ⟨B + 1 + 1, 0, none⟩),
      .pointer (some ⟨B + 1 + 1 + 1, 0, none⟩), .pointer (some ⟨B + 1 + 1 + 1 + 1, 0, none⟩), .pointer (some ⟨B + 1 + 1 + 1 + 1 + 1, 0, none⟩),
      .pointer (some ⟨Bx, 0, none⟩), undef, .agg #[.int .i64 s0.lo, .int .i64 s0.hi], Value.func (Fn.func 35) #[] #[Value.pointer (some ⟨Ba, 0, none⟩), Value.pointer (some ⟨Bb, 0, none⟩)], prv x,
      undef, undef, undef, undef, undef, undef, undef, undef, undef, undef, undef, undef],
    defers := [] }
theorem fin_ret {x : Sp × Int} {r : Sp} {e : Int} {w W : World} {tmps : Array Value} {D : Nat} (hx : x = (r, e)) (C : Cells2 W (w.heap.size + 2) r) (D0 : Cell1 W (w.heap.size + 3) (.int .i64 e)) (hB : Below w.heap.size w W)
    (hK : W.heap[D]? = some (.deferred (some []))) (hD : w.heap.size ≤ D) (h6 : tmps.getD 6 undef = .pointer (some ⟨w.heap.size + 1 + 1, 0, none⟩)) (h7 : tmps.getD 7 undef = .pointer (some ⟨w.heap.size + 1 + 1 + 1, 0, none⟩)) :
    bodyPostM Fence.wide 4 Try.prog Try.f17 (fun e w' => e = .returned (.tuple #[spv x.1, .int .i64 x.2]) ∧ Below w.heap.size w w') .ret { tmps := tmps, defers := [{ target := Target.collected D, args := #[] }] } W := by
  subst hx
  refine ⟨by simp, .inl ⟨_, _, rfl, run_takeDeferred hK, ?_⟩⟩
  have hg := grownBy_putObj' W D (.deferred none)
  have hr : ∀ r', (some D : Option Nat) = some r' → ∃ o : Obj, W.heap[r']? = some o ∧ o.isCells = false := fun r' e => by cases e; exact ⟨_, hK, rfl⟩
  have C' := C.kept hg hr
  have D' := D0.kept hg hr
  have B' := hB.trans (belowK_b (w := w) (Nat.le_refl _) W D (.deferred (some [])) (.deferred none) hD hK rfl rfl)
  obtain ⟨⟨c00, c01⟩, c10, c11⟩ := C'
  obtain ⟨d00, d01⟩ := D'
  refine ⟨.tuple #[spv r, .int .i64 e], ?_, rfl, B'⟩
  have h6' : tmps[6]?.getD undef = Value.pointer (some { block := w.heap.size + 1 + 1, off := 0 }) := by rw [← Array.getD_eq_getD_getElem?]; exact h6
  have h7' : tmps[7]?.getD undef = Value.pointer (some { block := w.heap.size + 1 + 1 + 1, off := 0 }) := by rw [← Array.getD_eq_getD_getElem?]; exact h7
  simp [results, Try.results17, go_sem, h6', h7', c00, c10, d00]
end FP
end
end Go.Proofs.Ytdcolicajjmffaa
