/- Packed: Fold FoldA. -/
import Derived.RangeFuncNested
import Derived.RangeFuncBound
import Derived.RangeFuncCalls
import Derived.RangeFuncLeaves
import Derived.RangeFuncBox
import Derived.Shelf.Abstract
import Derived.Shelf.RegionOpen
import Derived.WalkKit
import Derived.OwnWalkIn
import Derived.TacticsInMore
import Derived.LoopNIn
import Derived.LoopIn
import Derived.Lib.Hide
import Derived.Test.YtacpahebbnnckaaProg
set_option linter.unusedVariables false
set_option linter.unusedSimpArgs false
namespace Go.Proofs.Ytacpahebbnnckaa
section
open Go.RowKit Go.Shelf
namespace FD
attribute [local go_sem] Oper.semAt_some
def upto {α : Type} (f : Nat → α) (k : Nat) : List α := (List.range k).map f
theorem upto_succ {α : Type} (f : Nat → α) (k : Nat) : upto f (k + 1) = upto f k ++ [f k] := by simp [upto, List.range_succ]
theorem upto_length {α : Type} (f : Nat → α) (k : Nat) : (upto f k).length = k := by simp [upto]
def In64 (n : Int) : Prop := -9223372036854775808 ≤ n ∧ n ≤ 9223372036854775807
structure Sp where
  lo : Int
  hi : Int
  ok : In64 lo ∧ In64 hi
def Sp.zero : Sp := ⟨0, 0, ⟨⟨by decide, by decide⟩, by decide, by decide⟩⟩
abbrev spv (x : Sp) : Value := .agg #[.int .i64 x.lo, .int .i64 x.hi]
def el (lo hi : Nat → Int) (hE : ∀ j, In64 (lo j) ∧ In64 (hi j)) (j : Nat) : Sp := ⟨lo j, hi j, hE j⟩
def Elems (W : World) (b off n : Nat) (lo hi : Nat → Int) : Prop := ∀ j, j < n → W.cell? ⟨b, off + j * 2, none⟩ = some (.int .i64 (lo j)) ∧ W.cell? ⟨b, off + j * 2 + 1, none⟩ = some (.int .i64 (hi j))
set_option maxRecDepth 100000 in
set_option maxHeartbeats 2000000 in
theorem values1_in (F : Fence) (n : Nat) (h7 : F.fn 120) (hro : F.round = none) (hn : 1 ≤ n) (l Bs n₀ b off len cap : Nat) (lo hi : Nat → Int) (hE : ∀ j, In64 (lo j) ∧ In64 (hi j)) (hreach : len * 16 ≤ 140737488351232) (hb : b < n₀) (J Jx : List Sp → World → Prop)
    (hJa : ∀ xs W o, J xs W → J xs (W.alloc o))
    (hY : ∀ pre x W, J pre W → pre.length < len → YieldAt F (n - 1) Try.prog l #[spv x] W fun e W' =>
      (e = .returned (.bool true) ∧ J (pre ++ [x]) W' ∧ Below n₀ W W') ∨ (e = .returned (.bool false) ∧ Jx (pre ++ [x]) W'))
    (W : World) (hsz : n₀ ≤ W.heap.size) (hBs : W.cell? ⟨Bs, 0, none⟩ = some (.slice (some ⟨b, off, none⟩) len cap)) (hc : Elems W b off len lo hi) (h0 : J [] W) :
    CallsIn F n Try.prog 120 #[.func (.yield l) #[] #[], .pointer (some ⟨Bs, 0, none⟩)] W fun e W' => (∃ v, e = .returned v) ∧
      ((∃ ys, ys = upto (el lo hi hE) len ∧ J ys W') ∨ (∃ pre, (∃ k, k ≤ len ∧ pre = upto (el lo hi hE) k) ∧ Jx pre W')) := by
  refine callsIn_of_wp Try.func120 rfl h7 ?_ hro
  simp only [Try.ntmps120, List.size_toArray, List.length_cons, List.length_nil, Nat.reduceAdd, Nat.reduceSub, Array.replicate_succ, Array.replicate_zero, List.push_toArray, List.append_toArray, List.nil_append, List.cons_append]
  gi_wp2
  gi_loopw [7] (fun i wr => ∃ k : Nat, k ≤ len ∧ i = .int .i64 k ∧ J (upto (el lo hi hE) k) wr ∧ Below n₀ W wr)
    (fun i _ => len - (intOf i).toNat)
  case atStart => exact ⟨0, Nat.zero_le _, rfl, h0, Below.refl _ _⟩
  case round =>
    obtain ⟨k, hk, rfl, hJs', hnx⟩ := hrel
    by_cases hlt : k < len
    · have hc1 := (hnx.cell (p := ⟨b, off + k * 2, none⟩) hb).trans (hc k hlt).1
      have hc2 := (hnx.cell (p := ⟨b, off + k * 2 + 1, none⟩) hb).trans (hc k hlt).2
      have hJ2 := hJa _ _ (.cells #[.int .i64 (lo k), .int .i64 (hi k)] 24) hJs'
      obtain ⟨fn, tmps, assign, body, hy, hR⟩ := hY _ (el lo hi hE k) _ hJ2 (by rw [upto_length]; exact hlt)
      dsimp only [spv, el] at hy hR
      gi_wp2
      refine hR.mono ?_
      rintro e W3 (⟨rfl, hJ3, hk3⟩ | ⟨rfl, hJx3⟩)
      · gi_wp2
        go_roundw
        case rel => exact ⟨k + 1, by omega, by simp, by rw [upto_succ]; exact hJ3, hnx.trans (((Below.refl _ wr).alloc (by have := hnx.size; omega) _).trans hk3)⟩
        case measure => simp [intOf]; omega
      · gi_wp2
        refine bodyPost_ret (results_none rfl _ _ _) rfl ?_
        exact ⟨⟨_, rfl⟩, .inr ⟨_, ⟨k + 1, by omega, (upto_succ _ _).symm⟩, hJx3⟩⟩
    · obtain rfl : k = len := by omega
      gi_wp2
      go_end0
      exact ⟨⟨_, rfl⟩, .inl ⟨_, rfl, hJs'⟩⟩
set_option maxHeartbeats 1000000 in
theorem values1_nil_in (F : Fence) (n : Nat) (h7 : F.fn 120) (hro : F.round = none) (l Bs : Nat) (J : List Sp → World → Prop) (W : World) (hBs : W.cell? ⟨Bs, 0, none⟩ = some (.slice none 0 0)) (h0 : J [] W) :
    CallsIn F n Try.prog 120 #[.func (.yield l) #[] #[], .pointer (some ⟨Bs, 0, none⟩)] W fun e W' => (∃ v, e = .returned v) ∧ J [] W' := by
  refine callsIn_of_wp Try.func120 rfl h7 ?_ hro
  simp only [Try.ntmps120, List.size_toArray, List.length_cons, List.length_nil, Nat.reduceAdd, Nat.reduceSub, Array.replicate_succ, Array.replicate_zero, List.push_toArray, List.append_toArray, List.nil_append, List.cons_append]
  gi_wp2
  gi_loopw [7] (fun i wr => i = .int .i64 0 ∧ J [] wr) (fun _ _ => 0)
  case atStart => exact ⟨rfl, h0⟩
  case round =>
    obtain ⟨rfl, hJs⟩ := hrel
    gi_wp2
    go_end0
    exact ⟨⟨_, rfl⟩, hJs⟩
theorem upto_take {α : Type} (f : Nat → α) {k n : Nat} (hk : k ≤ n) : upto f k = (upto f n).take k := by
  apply List.ext_getElem
  · simp [upto, hk]
  · intro i h1 h2
    simp [upto]
def Holds (n₀ : Nat) (W : World) (sv : Value) (len : Nat) (lo hi : Nat → Int) : Prop :=
  (sv = .slice none 0 0 ∧ len = 0) ∨ ∃ b off cap, sv = .slice (some ⟨b, off, none⟩) len cap ∧ b < n₀ ∧ Elems W b off len lo hi
theorem Holds.below {n₀ : Nat} {A B : World} (h : Below n₀ A B) {sv : Value} {len : Nat} {lo hi : Nat → Int} : Holds n₀ A sv len lo hi → Holds n₀ B sv len lo hi
  | .inl e => .inl e
  | .inr ⟨b, off, cap, e, hb, hc⟩ => .inr ⟨b, off, cap, e, hb, fun j hj => ⟨(h.cell (p := ⟨b, off + j * 2, none⟩) hb).trans (hc j hj).1, (h.cell (p := ⟨b, off + j * 2 + 1, none⟩) hb).trans (hc j hj).2⟩⟩
theorem values_stops (F : Fence) (n : Nat) (h7 : F.fn 120) (hro : F.round = none) (hn : 1 ≤ n) (Bs n₀ : Nat) (sv : Value) (len : Nat) (lo hi : Nat → Int) (hE : ∀ j, In64 (lo j) ∧ In64 (hi j)) (hreach : len * 16 ≤ 140737488351232) (w : World) (hBs : Bs < w.heap.size) (hn₀ : n₀ ≤ w.heap.size)
    (hc : w.cell? ⟨Bs, 0, none⟩ = some sv) (hI : Holds n₀ w sv len lo hi) :
    SeqStopsK F n Try.prog 120 #[.pointer (some ⟨Bs, 0, none⟩)] (fun x : Sp => #[spv x]) (Below n₀) (fun ys => ys = upto (el lo hi hE) len) (fun pre => pre <+: upto (el lo hi hE) len) len w := fun l J Jx W hW hJ _ hY h0 => by
  have hc' := (hW.cell (p := ⟨Bs, 0, none⟩) hBs).trans hc
  rcases hI.below (hW.mono hn₀) with ⟨rfl, rfl⟩ | ⟨b, off, cap, rfl, hb, hcs⟩
  · exact (values1_nil_in F n h7 hro l Bs J W hc' h0).mono fun e W' ⟨he, hj⟩ => ⟨he, .inl ⟨_, rfl, hj⟩⟩
  · refine (values1_in F n h7 hro hn l Bs n₀ b off len cap lo hi hE hreach hb J Jx (fun xs W o h => ?_) hY W (Nat.le_trans hn₀ hW.size) hc' hcs h0).mono ?_
    · exact hJ _ _ _ none h (World.grownBy_alloc W o none) (fun r e => by cases e)
    · rintro e W' ⟨he, ⟨ys, rfl, hj⟩ | ⟨pre, ⟨k, hk, rfl⟩, hj⟩⟩
      · exact ⟨he, .inl ⟨_, rfl, hj⟩⟩
      · exact ⟨he, .inr ⟨_, by rw [upto_take _ hk]; exact List.take_prefix _ _, hj⟩⟩
def Cells2 (W : World) (b : Nat) (x : Sp) : Prop := (W.cell? ⟨b, 0, none⟩ = some (.int .i64 x.lo) ∧ W.frozen? ⟨b, 0, none⟩ = false) ∧ W.cell? ⟨b, 1, none⟩ = some (.int .i64 x.hi) ∧ W.frozen? ⟨b, 1, none⟩ = false
def Cell1 (W : World) (b : Nat) (v : Value) : Prop := W.cell? ⟨b, 0, none⟩ = some v ∧ W.frozen? ⟨b, 0, none⟩ = false
section
variable {A B : World} {row : Option Nat} {b : Nat}
theorem Cells2.kept {x : Sp} (h : Cells2 A b x) (hg : A.grownBy B row) (hr : ∀ r, row = some r → ∃ o : Obj, A.heap[r]? = some o ∧ o.isCells = false) : Cells2 B b x :=
  ⟨⟨cell_kept h.1.1 hg hr, (frozen_kept h.1.1 hg hr).trans h.1.2⟩, cell_kept h.2.1 hg hr, (frozen_kept h.2.1 hg hr).trans h.2.2⟩
theorem Cell1.kept {v : Value} (h : Cell1 A b v) (hg : A.grownBy B row) (hr : ∀ r, row = some r → ∃ o : Obj, A.heap[r]? = some o ∧ o.isCells = false) : Cell1 B b v :=
  ⟨cell_kept h.1 hg hr, (frozen_kept h.1 hg hr).trans h.2⟩
theorem Cells2.below {n : Nat} {x : Sp} (h : Cells2 A b x) (hb : Below n A B) (hn : b < n) : Cells2 B b x :=
  ⟨⟨(hb.cell (p := ⟨b, 0, none⟩) hn).trans h.1.1, (hb.frozen (p := ⟨b, 0, none⟩) hn).trans h.1.2⟩, (hb.cell (p := ⟨b, 1, none⟩) hn).trans h.2.1, (hb.frozen (p := ⟨b, 1, none⟩) hn).trans h.2.2⟩
theorem Cell1.below {n : Nat} {v : Value} (h : Cell1 A b v) (hb : Below n A B) (hn : b < n) : Cell1 B b v :=
  ⟨(hb.cell (p := ⟨b, 0, none⟩) hn).trans h.1, (hb.frozen (p := ⟨b, 0, none⟩) hn).trans h.2⟩
end
theorem Cells2.new (W : World) (x : Sp) (t : TypeId) : Cells2 (W.alloc (.cells #[.int .i64 x.lo, .int .i64 x.hi] t)) W.heap.size x := by
  refine ⟨⟨?_, ?_⟩, ?_, ?_⟩
  · rw [World.cell?_alloc_new]; rfl
  · rw [World.frozen?_alloc_new]
  · rw [World.cell?_alloc_new]; rfl
  · rw [World.frozen?_alloc_new]
theorem Cell1.new (W : World) (v : Value) (t : TypeId) : Cell1 (W.alloc (.cells #[v] t)) W.heap.size v := by
  refine ⟨?_, ?_⟩
  · rw [World.cell?_alloc_new]; rfl
  · rw [World.frozen?_alloc_new]
theorem Cells2.alloc {W : World} {b : Nat} {x : Sp} (h : Cells2 W b x) (o : Obj) (hb : b < W.heap.size) : Cells2 (W.alloc o) b x := h.below ((Below.refl W.heap.size W).alloc (Nat.le_refl _) o) hb
theorem Cell1.alloc {W : World} {b : Nat} {v : Value} (h : Cell1 W b v) (o : Obj) (hb : b < W.heap.size) : Cell1 (W.alloc o) b v := h.below ((Below.refl W.heap.size W).alloc (Nat.le_refl _) o) hb
theorem Cells2.set {W : World} {b c : Nat} {x : Sp} (h : Cells2 W b x) (hb : b ≠ c) (o : Nat) (v : Value) : Cells2 (W.setCell ⟨c, o, none⟩ v) b x := by
  have hc : ∀ j, (W.setCell ⟨c, o, none⟩ v).cell? ⟨b, j, none⟩ = W.cell? ⟨b, j, none⟩ := fun j => World.cell?_setCell_other _ _ _ _ (by intro e; exact hb (congrArg Addr.block e).symm)
  exact ⟨⟨(hc 0).trans h.1.1, (World.frozen?_setCell _ _ _ _).trans h.1.2⟩, (hc 1).trans h.2.1, (World.frozen?_setCell _ _ _ _).trans h.2.2⟩
theorem Cell1.set {W : World} {b c : Nat} {u : Value} (h : Cell1 W b u) (hb : b ≠ c) (o : Nat) (v : Value) : Cell1 (W.setCell ⟨c, o, none⟩ v) b u := by
  have hc : ∀ j, (W.setCell ⟨c, o, none⟩ v).cell? ⟨b, j, none⟩ = W.cell? ⟨b, j, none⟩ := fun j => World.cell?_setCell_other _ _ _ _ (by intro e; exact hb (congrArg Addr.block e).symm)
  exact ⟨(hc 0).trans h.1, (World.frozen?_setCell _ _ _ _).trans h.2⟩
def acc (f : Sp → Sp → Sp × Int) (s : Sp) : List Sp → Option Sp
  | [] => some s
  | x :: xs => if (f s x).2 = 0 then acc f (f s x).1 xs else none
def foldS (f : Sp → Sp → Sp × Int) (s : Sp) : List Sp → Sp × Int
  | [] => (s, 0)
  | x :: xs => if (f s x).2 = 0 then foldS f (f s x).1 xs else (.zero, (f s x).2)
theorem acc_snoc (f : Sp → Sp → Sp × Int) : ∀ (xs : List Sp) (s : Sp) (x r : Sp), acc f s xs = some r → acc f s (xs ++ [x]) = if (f r x).2 = 0 then some (f r x).1 else none
  | [], s, x, r, h => by cases h; rfl
  | y :: ys, s, x, r, h => by
    simp only [acc, List.cons_append] at h ⊢
    split at h
    · rename_i he; rw [if_pos he]; exact acc_snoc f ys _ x r h
    · cases h
theorem foldS_acc (f : Sp → Sp → Sp × Int) : ∀ (xs : List Sp) (s r : Sp), acc f s xs = some r → foldS f s xs = (r, 0)
  | [], s, r, h => by cases h; rfl
  | y :: ys, s, r, h => by
    simp only [acc, foldS] at h ⊢
    split at h
    · rename_i he; rw [if_pos he]; exact foldS_acc f ys _ r h
    · cases h
theorem foldS_bad (f : Sp → Sp → Sp × Int) : ∀ (xs ys : List Sp) (s x r : Sp), acc f s xs = some r → (f r x).2 ≠ 0 → foldS f s (xs ++ x :: ys) = (.zero, (f r x).2)
  | [], ys, s, x, r, h, hn => by cases h; simp only [List.nil_append, foldS, if_neg hn]
  | y :: l, ys, s, x, r, h, hn => by
    simp only [acc, foldS, List.cons_append] at h ⊢
    split at h
    · rename_i he; rw [if_pos he]; exact foldS_bad f l ys _ x r h hn
    · cases h
structure Inv (f : Sp → Sp → Sp × Int) (g : Nat) (s0 : Sp) (w : World) (pre : List Sp) (W : World) : Prop where
  accu : ∃ r, acc f s0 pre = some r ∧ Cells2 W (w.heap.size + 5) r
  step : Cell1 W (w.heap.size + 1) (.func (.func g) #[] #[])
  res : Cells2 W (w.heap.size + 2) .zero
  err : Cell1 W (w.heap.size + 3) (.int .i64 0)
  non : Cells2 W (w.heap.size + 4) .zero
  below : Below w.heap.size w W
  size : w.heap.size + 6 ≤ W.heap.size
structure Left (f : Sp → Sp → Sp × Int) (s0 : Sp) (w : World) (c : Code) (pre : List Sp) (W : World) : Prop where
  ret : c = .ret
  bad : ∃ e, e ≠ 0 ∧ (∀ ys, foldS f s0 (pre ++ ys) = (.zero, e)) ∧ Cell1 W (w.heap.size + 3) (.int .i64 e)
  res : Cells2 W (w.heap.size + 2) .zero
  below : Below w.heap.size w W
  size : w.heap.size + 6 ≤ W.heap.size
theorem Cells2.put {W : World} {b : Nat} {x : Sp} (h : Cells2 W b x) (y : Sp) : Cells2 ((W.setCell ⟨b, 0, none⟩ (.int .i64 y.lo)).setCell ⟨b, 1, none⟩ (.int .i64 y.hi)) b y := by
  have e0 : (W.setCell ⟨b, 0, none⟩ (.int .i64 y.lo)).cell? ⟨b, 0, none⟩ = some (.int .i64 y.lo) := World.cell?_setCell_same _ _ _ h.1.1
  have e1 : (W.setCell ⟨b, 0, none⟩ (.int .i64 y.lo)).cell? ⟨b, 1, none⟩ = some (.int .i64 x.hi) := (World.cell?_setCell_other _ _ _ _ (by intro e; cases e)).trans h.2.1
  refine ⟨⟨(World.cell?_setCell_other _ _ _ _ (by intro e; cases e)).trans e0, ?_⟩, World.cell?_setCell_same _ _ _ e1, ?_⟩
  · rw [World.frozen?_setCell, World.frozen?_setCell]; exact h.1.2
  · rw [World.frozen?_setCell, World.frozen?_setCell]; exact h.2.2
theorem Cell1.put {W : World} {b : Nat} {u : Value} (h : Cell1 W b u) (v : Value) : Cell1 (W.setCell ⟨b, 0, none⟩ v) b v :=
  ⟨World.cell?_setCell_same _ _ _ h.1, by rw [World.frozen?_setCell]; exact h.2⟩
theorem keeps_below {A B : World} (h : Below A.heap.size A B) : KeepsOthers A B :=
  ⟨h.size, fun k o hk _ => (h.block k (Array.getElem?_eq_some_iff.1 hk).1).trans hk⟩
theorem grown_size {A B : World} {row : Option Nat} (hg : A.grownBy B row) : A.heap.size ≤ B.heap.size := by
  exact hg.size
abbrev inLoop (g Bs : Nat) (s0 : Sp) (B Bx : Nat) (x : Sp) : Act :=
  { tmps := #[Value.func (Fn.func 120) #[] #[Value.pointer (some ⟨Bs, 0, none⟩)], .agg #[.int .i64 s0.lo, .int .i64 s0.hi],
      Value.func (Fn.func g) #[] #[], undef, .pointer (some ⟨B, 0, none⟩), .pointer (some ⟨B + 1, 0, none⟩), .pointer (some ⟨B + 1 + 1, 0, none⟩),
      .pointer (some ⟨B + 1 + 1 + 1, 0, none⟩), .pointer (some ⟨B + 1 + 1 + 1 + 1, 0, none⟩), .pointer (some ⟨B + 1 + 1 + 1 + 1 + 1, 0, none⟩),
      .pointer (some ⟨Bx, 0, none⟩), undef, .agg #[.int .i64 s0.lo, .int .i64 s0.hi], Value.func (Fn.func 120) #[] #[Value.pointer (some ⟨Bs, 0, none⟩)], .agg #[.int .i64 x.lo, .int .i64 x.hi],
      undef, undef, undef, undef, undef, undef, undef, undef, undef, undef, undef, undef],
    defers := [] }
theorem fin_ret {x : Sp × Int} {r : Sp} {e : Int} {w W : World} {tmps : Array Value} {D : Nat} (hx : x = (r, e)) (C : Cells2 W (w.heap.size + 2) r) (D0 : Cell1 W (w.heap.size + 3) (.int .i64 e)) (hB : Below w.heap.size w W)
    (hK : W.heap[D]? = some (.deferred (some []))) (hD : w.heap.size ≤ D) (h6 : tmps.getD 6 undef = .pointer (some ⟨w.heap.size + 1 + 1, 0, none⟩)) (h7 : tmps.getD 7 undef = .pointer (some ⟨w.heap.size + 1 + 1 + 1, 0, none⟩)) :
    bodyPostM Fence.wide 4 Try.prog Try.f92 (fun e w' => e = .returned (.tuple #[spv x.1, .int .i64 x.2]) ∧ Below w.heap.size w w') .ret { tmps := tmps, defers := [{ target := Target.collected D, args := #[] }] } W := by
  subst hx
  refine ⟨by simp, .inl ⟨_, _, rfl, run_takeDeferred hK, ?_⟩⟩
  have hg := grownBy_putObj' W D (.deferred none)
  have hr : ∀ r', (some D : Option Nat) = some r' → ∃ o : Obj, W.heap[r']? = some o ∧ o.isCells = false := fun r' e => by cases e; exact ⟨_, hK, rfl⟩
  have C' := C.kept hg hr
  have D' := D0.kept hg hr
  have B' := hB.trans (belowK_b (w := w) (Nat.le_refl _) W D (.deferred (some [])) (.deferred none) hD hK rfl rfl)
  obtain ⟨⟨c00, c01⟩, c10, c11⟩ := C'
  obtain ⟨d00, d01⟩ := D'
  refine ⟨.tuple #[spv r, .int .i64 e], ?_, rfl, B'⟩
  have h6' : tmps[6]?.getD undef = Value.pointer (some { block := w.heap.size + 1 + 1, off := 0 }) := by rw [← Array.getD_eq_getD_getElem?]; exact h6
  have h7' : tmps[7]?.getD undef = Value.pointer (some { block := w.heap.size + 1 + 1 + 1, off := 0 }) := by rw [← Array.getD_eq_getD_getElem?]; exact h7
  simp [results, Try.results92, go_sem, h6', h7', c00, c10, d00]
end FD
end
section
open Go.RowKit Go.Shelf
namespace FD
attribute [local go_sem] Oper.semAt_some
set_option maxRecDepth 100000 in
set_option maxHeartbeats 4000000 in
theorem folda_any (f : Sp → Sp → Sp × Int)
    (hstep : ∀ s x W, Calls Try.prog 94 #[spv s, spv x] W fun e W' => e = .returned (.tuple #[spv (f s x).1, .int .i64 (f s x).2]) ∧ Below W.heap.size W W')
    (Bs : Nat) (sv : Value) (len : Nat) (lo hi : Nat → Int) (hE : ∀ j, In64 (lo j) ∧ In64 (hi j)) (hreach : len * 16 ≤ 140737488351232) (s0 : Sp) (w : World) (hBs : Bs < w.heap.size) (hc : w.cell? ⟨Bs, 0, none⟩ = some sv) (hI : Holds w.heap.size w sv len lo hi) :
    Calls Try.prog 92 #[.func (.func 120) #[] #[.pointer (some ⟨Bs, 0, none⟩)], spv s0, .func (.func 94) #[] #[]] w fun e w' =>
      e = .returned (.tuple #[spv (foldS f s0 (upto (el lo hi hE) len)).1, .int .i64 (foldS f s0 (upto (el lo hi hE) len)).2]) ∧ Below w.heap.size w w' := by
  refine (callsIn_wide (n := 4)).1 ?_
  refine callsIn_of_wp_marks Try.func92 rfl trivial ?_ rfl
  simp only [Try.ntmps92, List.size_toArray, List.length_cons, List.length_nil, Nat.reduceAdd, Nat.reduceSub, Array.replicate_succ, Array.replicate_zero, List.push_toArray, List.append_toArray, List.nil_append, List.cons_append]
  gi_wp2
  have z1 : ∀ (W : World) (a b : Int), (W.alloc (.cells #[.int .i64 a, .int .i64 b] 24)).heap.size = W.heap.size + 1 := fun _ _ _ => World.size_alloc _ _
  have hI0 : Inv f 94 s0 w [] ((((((w.alloc (Obj.cells #[Value.int IntKind.i64 s0.lo, Value.int IntKind.i64 s0.hi] 24)).alloc
                      (Obj.cells #[Value.func (Fn.func 94) #[] #[]] 131)).alloc
                  (Obj.cells #[Value.int IntKind.i64 0, Value.int IntKind.i64 0] 24)).alloc
              (Obj.cells #[Value.int IntKind.i64 0] 27)).alloc
          (Obj.cells #[Value.int IntKind.i64 0, Value.int IntKind.i64 0] 24)).alloc
      (Obj.cells #[Value.int IntKind.i64 s0.lo, Value.int IntKind.i64 s0.hi] 24)) := by
    refine ⟨⟨s0, rfl, ?_⟩, ?_, ?_, ?_, ?_, ?_, ?_⟩
    · have := Cells2.new (((((w.alloc (Obj.cells #[Value.int IntKind.i64 s0.lo, Value.int IntKind.i64 s0.hi] 24)).alloc (Obj.cells #[Value.func (Fn.func 94) #[] #[]] 131)).alloc (Obj.cells #[Value.int IntKind.i64 0, Value.int IntKind.i64 0] 24)).alloc (Obj.cells #[Value.int IntKind.i64 0] 27)).alloc (Obj.cells #[Value.int IntKind.i64 0, Value.int IntKind.i64 0] 24)) s0 24
      simpa [Sp.zero] using this
    · have := ((((Cell1.new (w.alloc (Obj.cells #[Value.int IntKind.i64 s0.lo, Value.int IntKind.i64 s0.hi] 24)) (Value.func (Fn.func 94) #[] #[]) 131).alloc (Obj.cells #[Value.int IntKind.i64 0, Value.int IntKind.i64 0] 24) (by simp)).alloc (Obj.cells #[Value.int IntKind.i64 0] 27) (by (simp <;> omega))).alloc (Obj.cells #[Value.int IntKind.i64 0, Value.int IntKind.i64 0] 24) (by (simp <;> omega))).alloc (Obj.cells #[Value.int IntKind.i64 s0.lo, Value.int IntKind.i64 s0.hi] 24) (by (simp <;> omega))
      simpa [Sp.zero] using this
    · have := (((Cells2.new ((w.alloc (Obj.cells #[Value.int IntKind.i64 s0.lo, Value.int IntKind.i64 s0.hi] 24)).alloc (Obj.cells #[Value.func (Fn.func 94) #[] #[]] 131)) .zero 24).alloc (Obj.cells #[Value.int IntKind.i64 0] 27) (by simp)).alloc (Obj.cells #[Value.int IntKind.i64 0, Value.int IntKind.i64 0] 24) (by (simp <;> omega))).alloc (Obj.cells #[Value.int IntKind.i64 s0.lo, Value.int IntKind.i64 s0.hi] 24) (by (simp <;> omega))
      simpa [Sp.zero] using this
    · have := ((Cell1.new (((w.alloc (Obj.cells #[Value.int IntKind.i64 s0.lo, Value.int IntKind.i64 s0.hi] 24)).alloc (Obj.cells #[Value.func (Fn.func 94) #[] #[]] 131)).alloc (Obj.cells #[Value.int IntKind.i64 0, Value.int IntKind.i64 0] 24)) (.int .i64 0) 27).alloc (Obj.cells #[Value.int IntKind.i64 0, Value.int IntKind.i64 0] 24) (by simp)).alloc (Obj.cells #[Value.int IntKind.i64 s0.lo, Value.int IntKind.i64 s0.hi] 24) (by (simp <;> omega))
      simpa [Sp.zero] using this
    · have := (Cells2.new ((((w.alloc (Obj.cells #[Value.int IntKind.i64 s0.lo, Value.int IntKind.i64 s0.hi] 24)).alloc (Obj.cells #[Value.func (Fn.func 94) #[] #[]] 131)).alloc (Obj.cells #[Value.int IntKind.i64 0, Value.int IntKind.i64 0] 24)).alloc (Obj.cells #[Value.int IntKind.i64 0] 27)) .zero 24).alloc (Obj.cells #[Value.int IntKind.i64 s0.lo, Value.int IntKind.i64 s0.hi] 24) (by simp)
      simpa [Sp.zero] using this
    · exact ((((((Below.refl _ w).alloc (Nat.le_refl _) _).alloc (by simp) _).alloc (by (simp <;> omega)) _).alloc (by (simp <;> omega)) _).alloc (by (simp <;> omega)) _).alloc (by (simp <;> omega)) _
    · simp
  have hcW := (hI0.below.cell (p := ⟨Bs, 0, none⟩) hBs).trans hc
  have hIW := hI.below hI0.below
  have hszW := hI0.size
  generalize ((((((w.alloc (Obj.cells #[Value.int IntKind.i64 s0.lo, Value.int IntKind.i64 s0.hi] 24)).alloc
                      (Obj.cells #[Value.func (Fn.func 94) #[] #[]] 131)).alloc
                  (Obj.cells #[Value.int IntKind.i64 0, Value.int IntKind.i64 0] 24)).alloc
              (Obj.cells #[Value.int IntKind.i64 0] 27)).alloc
          (Obj.cells #[Value.int IntKind.i64 0, Value.int IntKind.i64 0] 24)).alloc
      (Obj.cells #[Value.int IntKind.i64 s0.lo, Value.int IntKind.i64 s0.hi] 24)) = W0 at *
  clear z1
  refine wpIn_rangeFunc_ownH rfl (by omega) (gf := 120) (lb := #[.pointer (some ⟨Bs, 0, none⟩)]) rfl trivial (enters_of Try.func120 (by kernel_rfl) rfl)
    (values_stops _ (4 - 1) trivial rfl (by omega) Bs w.heap.size sv len lo hi hE hreach W0 (by omega) (by omega) hcW hIW) belowK_t (belowK_b (by omega)) (Below.refl _ _) (fun _ => rfl)
    (fun pre W => Inv f 94 s0 w pre W) (fun c pre W => Left f s0 w c pre W) ?_ ?_ hI0
    (fun x a' W => ∃ Bx, w.heap.size + 6 ≤ Bx ∧ Cells2 W Bx x ∧ a' = inLoop 94 Bs s0 w.heap.size Bx x) ?_ ?assign ?body ?done ?stop
  · intro pre A B row hs hg hr
    have hr' := fun r e => (hr r e).2
    obtain ⟨⟨r, a1, a3⟩, b, c, d, e, fb, fz⟩ := hs
    exact ⟨⟨r, a1, a3.kept hg hr'⟩, b.kept hg hr', c.kept hg hr', d.kept hg hr', e.kept hg hr', ownFrom_below (β := Unit) (Nat.le_refl _) (by omega) () A B row fb hg hr, Nat.le_trans fz (grown_size hg)⟩
  · intro c pre A B row hs hg hr
    have hr' := fun r e => (hr r e).2
    obtain ⟨a, ⟨e, e0, e1, e2⟩, b, fb, fz⟩ := hs
    exact ⟨a, ⟨e, e0, e1, e2.kept hg hr'⟩, b.kept hg hr', ownFrom_below (β := Unit) (Nat.le_refl _) (by omega) () A B row fb hg hr, Nat.le_trans fz (grown_size hg)⟩
  · intro x a' u A B row ⟨Bx, h1, h2, h3⟩ hg hr
    exact ⟨Bx, h1, h2.kept hg fun r e => (hr r e).2, h3⟩
  case assign =>
    rintro l pre x W K hi hK
    gi_wp2
    have hB := hi.below
    have hz := hi.size
    refine hK _ _ ((KeepsOthers.alloc _ _).from _) ((Below.refl _ W).alloc (by omega) _) ?_ ⟨W.heap.size, by omega, Cells2.new W x 24, rfl⟩
    obtain ⟨⟨r, a1, a3⟩, b, c, d, e, fb, fz⟩ := hi
    exact ⟨⟨r, a1, a3.alloc _ (by omega)⟩, b.alloc _ (by omega), c.alloc _ (by omega), d.alloc _ (by omega), e.alloc _ (by omega), fb.alloc (by omega) _, by simp; omega⟩
  case body =>
    rintro l pre x a' W hl ⟨r0, hr0⟩ ⟨⟨r, a1, a3⟩, b, c, d, e, fb, fz⟩ ⟨Bx, hBx, hX, rfl⟩ hlt
    have hst := hstep r x
    have A3 := a3
    have E3 := e
    have C3 := c
    have D3 := d
    obtain ⟨⟨r00, r01⟩, r10, r11⟩ := a3
    obtain ⟨⟨x00, x01⟩, x10, x11⟩ := hX
    obtain ⟨b0, b1⟩ := id b
    by_cases he : (f r x).2 = 0
    · have t0 : ((f r x).2 != 0) = false := by simp [he]
      have t1 : ((f r x).2 == 0) = true := by simp [he]
      have HE := Lib.hid he
      clear he
      gi_wp2_with (refine ⟨trivial, ?_⟩; gi_at_call 94; refine (CallsIn.inRound l (callsIn_wide.2 (hst _))).mono ?_; rintro e' w' ⟨rfl, hb'⟩; obtain ⟨⟨q00, q01⟩, q10, q11⟩ := A3.below hb' (by omega))
      have hW' : Below W.heap.size W w' := hb'
      have Q3 : Cells2 ((w'.setCell ⟨w.heap.size + 1 + 1 + 1 + 1 + 1, 0, none⟩ (Value.int IntKind.i64 (f r x).fst.lo)).setCell ⟨w.heap.size + 1 + 1 + 1 + 1 + 1, 1, none⟩ (Value.int IntKind.i64 (f r x).fst.hi)) (w.heap.size + 5) (f r x).1 := Cells2.put (A3.below hb' (by omega)) _
      have b' := ((b.below hb' (by omega)).set (c := w.heap.size + 1 + 1 + 1 + 1 + 1) (by omega) 0 (Value.int IntKind.i64 (f r x).fst.lo)).set (c := w.heap.size + 1 + 1 + 1 + 1 + 1) (by omega) 1 (Value.int IntKind.i64 (f r x).fst.hi)
      have c' := ((C3.below hb' (by omega)).set (c := w.heap.size + 1 + 1 + 1 + 1 + 1) (by omega) 0 (Value.int IntKind.i64 (f r x).fst.lo)).set (c := w.heap.size + 1 + 1 + 1 + 1 + 1) (by omega) 1 (Value.int IntKind.i64 (f r x).fst.hi)
      have d' := ((D3.below hb' (by omega)).set (c := w.heap.size + 1 + 1 + 1 + 1 + 1) (by omega) 0 (Value.int IntKind.i64 (f r x).fst.lo)).set (c := w.heap.size + 1 + 1 + 1 + 1 + 1) (by omega) 1 (Value.int IntKind.i64 (f r x).fst.hi)
      have e' := ((E3.below hb' (by omega)).set (c := w.heap.size + 1 + 1 + 1 + 1 + 1) (by omega) 0 (Value.int IntKind.i64 (f r x).fst.lo)).set (c := w.heap.size + 1 + 1 + 1 + 1 + 1) (by omega) 1 (Value.int IntKind.i64 (f r x).fst.hi)
      have B1 : Below w.heap.size W ((w'.setCell ⟨w.heap.size + 1 + 1 + 1 + 1 + 1, 0, none⟩ (Value.int IntKind.i64 (f r x).fst.lo)).setCell ⟨w.heap.size + 1 + 1 + 1 + 1 + 1, 1, none⟩ (Value.int IntKind.i64 (f r x).fst.hi)) :=
        ((hb'.mono (by omega)).setCell (p := ⟨w.heap.size + 1 + 1 + 1 + 1 + 1, 0, none⟩) (by dsimp only; omega) _).setCell (p := ⟨w.heap.size + 1 + 1 + 1 + 1 + 1, 1, none⟩) (by dsimp only; omega) _
      refine ⟨((keeps_below hb').trans ((KeepsOthers.setCell _ _ _).trans (KeepsOthers.setCell _ _ _))).from _, B1, ⟨⟨_, ?_, Q3⟩, b', c', d', e', fb.trans B1, ?_⟩⟩
      · rw [acc_snoc f pre s0 x r a1, if_pos HE.out]
      · have := hb'.size; simp; omega
    · have t0 : ((f r x).2 != 0) = true := by simp [he]
      have t1 : ((f r x).2 == 0) = false := by simp [he]
      have HE := Lib.hid he
      clear he
      gi_wp2_with (refine ⟨trivial, ?_⟩; gi_at_call 94; refine (CallsIn.inRound l (callsIn_wide.2 (hst _))).mono ?_; rintro e' w' ⟨rfl, hb'⟩; obtain ⟨⟨q00, q01⟩, q10, q11⟩ := A3.below hb' (by omega); obtain ⟨⟨n00, n01⟩, n10, n11⟩ := E3.below hb' (by omega); obtain ⟨⟨c00, c01⟩, c10, c11⟩ := C3.below hb' (by omega); obtain ⟨d00, d01⟩ := D3.below hb' (by omega))
      have C4 := (((C3.below hb' (by omega)).set (c := w.heap.size + 1 + 1 + 1 + 1 + 1) (by omega) 0 (Value.int IntKind.i64 (f r x).fst.lo)).set (c := w.heap.size + 1 + 1 + 1 + 1 + 1) (by omega) 1 (Value.int IntKind.i64 (f r x).fst.hi))
      have C5 := (Cells2.put C4 Sp.zero).set (c := w.heap.size + 1 + 1 + 1) (by omega) 0 (Value.int IntKind.i64 (f r x).snd)
      have D4 := (((((D3.below hb' (by omega)).set (c := w.heap.size + 1 + 1 + 1 + 1 + 1) (by omega) 0 (Value.int IntKind.i64 (f r x).fst.lo)).set (c := w.heap.size + 1 + 1 + 1 + 1 + 1) (by omega) 1 (Value.int IntKind.i64 (f r x).fst.hi)).set (c := w.heap.size + 1 + 1) (by omega) 0 (Value.int IntKind.i64 Sp.zero.lo)).set (c := w.heap.size + 1 + 1) (by omega) 1 (Value.int IntKind.i64 Sp.zero.hi))
      have D5 := Cell1.put D4 (Value.int IntKind.i64 (f r x).snd)
      refine ⟨((keeps_below hb').trans ((KeepsOthers.setCell _ _ _).trans ((KeepsOthers.setCell _ _ _).trans ((KeepsOthers.setCell _ _ _).trans ((KeepsOthers.setCell _ _ _).trans (KeepsOthers.setCell _ _ _)))))).from _, ⟨rfl, ⟨_, HE.out, fun ys => ?_, D5⟩, C5, ?_, ?_⟩⟩
      · rw [List.append_assoc]; exact foldS_bad f pre ys s0 x r a1 HE.out
      · exact fb.trans ((((((hb'.mono (by omega)).setCell (p := ⟨w.heap.size + 1 + 1 + 1 + 1 + 1, 0, none⟩) (by dsimp only; omega) _).setCell (p := ⟨w.heap.size + 1 + 1 + 1 + 1 + 1, 1, none⟩) (by dsimp only; omega) _).setCell (p := ⟨w.heap.size + 1 + 1, 0, none⟩) (by dsimp only; omega) _).setCell (p := ⟨w.heap.size + 1 + 1, 1, none⟩) (by dsimp only; omega) _).setCell (p := ⟨w.heap.size + 1 + 1 + 1, 0, none⟩) (by dsimp only; omega) _)
      · have := hb'.size; simp; omega
  case done =>
    rintro D xs W hD rfl ⟨⟨r, a1, a3⟩, b, c, d, e, fb, fz⟩ hK
    obtain ⟨⟨r00, r01⟩, r10, r11⟩ := id a3
    obtain ⟨⟨c00, c01⟩, c10, c11⟩ := id c
    obtain ⟨d00, d01⟩ := id d
    have hf := foldS_acc f _ _ _ a1
    have C4 := (Cells2.put c r).set (c := w.heap.size + 1 + 1 + 1) (by omega) 0 (Value.int IntKind.i64 0)
    have D4 := Cell1.put ((d.set (c := w.heap.size + 1 + 1) (by omega) 0 (Value.int IntKind.i64 r.lo)).set (c := w.heap.size + 1 + 1) (by omega) 1 (Value.int IntKind.i64 r.hi)) (Value.int IntKind.i64 0)
    have B4 := ((fb.setCell (p := ⟨w.heap.size + 1 + 1, 0, none⟩) (by dsimp only; omega) (Value.int IntKind.i64 r.lo)).setCell (p := ⟨w.heap.size + 1 + 1, 1, none⟩) (by dsimp only; omega) (Value.int IntKind.i64 r.hi)).setCell (p := ⟨w.heap.size + 1 + 1 + 1, 0, none⟩) (by dsimp only; omega) (Value.int IntKind.i64 0)
    have K4 := (KeepsOthers.trans (KeepsOthers.setCell W ⟨w.heap.size + 1 + 1, 0, none⟩ (Value.int IntKind.i64 r.lo)) ((KeepsOthers.setCell _ ⟨w.heap.size + 1 + 1, 1, none⟩ (Value.int IntKind.i64 r.hi)).trans (KeepsOthers.setCell _ ⟨w.heap.size + 1 + 1 + 1, 0, none⟩ (Value.int IntKind.i64 0)))).same D _ hK rfl
    gi_wp2
    exact fin_ret hf C4 D4 B4 K4 (by omega) rfl rfl
  case stop =>
    rintro D c pre W hD ⟨ys, hys⟩ ⟨rfl, ⟨e0, he0, hf, d⟩, c, fb, fz⟩ hK
    have hf' := hf ys
    rw [hys] at hf'
    obtain ⟨⟨c00, c01⟩, c10, c11⟩ := id c
    obtain ⟨d00, d01⟩ := id d
    gi_wp2
    exact fin_ret hf' c d fb hK (by omega) rfl rfl
end FD
end
end Go.Proofs.Ytacpahebbnnckaa
