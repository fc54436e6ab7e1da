/- Packed: Tab. -/
import Derived.Deep.Slices
import Derived.Test.YtdcolicajjmffaaP5
set_option linter.unusedVariables false
set_option linter.unusedSimpArgs false
namespace Go.Proofs.Ytdcolicajjmffaa
section
open Go.RowKit
theorem block_add (a : Addr) (n : Nat) : (a.add n).block = a.block := by unfold Addr.add; split <;> rfl
theorem bcellG {B : Nat} {W w1 : World} (hb : Below B W w1) : ∀ p : Addr, p.block < B → w1.cell? p = W.cell? p := fun p h => hb.cell h
theorem all_no {n k : Nat} {f : Nat → Bool} (h : k < n) (hf : f k = false) : (List.range n).all f = false := by
 rw [List.all_eq_false]
 exact ⟨k, List.mem_range.2 h, by simp [hf]⟩
theorem all_more {k : Nat} {f : Nat → Bool} (h : (List.range k).all f = true) (hf : f k = true) : (List.range (k + 1)).all f = true := by
 rw [List.range_succ, List.all_append, h]; simp [hf]
end
end Go.Proofs.Ytdcolicajjmffaa
