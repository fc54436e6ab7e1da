/- Packed: FoldQ LiA. -/
import Derived.RangeFuncNested
import Derived.RangeFuncBound
import Derived.RangeFuncCalls
import Derived.RangeFuncLeaves
import Derived.RangeFuncBox
import Derived.Shelf.Abstract
import Derived.Shelf.RegionOpen
import Derived.WalkKit
import Derived.OwnWalkIn
import Derived.TacticsInMore
import Derived.LoopNIn
import Derived.LoopIn
import Derived.Lib.Hide
import Derived.Test.YtacpahebbnnckaaProg
import Derived.BigQuiet
import Derived.Test.YtacpahebbnnckaaP1
import Derived.Test.YtacpahebbnnckaaP2
import Derived.Test.YtacpahebbnnckaaP3
import Derived.Test.YtacpahebbnnckaaP8
set_option linter.unusedVariables false
set_option linter.unusedSimpArgs false
namespace Go.Proofs.Ytacpahebbnnckaa
section
open Go.RowKit Go.Shelf
namespace FP
open FD
attribute [local go_sem] Oper.semAt_some
def ElemsA (W : World) (ad : Addr) (n : Nat) (lo hi : Nat → Int) : Prop := ∀ j, j < n → W.cell? (ad.add (j * 2)) = some (.int .i64 (lo j)) ∧ W.cell? ⟨ad.block, (ad.add (j * 2)).off + 1, none⟩ = some (.int .i64 (hi j))
end FP
end
section
set_option maxRecDepth 100000
open Go.RowKit
open FP
def SpL (w : World) (A : Option Addr) (n : Nat) (lo hi : Nat → Int) : Prop := 0 < n → ∃ ad, A = some ad ∧ ad.block < w.heap.size ∧ ElemsA w ad n lo hi
theorem elA_below {B : Nat} {w w' : World} {ad : Addr} {n : Nat} {lo hi : Nat → Int} (h : ElemsA w ad n lo hi) (hb : Below B w w') (hl : ad.block < B) : ElemsA w' ad n lo hi :=
 fun j hj => ⟨(hb.cell (p := ad.add (j * 2)) (by rw [block_add]; exact hl)).trans (h j hj).1, (hb.cell (p := ⟨ad.block, _, none⟩) hl).trans (h j hj).2⟩
def lstB (n : Nat) (lo hi : Nat → Int) : Bool := (List.range n).all fun j => vB (lo j) (hi j)
theorem lst_no {n k : Nat} {lo hi : Nat → Int} (hk : k < n) (h : vB (lo k) (hi k) = false) : lstB n lo hi = false := all_no hk h
end
end Go.Proofs.Ytacpahebbnnckaa
