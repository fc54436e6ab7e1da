/- Two results that come out of other boxes, whatever they hold. -/
import Derived.Test.YtbfbnmmgmkbieaaPair
set_option linter.unusedVariables false
namespace Go.Proofs.Ytbfbnmmgmkbieaa
open Go.RowKit
structure PairV (w : World) (b1 b2 b3 b4 : Nat) (r1 r2 r3 r4 z3 z4 x1 x2 : Value) (w' : World) : Prop where
  below : Below w.heap.size w w'
  c1 : w'.cell? ⟨b1, 0, none⟩ = some x1
  c2 : w'.cell? ⟨b1, 1, none⟩ = some x2
  c3 : w'.cell? ⟨b2, 0, none⟩ = some z3
  c4 : w'.cell? ⟨b2, 1, none⟩ = some z4
  c5 : w'.cell? ⟨b3, 0, none⟩ = some r1
  c6 : w'.cell? ⟨b3, 1, none⟩ = some r2
  c7 : w'.cell? ⟨b4, 0, none⟩ = some r3
  c8 : w'.cell? ⟨b4, 1, none⟩ = some r4
  f1 : w'.frozen? ⟨b1, 0, none⟩ = false
  f2 : w'.frozen? ⟨b1, 1, none⟩ = false
  f3 : w'.frozen? ⟨b2, 0, none⟩ = false
  f4 : w'.frozen? ⟨b2, 1, none⟩ = false
def pv (z : Value) (j : Option Value) (r : Value) : Value := match j with
  | none => z
  | some _ => r
theorem PairV.stored {w w' : World} {b1 b2 b3 b4 : Nat} {r1 r2 r3 r4 z3 z4 x1 x2 : Value} (hn : ¬ b1 = b2) (h3 : ¬ b1 = b3) (h4 : ¬ b1 = b4) (hb : w.heap.size ≤ b1) (h : PairV w b1 b2 b3 b4 r1 r2 r3 r4 z3 z4 x1 x2 w') : PairV w b1 b2 b3 b4 r1 r2 r3 r4 z3 z4 r1 r2 ((w'.setCell ⟨b1, 0, none⟩ r1).setCell ⟨b1, 1, none⟩ r2) := by
  obtain ⟨h0, c1, c2, c3, c4, c5, c6, c7, c8, f1, f2, f3, f4⟩ := h
  have hn' : ¬ b2 = b1 := fun e => hn e.symm
  have h3' : ¬ b3 = b1 := fun e => h3 e.symm
  have h4' : ¬ b4 = b1 := fun e => h4 e.symm
  exact ⟨(h0.setCell (p := ⟨b1, 0, none⟩) hb _).setCell (p := ⟨b1, 1, none⟩) hb _, by go_simp, by go_simp, by go_simp, by go_simp, by go_simp, by go_simp, by go_simp, by go_simp, by go_simp, by go_simp, by go_simp, by go_simp⟩
end Go.Proofs.Ytbfbnmmgmkbieaa
