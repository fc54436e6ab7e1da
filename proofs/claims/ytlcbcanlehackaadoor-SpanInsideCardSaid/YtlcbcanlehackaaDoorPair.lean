/- Two results that are given back out of their own cells, in whatever order. -/
import Derived.Test.YtlcbcanlehackaaDoorQF
set_option linter.unusedVariables false
namespace Go.Proofs.YtlcbcanlehackaaDoor
open Go.RowKit
/-- Two blocks of two numbers. -/
structure Pair (w : World) (b1 b2 : Nat) (r1 r2 r3 r4 : Int) (w' : World) : Prop where
  below : Below w.heap.size w w'
  c1 : w'.cell? ⟨b1, 0, none⟩ = some (.int .i64 r1)
  c2 : w'.cell? ⟨b1, 1, none⟩ = some (.int .i64 r2)
  c3 : w'.cell? ⟨b2, 0, none⟩ = some (.int .i64 r3)
  c4 : w'.cell? ⟨b2, 1, none⟩ = some (.int .i64 r4)
  f1 : w'.frozen? ⟨b1, 0, none⟩ = false
  f2 : w'.frozen? ⟨b1, 1, none⟩ = false
  f3 : w'.frozen? ⟨b2, 0, none⟩ = false
  f4 : w'.frozen? ⟨b2, 1, none⟩ = false
theorem Pair.stored {w w' : World} {b1 b2 : Nat} {r1 r2 r3 r4 : Int} (hn : ¬ b1 = b2) (hb : w.heap.size ≤ b1) (h : Pair w b1 b2 r1 r2 r3 r4 w') : Pair w b1 b2 r1 r2 r3 r4 ((w'.setCell ⟨b1, 0, none⟩ (.int .i64 r1)).setCell ⟨b1, 1, none⟩ (.int .i64 r2)) := by
  obtain ⟨h0, c1, c2, c3, c4, f1, f2, f3, f4⟩ := h
  have hn' : ¬ b2 = b1 := fun e => hn e.symm
  exact ⟨(h0.setCell (p := ⟨b1, 0, none⟩) hb _).setCell (p := ⟨b1, 1, none⟩) hb _, by go_simp, by go_simp, by go_simp, by go_simp, by go_simp, by go_simp, by go_simp, by go_simp⟩
theorem Pair.stored2 {w w' : World} {b1 b2 : Nat} {r1 r2 r3 r4 : Int} (hn : ¬ b1 = b2) (hb : w.heap.size ≤ b2) (h : Pair w b1 b2 r1 r2 r3 r4 w') : Pair w b1 b2 r1 r2 r3 r4 ((w'.setCell ⟨b2, 0, none⟩ (.int .i64 r3)).setCell ⟨b2, 1, none⟩ (.int .i64 r4)) := by
  obtain ⟨h0, c1, c2, c3, c4, f1, f2, f3, f4⟩ := h
  have hn' : ¬ b2 = b1 := fun e => hn e.symm
  exact ⟨(h0.setCell (p := ⟨b2, 0, none⟩) hb _).setCell (p := ⟨b2, 1, none⟩) hb _, by go_simp, by go_simp, by go_simp, by go_simp, by go_simp, by go_simp, by go_simp, by go_simp⟩
/-- Two results (b1, b2) that come out of two other boxes (b3, b4); the first one has x1, x2 now. -/
structure Pair4 (w : World) (b1 b2 b3 b4 : Nat) (r1 r2 r3 r4 x1 x2 : Int) (w' : World) : Prop where
  below : Below w.heap.size w w'
  c1 : w'.cell? ⟨b1, 0, none⟩ = some (.int .i64 x1)
  c2 : w'.cell? ⟨b1, 1, none⟩ = some (.int .i64 x2)
  c3 : w'.cell? ⟨b2, 0, none⟩ = some (.int .i64 0)
  c4 : w'.cell? ⟨b2, 1, none⟩ = some (.int .i64 0)
  c5 : w'.cell? ⟨b3, 0, none⟩ = some (.int .i64 r1)
  c6 : w'.cell? ⟨b3, 1, none⟩ = some (.int .i64 r2)
  c7 : w'.cell? ⟨b4, 0, none⟩ = some (.int .i64 r3)
  c8 : w'.cell? ⟨b4, 1, none⟩ = some (.int .i64 r4)
  f1 : w'.frozen? ⟨b1, 0, none⟩ = false
  f2 : w'.frozen? ⟨b1, 1, none⟩ = false
  f3 : w'.frozen? ⟨b2, 0, none⟩ = false
  f4 : w'.frozen? ⟨b2, 1, none⟩ = false
/-- What the first one has, by whether it has been stored. -/
def px (j : Option Value) (r : Int) : Int := match j with
  | none => 0
  | some _ => r
theorem Pair4.stored {w w' : World} {b1 b2 b3 b4 : Nat} {r1 r2 r3 r4 x1 x2 : Int} (hn : ¬ b1 = b2) (h3 : ¬ b1 = b3) (h4 : ¬ b1 = b4) (hb : w.heap.size ≤ b1) (h : Pair4 w b1 b2 b3 b4 r1 r2 r3 r4 x1 x2 w') : Pair4 w b1 b2 b3 b4 r1 r2 r3 r4 r1 r2 ((w'.setCell ⟨b1, 0, none⟩ (.int .i64 r1)).setCell ⟨b1, 1, none⟩ (.int .i64 r2)) := by
  obtain ⟨h0, c1, c2, c3, c4, c5, c6, c7, c8, f1, f2, f3, f4⟩ := h
  have hn' : ¬ b2 = b1 := fun e => hn e.symm
  have h3' : ¬ b3 = b1 := fun e => h3 e.symm
  have h4' : ¬ b4 = b1 := fun e => h4 e.symm
  exact ⟨(h0.setCell (p := ⟨b1, 0, none⟩) hb _).setCell (p := ⟨b1, 1, none⟩) hb _, by go_simp, by go_simp, by go_simp, by go_simp, by go_simp, by go_simp, by go_simp, by go_simp, by go_simp, by go_simp, by go_simp, by go_simp⟩
end Go.Proofs.YtlcbcanlehackaaDoor
