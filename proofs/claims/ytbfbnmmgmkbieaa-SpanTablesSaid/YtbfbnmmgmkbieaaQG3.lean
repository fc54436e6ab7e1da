/- Boxes of three cells in a region that draws its order. -/
import Derived.Test.YtbfbnmmgmkbieaaQG
set_option linter.unusedVariables false
namespace Go.Proofs.Ytbfbnmmgmkbieaa
namespace QG
open QF
open Go.RowKit
/-- A box of three cells that a class may have, by a marker. -/
def Box3 (W0 w : World) (z0 z1 z2 : Value) : Option Value → Prop
  | none => True
  | some u => ∃ p : Nat, u = .pointer (some ⟨p, 0, none⟩) ∧ W0.heap.size ≤ p ∧ p < w.heap.size ∧ w.cell? ⟨p, 0, none⟩ = some z0 ∧ w.cell? ⟨p, 1, none⟩ = some z1 ∧ w.cell? ⟨p, 2, none⟩ = some z2 ∧ w.frozen? ⟨p, 0, none⟩ = false ∧ w.frozen? ⟨p, 1, none⟩ = false ∧ w.frozen? ⟨p, 2, none⟩ = false
theorem Box3.kept {W0 w w' : World} {z0 z1 z2 : Value} {j : Option Value} (h : Box3 W0 w z0 z1 z2 j) (hb : Below w.heap.size w w') : Box3 W0 w' z0 z1 z2 j := by
  cases j
  · trivial
  · obtain ⟨p, h2, h3, h4, c0, c1, c2, f0, f1, f2⟩ := h
    exact ⟨p, h2, h3, Nat.lt_of_lt_of_le h4 hb.size, (hb.cell (p := ⟨p, 0, none⟩) h4).trans c0, (hb.cell (p := ⟨p, 1, none⟩) h4).trans c1, (hb.cell (p := ⟨p, 2, none⟩) h4).trans c2, (hb.frozen (p := ⟨p, 0, none⟩) h4).trans f0, (hb.frozen (p := ⟨p, 1, none⟩) h4).trans f1, (hb.frozen (p := ⟨p, 2, none⟩) h4).trans f2⟩
/-- The classes: before and behind each of the three. -/
def FD3 (B : Nat) (W0 : World) (z0 z1 z2 s0 s1 s2 : Value) (j : St) (w : World) : Prop := Below B W0 w ∧ Box3 W0 w (if j.2.2 then s0 else z0) (if j.2.2 then s1 else z1) (if j.2.2 then s2 else z2) j.1 ∧ Box3 W0 w z0 z1 z2 j.2.1 ∧ Two j.1 j.2.1
section
variable {B : Nat} {W0 w w' : World} {z0 z1 z2 s0 s1 s2 : Value}
theorem FD3.below {j : St} (h : FD3 B W0 z0 z1 z2 s0 s1 s2 j w) : Below B W0 w := h.1
theorem FD3.call {j : St} (hB : B ≤ W0.heap.size) (h : FD3 B W0 z0 z1 z2 s0 s1 s2 j w) (hb : Below w.heap.size w w') : FD3 B W0 z0 z1 z2 s0 s1 s2 j w' :=
  ⟨qtrans hB h.1 hb, h.2.1.kept hb, h.2.2.1.kept hb, h.2.2.2⟩
theorem Box3.ne {u : Value} (h : Box3 W0 w z0 z1 z2 (some u)) : u ≠ .pointer (some ⟨w.heap.size, 0, none⟩) := by
  obtain ⟨p, rfl, _, h4, _⟩ := h
  intro h
  injection h with h
  injection h with h
  injection h with h
  omega
theorem FD3.made1 {t : TypeId} {j : Option Value} (hB : B ≤ W0.heap.size) (h : FD3 B W0 z0 z1 z2 s0 s1 s2 (none, j, false) w) : FD3 B W0 z0 z1 z2 s0 s1 s2 (some (.pointer (some ⟨w.heap.size, 0, none⟩)), j, false) (w.alloc (.cells #[z0, z1, z2] t)) := by
  obtain ⟨h, -, h2, -⟩ := h
  have hb : Below w.heap.size w (w.alloc (.cells #[z0, z1, z2] t)) := (Below.refl _ _).alloc (Nat.le_refl _) _
  refine ⟨h.alloc (Nat.le_trans hB h.size) _, ⟨w.heap.size, rfl, h.size, by simp, by simp, by simp, by simp, by simp [go_sem], by simp [go_sem], by simp [go_sem]⟩, h2.kept hb, ?_⟩
  cases j with
  | none => trivial
  | some u => exact fun e => h2.ne e.symm
theorem FD3.made2 {t : TypeId} {j : Option Value} {b : Bool} (hB : B ≤ W0.heap.size) (h : FD3 B W0 z0 z1 z2 s0 s1 s2 (j, none, b) w) : FD3 B W0 z0 z1 z2 s0 s1 s2 (j, some (.pointer (some ⟨w.heap.size, 0, none⟩)), b) (w.alloc (.cells #[z0, z1, z2] t)) := by
  obtain ⟨h, h2, -, -⟩ := h
  have hb : Below w.heap.size w (w.alloc (.cells #[z0, z1, z2] t)) := (Below.refl _ _).alloc (Nat.le_refl _) _
  refine ⟨h.alloc (Nat.le_trans hB h.size) _, h2.kept hb, ⟨w.heap.size, rfl, h.size, by simp, by simp, by simp, by simp, by simp [go_sem], by simp [go_sem], by simp [go_sem]⟩, ?_⟩
  cases j with
  | none => trivial
  | some u => exact fun e => h2.ne e
theorem FD3.open_ {u : Value} {j : Option Value} {b : Bool} (h : FD3 B W0 z0 z1 z2 s0 s1 s2 (some u, j, b) w) : ∃ p : Nat, u = .pointer (some ⟨p, 0, none⟩) ∧ p < w.heap.size ∧ w.cell? ⟨p, 0, none⟩ = some (if b then s0 else z0) ∧ w.cell? ⟨p, 1, none⟩ = some (if b then s1 else z1) ∧ w.cell? ⟨p, 2, none⟩ = some (if b then s2 else z2) ∧ w.frozen? ⟨p, 0, none⟩ = false ∧ w.frozen? ⟨p, 1, none⟩ = false ∧ w.frozen? ⟨p, 2, none⟩ = false := by
  obtain ⟨_, ⟨p, h2, h3, h4, c⟩, _⟩ := h
  exact ⟨p, h2, h4, c⟩
theorem FD3.stored {p : Nat} {j : Option Value} (hB : B ≤ W0.heap.size) (h : FD3 B W0 z0 z1 z2 s0 s1 s2 (some (.pointer (some ⟨p, 0, none⟩)), j, false) w) : FD3 B W0 z0 z1 z2 s0 s1 s2 (some (.pointer (some ⟨p, 0, none⟩)), j, true) (((w.setCell ⟨p, 0, none⟩ s0).setCell ⟨p, 1, none⟩ s1).setCell ⟨p, 2, none⟩ s2) := by
  obtain ⟨h, ⟨p', hp, h3, h4, c0, c1, c2, f0, f1, f2⟩, h5, h6⟩ := h
  have hpp : p' = p := by
    injection hp with hp
    injection hp with hp
    injection hp with hp
    exact hp.symm
  subst hpp
  refine ⟨((h.setCell (p := ⟨p', 0, none⟩) (by simp; omega) _).setCell (p := ⟨p', 1, none⟩) (by simp; omega) _).setCell (p := ⟨p', 2, none⟩) (by simp; omega) _, ⟨p', rfl, h3, by simpa using h4, ?_, ?_, ?_, ?_, ?_, ?_⟩, ?_, h6⟩
  · go_simp
  · go_simp
  · go_simp
  · go_simp
  · go_simp
  · go_simp
  · cases j with
    | none => trivial
    | some v =>
      obtain ⟨q, hq, g3, g4, d0, d1, d2, e0, e1, e2⟩ := h5
      have hne : ¬ q = p' := fun e => h6 (by rw [hq, e])
      exact ⟨q, hq, g3, by simpa using g4, by go_simp, by go_simp, by go_simp, by go_simp, by go_simp, by go_simp⟩
end
end QG
end Go.Proofs.Ytbfbnmmgmkbieaa
