/- Packed: Base. -/
import Derived.Test.YtfgfnjckklldbaaProg
import Derived.WalkKit
import Derived.WalkSpells
import Derived.WalkLawsBesides
import Derived.RowKit3
import Derived.Below
import Derived.Deep.QuietTactic
import Derived.BigQuiet
import Derived.KernelRfl
import Derived.Test.YtfgfnjckklldbaaP1
set_option linter.unusedVariables false
set_option linter.unusedSimpArgs false
namespace Go.Proofs.Ytfgfnjckklldbaa
section
open Go.RowKit
theorem hide {p : Prop} (h : p) : Hid p := h
theorem bcell {W w1 : World} (hb : Below W.heap.size W w1) : (∀ b o, b < W.heap.size → w1.cell? ⟨b, o, none⟩ = W.cell? ⟨b, o, none⟩) ∧ (∀ b o, b < W.heap.size → w1.frozen? ⟨b, o, none⟩ = W.frozen? ⟨b, o, none⟩) :=
 ⟨fun b o h => hb.cell (p := ⟨b, o, none⟩) h, fun b o h => hb.frozen (p := ⟨b, o, none⟩) h⟩
theorem bcellB {B : Nat} {W w1 : World} (hb : Below B W w1) : (∀ b o, b < B → w1.cell? ⟨b, o, none⟩ = W.cell? ⟨b, o, none⟩) ∧ (∀ b o, b < B → w1.frozen? ⟨b, o, none⟩ = W.frozen? ⟨b, o, none⟩) :=
 ⟨fun b o h => hb.cell (p := ⟨b, o, none⟩) h, fun b o h => hb.frozen (p := ⟨b, o, none⟩) h⟩
theorem qtrans {B : Nat} {W w1 w2 : World} (hBW : B ≤ W.heap.size) (hC : Below B W w1) (hb : Below w1.heap.size w1 w2) : Below B W w2 := hC.trans (hb.mono (Nat.le_trans hBW hC.size))
theorem ball {n : Nat} {w w' : World} {o : Obj} (hs : n ≤ w'.heap.size) (h : Below n w w') : Below n w (w'.alloc o) := h.alloc hs o
theorem zw1 {C : Prop} (w v : World) (h : w.heap.size < v.heap.size) (c : w.heap.size < v.heap.size → w.heap.size ≤ v.heap.size → C) : C := c (by omega) (by omega)
theorem zw2 {C : Prop} (w v : World) (h : w.heap.size + 1 < v.heap.size) (c : w.heap.size < v.heap.size → w.heap.size ≤ v.heap.size → w.heap.size + 1 < v.heap.size → w.heap.size + 1 ≤ v.heap.size → C) : C := c (by omega) (by omega) (by omega) (by omega)
theorem zw3 {C : Prop} (w v : World) (h : w.heap.size + 1 + 1 < v.heap.size) (c : w.heap.size < v.heap.size → w.heap.size ≤ v.heap.size → w.heap.size + 1 < v.heap.size → w.heap.size + 1 ≤ v.heap.size → w.heap.size + 1 + 1 < v.heap.size → w.heap.size + 1 + 1 ≤ v.heap.size → C) : C := c (by omega) (by omega) (by omega) (by omega) (by omega) (by omega)
theorem zw4 {C : Prop} (w v : World) (h : w.heap.size + 1 + 1 + 1 < v.heap.size) (c : w.heap.size < v.heap.size → w.heap.size ≤ v.heap.size → w.heap.size + 1 < v.heap.size → w.heap.size + 1 ≤ v.heap.size → w.heap.size + 1 + 1 < v.heap.size → w.heap.size + 1 + 1 ≤ v.heap.size → w.heap.size + 1 + 1 + 1 < v.heap.size → w.heap.size + 1 + 1 + 1 ≤ v.heap.size → C) : C := c (by omega) (by omega) (by omega) (by omega) (by omega) (by omega) (by omega) (by omega)
theorem zw5 {C : Prop} (w v : World) (h : w.heap.size + 1 + 1 + 1 + 1 < v.heap.size) (c : w.heap.size < v.heap.size → w.heap.size ≤ v.heap.size → w.heap.size + 1 < v.heap.size → w.heap.size + 1 ≤ v.heap.size → w.heap.size + 1 + 1 < v.heap.size → w.heap.size + 1 + 1 ≤ v.heap.size → w.heap.size + 1 + 1 + 1 < v.heap.size → w.heap.size + 1 + 1 + 1 ≤ v.heap.size → w.heap.size + 1 + 1 + 1 + 1 < v.heap.size → w.heap.size + 1 + 1 + 1 + 1 ≤ v.heap.size → C) : C := c (by omega) (by omega) (by omega) (by omega) (by omega) (by omega) (by omega) (by omega) (by omega) (by omega)
theorem zw6 {C : Prop} (w v : World) (h : w.heap.size + 1 + 1 + 1 + 1 + 1 < v.heap.size) (c : w.heap.size < v.heap.size → w.heap.size ≤ v.heap.size → w.heap.size + 1 < v.heap.size → w.heap.size + 1 ≤ v.heap.size → w.heap.size + 1 + 1 < v.heap.size → w.heap.size + 1 + 1 ≤ v.heap.size → w.heap.size + 1 + 1 + 1 < v.heap.size → w.heap.size + 1 + 1 + 1 ≤ v.heap.size → w.heap.size + 1 + 1 + 1 + 1 < v.heap.size → w.heap.size + 1 + 1 + 1 + 1 ≤ v.heap.size → w.heap.size + 1 + 1 + 1 + 1 + 1 < v.heap.size → w.heap.size + 1 + 1 + 1 + 1 + 1 ≤ v.heap.size → C) : C := c (by omega) (by omega) (by omega) (by omega) (by omega) (by omega) (by omega) (by omega) (by omega) (by omega) (by omega) (by omega)
theorem zw7 {C : Prop} (w v : World) (h : w.heap.size + 1 + 1 + 1 + 1 + 1 + 1 < v.heap.size) (c : w.heap.size < v.heap.size → w.heap.size ≤ v.heap.size → w.heap.size + 1 < v.heap.size → w.heap.size + 1 ≤ v.heap.size → w.heap.size + 1 + 1 < v.heap.size → w.heap.size + 1 + 1 ≤ v.heap.size → w.heap.size + 1 + 1 + 1 < v.heap.size → w.heap.size + 1 + 1 + 1 ≤ v.heap.size → w.heap.size + 1 + 1 + 1 + 1 < v.heap.size → w.heap.size + 1 + 1 + 1 + 1 ≤ v.heap.size → w.heap.size + 1 + 1 + 1 + 1 + 1 < v.heap.size → w.heap.size + 1 + 1 + 1 + 1 + 1 ≤ v.heap.size → w.heap.size + 1 + 1 + 1 + 1 + 1 + 1 < v.heap.size → w.heap.size + 1 + 1 + 1 + 1 + 1 + 1 ≤ v.heap.size → C) : C := c (by omega) (by omega) (by omega) (by omega) (by omega) (by omega) (by omega) (by omega) (by omega) (by omega) (by omega) (by omega) (by omega) (by omega)
theorem zw8 {C : Prop} (w v : World) (h : w.heap.size + 1 + 1 + 1 + 1 + 1 + 1 + 1 < v.heap.size) (c : w.heap.size < v.heap.size → w.heap.size ≤ v.heap.size → w.heap.size + 1 < v.heap.size → w.heap.size + 1 ≤ v.heap.size → w.heap.size + 1 + 1 < v.heap.size → w.heap.size + 1 + 1 ≤ v.heap.size → w.heap.size + 1 + 1 + 1 < v.heap.size → w.heap.size + 1 + 1 + 1 ≤ v.heap.size → w.heap.size + 1 + 1 + 1 + 1 < v.heap.size → w.heap.size + 1 + 1 + 1 + 1 ≤ v.heap.size → w.heap.size + 1 + 1 + 1 + 1 + 1 < v.heap.size → w.heap.size + 1 + 1 + 1 + 1 + 1 ≤ v.heap.size → w.heap.size + 1 + 1 + 1 + 1 + 1 + 1 < v.heap.size → w.heap.size + 1 + 1 + 1 + 1 + 1 + 1 ≤ v.heap.size → w.heap.size + 1 + 1 + 1 + 1 + 1 + 1 + 1 < v.heap.size → w.heap.size + 1 + 1 + 1 + 1 + 1 + 1 + 1 ≤ v.heap.size → C) : C := c (by omega) (by omega) (by omega) (by omega) (by omega) (by omega) (by omega) (by omega) (by omega) (by omega) (by omega) (by omega) (by omega) (by omega) (by omega) (by omega)
theorem zce (w : World) (b k : Nat) (v : Value) (h : w.cell? ⟨b, k, none⟩ = some v) : w.cell? ⟨b, k, none⟩ = some v := h
theorem zci (w : World) (b k : Nat) (v : Int) (h : w.cell? ⟨b, k, none⟩ = some (.int .i64 v)) : w.cell? ⟨b, k, none⟩ = some (.int .i64 v) := h
theorem zcu (w : World) (b k : Nat) (v : Int) (h : w.cell? ⟨b, k, none⟩ = some (.int .u64 v)) : w.cell? ⟨b, k, none⟩ = some (.int .u64 v) := h
theorem zfe (w : World) (b k : Nat) (h : w.frozen? ⟨b, k, none⟩ = false) : w.frozen? ⟨b, k, none⟩ = false := h
theorem zb {C : Prop} (b : Nat) (v : World) (h : b < v.heap.size) (c : b < v.heap.size → b ≤ v.heap.size → C) : C := c (by omega) (by omega)
theorem bth {n m : Nat} {a b c : World} (hb : Below m b c) (hn : n ≤ m) (h : Below n a b) : Below n a c := h.trans (hb.mono hn)
theorem blw_ {n : Nat} {w w' : World} (h : Below n w w' := by repeat (first | with_reducible exact Below.refl _ _ | with_reducible refine bdrew ?_ | ((with_reducible first | refine bset ?_ ?_ | refine ball ?_ ?_ | refine bth (by assumption) ?_ ?_); first | omega | (simp <;> omega)))) : Below n w w' := h
def I64 (x : Int) : Prop := -9223372036854775808 ≤ x ∧ x ≤ 9223372036854775807
theorem i64_of_wf {x : Int} (h : (Lit.int .i64 x).wf = true) : I64 x := by
 simp [Lit.wf, IntKind.min, IntKind.max, IntKind.signed, IntKind.bits] at h
 exact ⟨by omega, by omega⟩
end
end Go.Proofs.Ytfgfnjckklldbaa
