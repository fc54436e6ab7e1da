/- Plain definitions and small lemmas: what the calls of layer 1 come to, said of integers; how cells are kept below a block. -/
import Derived.Test.YtfknnnlbfdeomaaProg
import Derived.Test.YtfknnnlbfdeomaaQT
import Derived.WalkKit
import Derived.WalkSpells
import Derived.WalkLawsBesides
import Derived.RowKit3
import Derived.Below
import Derived.Deep.QuietTactic
import Derived.BigQuiet
import Derived.KernelRfl
namespace Go.Proofs.Ytfknnnlbfdeomaa
open Go.RowKit
theorem hide {p : Prop} (h : p) : Hid p := h
theorem bcell {W w1 : World} (hb : Below W.heap.size W w1) : (∀ b o, b < W.heap.size → w1.cell? ⟨b, o, none⟩ = W.cell? ⟨b, o, none⟩) ∧ (∀ b o, b < W.heap.size → w1.frozen? ⟨b, o, none⟩ = W.frozen? ⟨b, o, none⟩) :=
  ⟨fun b o h => hb.cell (p := ⟨b, o, none⟩) h, fun b o h => hb.frozen (p := ⟨b, o, none⟩) h⟩
theorem bcellB {B : Nat} {W w1 : World} (hb : Below B W w1) : (∀ b o, b < B → w1.cell? ⟨b, o, none⟩ = W.cell? ⟨b, o, none⟩) ∧ (∀ b o, b < B → w1.frozen? ⟨b, o, none⟩ = W.frozen? ⟨b, o, none⟩) :=
  ⟨fun b o h => hb.cell (p := ⟨b, o, none⟩) h, fun b o h => hb.frozen (p := ⟨b, o, none⟩) h⟩
theorem qtrans {B : Nat} {W w1 w2 : World} (hBW : B ≤ W.heap.size) (hC : Below B W w1) (hb : Below w1.heap.size w1 w2) : Below B W w2 := hC.trans (hb.mono (Nat.le_trans hBW hC.size))
theorem bdrew {n : Nat} {w w' : World} (h : Below n w w') : Below n w w'.drew := h.drew
theorem bset {n : Nat} {w w' : World} {p : Addr} {v : Value} (hp : n ≤ p.block) (h : Below n w w') : Below n w (w'.setCell p v) := h.setCell hp v
theorem ball {n : Nat} {w w' : World} {o : Obj} (hs : n ≤ w'.heap.size) (h : Below n w w') : Below n w (w'.alloc o) := h.alloc hs o
theorem bth {n m : Nat} {a b c : World} (hb : Below m b c) (hn : n ≤ m) (h : Below n a b) : Below n a c := h.trans (hb.mono hn)
/-- A span is valid. -/
def vB (lo hi : Int) : Bool := decide (-9223372036854775807 ≤ lo ∧ lo ≤ hi)
theorem vB_t {lo hi : Int} (h1 : -9223372036854775807 ≤ lo) (h2 : lo ≤ hi) : vB lo hi = true := decide_eq_true ⟨h1, h2⟩
theorem vB_f {lo hi : Int} (h : lo < -9223372036854775807 ∨ hi < lo) : vB lo hi = false := decide_eq_false (by omega)
theorem vB_tt {lo hi : Int} (h : vB lo hi = true) : -9223372036854775807 ≤ lo ∧ lo ≤ hi := of_decide_eq_true h
theorem vB_ff {lo hi : Int} (h : vB lo hi = false) : lo < -9223372036854775807 ∨ hi < lo := by have := of_decide_eq_false h; omega
def inB (lo hi n : Int) : Bool := vB lo hi && decide (lo ≤ n) && decide (n ≤ hi)
def withinB (al ah bl bh : Int) : Bool := vB al ah && vB bl bh && decide (bl ≤ al) && decide (ah ≤ bh)
def orderI (al ah bl bh : Int) : Int := if vB al ah && vB bl bh then (if ah < bl then -1 else if bh < al then 1 else 0) else 0
def chkI (lo hi : Int) : Int := if vB lo hi then 0 else 2
/-- A number of 64 bits. -/
def I64 (x : Int) : Prop := -9223372036854775808 ≤ x ∧ x ≤ 9223372036854775807
theorem i64_of_wf {x : Int} (h : (Lit.int .i64 x).wf = true) : I64 x := by
  simp [Lit.wf, IntKind.min, IntKind.max, IntKind.signed, IntKind.bits] at h
  exact ⟨by omega, by omega⟩
end Go.Proofs.Ytfknnnlbfdeomaa
