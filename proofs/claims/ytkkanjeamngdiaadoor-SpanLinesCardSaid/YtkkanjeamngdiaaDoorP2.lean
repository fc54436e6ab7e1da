/- Packed: Base Wide Ask Ask2 Out Sum Bits Div DivA DivB Sets QF QG QG3 Abs Pair PairV. -/
import Derived.Test.YtkkanjeamngdiaaDoorProg
import Derived.WalkKit
import Derived.WalkSpells
import Derived.WalkLawsBesides
import Derived.RowKit3
import Derived.Below
import Derived.Deep.QuietTactic
import Derived.BigQuiet
import Derived.KernelRfl
import Derived.Test.YtkkanjeamngdiaaDoorP1
set_option linter.unusedVariables false
set_option linter.unusedSimpArgs false
namespace Go.Proofs.YtkkanjeamngdiaaDoor
section
open Go.RowKit
theorem hide {p : Prop} (h : p) : Hid p := h
theorem bcell {W w1 : World} (hb : Below W.heap.size W w1) : (∀ b o, b < W.heap.size → w1.cell? ⟨b, o, none⟩ = W.cell? ⟨b, o, none⟩) ∧ (∀ b o, b < W.heap.size → w1.frozen? ⟨b, o, none⟩ = W.frozen? ⟨b, o, none⟩) :=
 ⟨fun b o h => hb.cell (p := ⟨b, o, none⟩) h, fun b o h => hb.frozen (p := ⟨b, o, none⟩) h⟩
theorem bcellB {B : Nat} {W w1 : World} (hb : Below B W w1) : (∀ b o, b < B → w1.cell? ⟨b, o, none⟩ = W.cell? ⟨b, o, none⟩) ∧ (∀ b o, b < B → w1.frozen? ⟨b, o, none⟩ = W.frozen? ⟨b, o, none⟩) :=
 ⟨fun b o h => hb.cell (p := ⟨b, o, none⟩) h, fun b o h => hb.frozen (p := ⟨b, o, none⟩) h⟩
theorem qtrans {B : Nat} {W w1 w2 : World} (hBW : B ≤ W.heap.size) (hC : Below B W w1) (hb : Below w1.heap.size w1 w2) : Below B W w2 := hC.trans (hb.mono (Nat.le_trans hBW hC.size))
theorem bdrew {n : Nat} {w w' : World} (h : Below n w w') : Below n w w'.drew := h.drew
theorem bset {n : Nat} {w w' : World} {p : Addr} {v : Value} (hp : n ≤ p.block) (h : Below n w w') : Below n w (w'.setCell p v) := h.setCell hp v
theorem ball {n : Nat} {w w' : World} {o : Obj} (hs : n ≤ w'.heap.size) (h : Below n w w') : Below n w (w'.alloc o) := h.alloc hs o
theorem zw1 {C : Prop} (w v : World) (h : w.heap.size < v.heap.size) (c : w.heap.size < v.heap.size → w.heap.size ≤ v.heap.size → C) : C := c (by omega) (by omega)
theorem zw2 {C : Prop} (w v : World) (h : w.heap.size + 1 < v.heap.size) (c : w.heap.size < v.heap.size → w.heap.size ≤ v.heap.size → w.heap.size + 1 < v.heap.size → w.heap.size + 1 ≤ v.heap.size → C) : C := c (by omega) (by omega) (by omega) (by omega)
theorem zw3 {C : Prop} (w v : World) (h : w.heap.size + 1 + 1 < v.heap.size) (c : w.heap.size < v.heap.size → w.heap.size ≤ v.heap.size → w.heap.size + 1 < v.heap.size → w.heap.size + 1 ≤ v.heap.size → w.heap.size + 1 + 1 < v.heap.size → w.heap.size + 1 + 1 ≤ v.heap.size → C) : C := c (by omega) (by omega) (by omega) (by omega) (by omega) (by omega)
theorem zw4 {C : Prop} (w v : World) (h : w.heap.size + 1 + 1 + 1 < v.heap.size) (c : w.heap.size < v.heap.size → w.heap.size ≤ v.heap.size → w.heap.size + 1 < v.heap.size → w.heap.size + 1 ≤ v.heap.size → w.heap.size + 1 + 1 < v.heap.size → w.heap.size + 1 + 1 ≤ v.heap.size → w.heap.size + 1 + 1 + 1 < v.heap.size → w.heap.size + 1 + 1 + 1 ≤ v.heap.size → C) : C := c (by omega) (by omega) (by omega) (by omega) (by omega) (by omega) (by omega) (by omega)
theorem zw5 {C : Prop} (w v : World) (h : w.heap.size + 1 + 1 + 1 + 1 < v.heap.size) (c : w.heap.size < v.heap.size → w.heap.size ≤ v.heap.size → w.heap.size + 1 < v.heap.size → w.heap.size + 1 ≤ v.heap.size → w.heap.size + 1 + 1 < v.heap.size → w.heap.size + 1 + 1 ≤ v.heap.size → w.heap.size + 1 + 1 + 1 < v.heap.size → w.heap.size + 1 + 1 + 1 ≤ v.heap.size → w.heap.size + 1 + 1 + 1 + 1 < v.heap.size → w.heap.size + 1 + 1 + 1 + 1 ≤ v.heap.size → C) : C := c (by omega) (by omega) (by omega) (by omega) (by omega) (by omega) (by omega) (by omega) (by omega) (by omega)
theorem zw6 {C : Prop} (w v : World) (h : w.heap.size + 1 + 1 + 1 + 1 + 1 < v.heap.size) (c : w.heap.size < v.heap.size → w.heap.size ≤ v.heap.size → w.heap.size + 1 < v.heap.size → w.heap.size + 1 ≤ v.heap.size → w.heap.size + 1 + 1 < v.heap.size → w.heap.size + 1 + 1 ≤ v.heap.size → w.heap.size + 1 + 1 + 1 < v.heap.size → w.heap.size + 1 + 1 + 1 ≤ v.heap.size → w.heap.size + 1 + 1 + 1 + 1 < v.heap.size → w.heap.size + 1 + 1 + 1 + 1 ≤ v.heap.size → w.heap.size + 1 + 1 + 1 + 1 + 1 < v.heap.size → w.heap.size + 1 + 1 + 1 + 1 + 1 ≤ v.heap.size → C) : C := c (by omega) (by omega) (by omega) (by omega) (by omega) (by omega) (by omega) (by omega) (by omega) (by omega) (by omega) (by omega)
theorem zw7 {C : Prop} (w v : World) (h : w.heap.size + 1 + 1 + 1 + 1 + 1 + 1 < v.heap.size) (c : w.heap.size < v.heap.size → w.heap.size ≤ v.heap.size → w.heap.size + 1 < v.heap.size → w.heap.size + 1 ≤ v.heap.size → w.heap.size + 1 + 1 < v.heap.size → w.heap.size + 1 + 1 ≤ v.heap.size → w.heap.size + 1 + 1 + 1 < v.heap.size → w.heap.size + 1 + 1 + 1 ≤ v.heap.size → w.heap.size + 1 + 1 + 1 + 1 < v.heap.size → w.heap.size + 1 + 1 + 1 + 1 ≤ v.heap.size → w.heap.size + 1 + 1 + 1 + 1 + 1 < v.heap.size → w.heap.size + 1 + 1 + 1 + 1 + 1 ≤ v.heap.size → w.heap.size + 1 + 1 + 1 + 1 + 1 + 1 < v.heap.size → w.heap.size + 1 + 1 + 1 + 1 + 1 + 1 ≤ v.heap.size → C) : C := c (by omega) (by omega) (by omega) (by omega) (by omega) (by omega) (by omega) (by omega) (by omega) (by omega) (by omega) (by omega) (by omega) (by omega)
theorem zw8 {C : Prop} (w v : World) (h : w.heap.size + 1 + 1 + 1 + 1 + 1 + 1 + 1 < v.heap.size) (c : w.heap.size < v.heap.size → w.heap.size ≤ v.heap.size → w.heap.size + 1 < v.heap.size → w.heap.size + 1 ≤ v.heap.size → w.heap.size + 1 + 1 < v.heap.size → w.heap.size + 1 + 1 ≤ v.heap.size → w.heap.size + 1 + 1 + 1 < v.heap.size → w.heap.size + 1 + 1 + 1 ≤ v.heap.size → w.heap.size + 1 + 1 + 1 + 1 < v.heap.size → w.heap.size + 1 + 1 + 1 + 1 ≤ v.heap.size → w.heap.size + 1 + 1 + 1 + 1 + 1 < v.heap.size → w.heap.size + 1 + 1 + 1 + 1 + 1 ≤ v.heap.size → w.heap.size + 1 + 1 + 1 + 1 + 1 + 1 < v.heap.size → w.heap.size + 1 + 1 + 1 + 1 + 1 + 1 ≤ v.heap.size → w.heap.size + 1 + 1 + 1 + 1 + 1 + 1 + 1 < v.heap.size → w.heap.size + 1 + 1 + 1 + 1 + 1 + 1 + 1 ≤ v.heap.size → C) : C := c (by omega) (by omega) (by omega) (by omega) (by omega) (by omega) (by omega) (by omega) (by omega) (by omega) (by omega) (by omega) (by omega) (by omega) (by omega) (by omega)
theorem zce (w : World) (b k : Nat) (v : Value) (h : w.cell? ⟨b, k, none⟩ = some v) : w.cell? ⟨b, k, none⟩ = some v := h
theorem zci (w : World) (b k : Nat) (v : Int) (h : w.cell? ⟨b, k, none⟩ = some (.int .i64 v)) : w.cell? ⟨b, k, none⟩ = some (.int .i64 v) := h
theorem zcu (w : World) (b k : Nat) (v : Int) (h : w.cell? ⟨b, k, none⟩ = some (.int .u64 v)) : w.cell? ⟨b, k, none⟩ = some (.int .u64 v) := h
theorem zfe (w : World) (b k : Nat) (h : w.frozen? ⟨b, k, none⟩ = false) : w.frozen? ⟨b, k, none⟩ = false := h
theorem zb {C : Prop} (b : Nat) (v : World) (h : b < v.heap.size) (c : b < v.heap.size → b ≤ v.heap.size → C) : C := c (by omega) (by omega)
theorem bth {n m : Nat} {a b c : World} (hb : Below m b c) (hn : n ≤ m) (h : Below n a b) : Below n a c := h.trans (hb.mono hn)
theorem blw_ {n : Nat} {w w' : World} (h : Below n w w' := by repeat (first | with_reducible exact Below.refl _ _ | with_reducible refine bdrew ?_ | ((with_reducible first | refine bset ?_ ?_ | refine ball ?_ ?_ | refine bth (by assumption) ?_ ?_); first | omega | (simp <;> omega)))) : Below n w w' := h
def vB (lo hi : Int) : Bool := decide (-9223372036854775807 ≤ lo ∧ lo ≤ hi)
theorem vB_tt {lo hi : Int} (h : vB lo hi = true) : -9223372036854775807 ≤ lo ∧ lo ≤ hi := of_decide_eq_true h
theorem vB_ff {lo hi : Int} (h : vB lo hi = false) : lo < -9223372036854775807 ∨ hi < lo := by have := of_decide_eq_false h; omega
def inB (lo hi n : Int) : Bool := vB lo hi && decide (lo ≤ n) && decide (n ≤ hi)
def withinB (al ah bl bh : Int) : Bool := vB al ah && vB bl bh && decide (bl ≤ al) && decide (ah ≤ bh)
def chkI (lo hi : Int) : Int := if vB lo hi then 0 else 2
def I64 (x : Int) : Prop := -9223372036854775808 ≤ x ∧ x ≤ 9223372036854775807
theorem i64_of_wf {x : Int} (h : (Lit.int .i64 x).wf = true) : I64 x := by
 simp [Lit.wf, IntKind.min, IntKind.max, IntKind.signed, IntKind.bits] at h
 exact ⟨by omega, by omega⟩
end
section
open Go.RowKit

theorem u64w (n : Int) : IntKind.u64.wrap n = n % 18446744073709551616 := IntKind.wrap_u64 n
end
section
open Go.RowKit

theorem check_yes (lo hi : Int) (h : vB lo hi = true) (w : World) :
  Calls Tryd.prog 6 #[.agg #[.int .i64 (lo), .int .i64 (hi)]] w fun e w' => e = .returned (.int .i64 0) ∧ Below w.heap.size w w' := by
 obtain ⟨h1, h2⟩ := vB_tt h
 have g1 : (lo == -9223372036854775808) = false := by simp; omega
 have g2 : ¬ hi < lo := by omega
 clear h
 go_enter Tryd.func6, Tryd.ntmps6
 go_wp2
 go_ret
 exact ⟨rfl, (Below.refl _ _).alloc (Nat.le_refl _) _⟩

theorem check_no (lo hi : Int) (h0 : -9223372036854775808 ≤ lo) (h : vB lo hi = false) (w : World) :
  Calls Tryd.prog 6 #[.agg #[.int .i64 (lo), .int .i64 (hi)]] w fun e w' => e = .returned (.int .i64 2) ∧ Below w.heap.size w w' := by
 have h := vB_ff h
 by_cases g : lo = -9223372036854775808
 ·have g1 : (lo == -9223372036854775808) = true := by simpa using g
  clear h g
  go_enter Tryd.func6, Tryd.ntmps6
  go_wp2
  go_ret
  exact ⟨rfl, (Below.refl _ _).alloc (Nat.le_refl _) _⟩
 ·have g1 : (lo == -9223372036854775808) = false := by simpa using g
  have g2 : hi < lo := by omega
  clear h g
  go_enter Tryd.func6, Tryd.ntmps6
  go_wp2
  go_ret
  exact ⟨rfl, (Below.refl _ _).alloc (Nat.le_refl _) _⟩

theorem check_any (lo hi : Int) (h0 : -9223372036854775808 ≤ lo) (w : World) :
  Calls Tryd.prog 6 #[.agg #[.int .i64 (lo), .int .i64 (hi)]] w fun e w' => e = .returned (.int .i64 (chkI lo hi)) ∧ Below w.heap.size w w' := by
 unfold chkI
 cases h : vB lo hi
 ·exact check_no lo hi h0 h w
 ·exact check_yes lo hi h w

theorem invalid_no (L H : Nat → Int) (n b off cap : Nat) (hn : n ≤ 1000000) (w : World) (hV : ∀ i, i < n → vB (L i) (H i) = true)
  (hc : ∀ i, i < n → w.cell? ⟨b, off + i * 2, none⟩ = some (.int .i64 (L i)) ∧ w.cell? ⟨b, off + i * 2 + 1, none⟩ = some (.int .i64 (H i))) (hb : n = 0 ∨ b < w.heap.size) :
  Calls Tryd.prog 16 #[.slice (some ⟨b, off, none⟩) n cap] w fun e w' => e = .returned (.bool false) ∧ Below w.heap.size w w' := by
 have HC := hide hc
 have HV := hide hV
 have HB := hide hb
 clear hc hV hb
 go_enter Tryd.func16, Tryd.ntmps16
 go_wp2
 go_loopw [7] (fun i wr => ∃ k : Nat, k ≤ n ∧ i = .int .i64 k ∧ Below w.heap.size w wr) (fun i _ => n - (intOf i).toNat)
 case atStart => exact ⟨0, Nat.zero_le _, rfl, Below.refl _ _⟩
 case round =>
  obtain ⟨k, hk, rfl, hB⟩ := hrel
  by_cases hlt : k < n
  ·obtain ⟨c1, c2⟩ := HC.out k hlt
   have HV1 := hide (HV.out k hlt)
   have hbw : b < w.heap.size := by have := HB.out; omega
   have c1' := (hB.cell (p := ⟨b, off + k * 2, none⟩) hbw).trans c1
   have c2' := (hB.cell (p := ⟨b, off + k * 2 + 1, none⟩) hbw).trans c2
   clear c1 c2
   go_wp2_with (go_at_call 6; refine (check_yes _ _ HV1.out _).mono ?_; rintro e w1 ⟨rfl, hb1⟩)
   go_roundw
   case rel => exact ⟨k + 1, by omega, by go_num, hB.trans (((Below.refl _ _).alloc (by have := hB.size; omega) _).trans (hb1.mono (by have := hB.size; simp; omega)))⟩
   case measure => simp [intOf]; omega
  ·go_wp2
   go_ret
   exact ⟨rfl, hB⟩

theorem invalid_yes (L H : Nat → Int) (n m b off cap : Nat) (hn : n ≤ 1000000) (w : World) (hm : m < n) (hV : ∀ i, i < m → vB (L i) (H i) = true) (hM : vB (L m) (H m) = false) (hL : ∀ i, i < n → -9223372036854775808 ≤ L i)
  (hc : ∀ i, i < n → w.cell? ⟨b, off + i * 2, none⟩ = some (.int .i64 (L i)) ∧ w.cell? ⟨b, off + i * 2 + 1, none⟩ = some (.int .i64 (H i))) (hb : b < w.heap.size) :
  Calls Tryd.prog 16 #[.slice (some ⟨b, off, none⟩) n cap] w fun e w' => e = .returned (.bool true) ∧ Below w.heap.size w w' := by
 have HC := hide hc
 have HV := hide hV
 have HM := hide hM
 have HL := hide hL
 clear hc hV hM hL
 go_enter Tryd.func16, Tryd.ntmps16
 go_wp2
 go_loopw [7] (fun i wr => ∃ k : Nat, k ≤ m ∧ i = .int .i64 k ∧ Below w.heap.size w wr) (fun i _ => n - (intOf i).toNat)
 case atStart => exact ⟨0, Nat.zero_le _, rfl, Below.refl _ _⟩
 case round =>
  obtain ⟨k, hk, rfl, hB⟩ := hrel
  have hlt : k < n := by omega
  obtain ⟨c1, c2⟩ := HC.out k hlt
  have c1' := (hB.cell (p := ⟨b, off + k * 2, none⟩) hb).trans c1
  have c2' := (hB.cell (p := ⟨b, off + k * 2 + 1, none⟩) hb).trans c2
  clear c1 c2
  by_cases hkm : k < m
  ·have HV1 := hide (HV.out k hkm)
   go_wp2_with (go_at_call 6; refine (check_yes _ _ HV1.out _).mono ?_; rintro e w1 ⟨rfl, hb1⟩)
   go_roundw
   case rel => exact ⟨k + 1, by omega, by go_num, hB.trans (((Below.refl _ _).alloc (by have := hB.size; omega) _).trans (hb1.mono (by have := hB.size; simp; omega)))⟩
   case measure => simp [intOf]; omega
  ·obtain rfl : k = m := by omega
   have HL1 := hide (HL.out k hlt)
   go_wp2_with (go_at_call 6; refine (check_no _ _ HL1.out HM.out _).mono ?_; rintro e w1 ⟨rfl, hb1⟩)
   go_ret
   exact ⟨rfl, hB.trans (((Below.refl _ _).alloc (by have := hB.size; omega) _).trans (hb1.mono (by have := hB.size; simp; omega)))⟩

theorem invalid1 (lo hi : Int) (b cap : Nat) (w : World) (h0 : -9223372036854775808 ≤ lo) (hc0 : w.cell? ⟨b, 0, none⟩ = some (.int .i64 lo)) (hc1 : w.cell? ⟨b, 1, none⟩ = some (.int .i64 hi)) (hb : b < w.heap.size) (r : Bool) (hr : vB lo hi = !r) :
  Calls Tryd.prog 16 #[.slice (some ⟨b, 0, none⟩) 1 cap] w fun e w' => e = .returned (.bool r) ∧ Below w.heap.size w w' := by
 cases r
 ·exact invalid_no (fun _ => lo) (fun _ => hi) 1 b 0 cap (by omega) w (fun _ _ => by simpa using hr) (fun i hi => by (have h0i : i = 0 := by omega); subst h0i; exact ⟨hc0, hc1⟩) (.inr hb)
 ·exact invalid_yes (fun _ => lo) (fun _ => hi) 1 0 b 0 cap (by omega) w (by omega) (fun i hi => by omega) (by simpa using hr) (fun _ _ => h0) (fun i hi => by (have h0i : i = 0 := by omega); subst h0i; exact ⟨hc0, hc1⟩) hb

def pick2 (a b : Int) : Nat → Int
 | 0 => a
 | _ => b
theorem invalid2 (al ah bl bh : Int) (b cap : Nat) (w : World) (h0 : -9223372036854775808 ≤ al) (h1 : -9223372036854775808 ≤ bl) (hc0 : w.cell? ⟨b, 0, none⟩ = some (.int .i64 al)) (hc1 : w.cell? ⟨b, 1, none⟩ = some (.int .i64 ah))
  (hc2 : w.cell? ⟨b, 2, none⟩ = some (.int .i64 bl)) (hc3 : w.cell? ⟨b, 3, none⟩ = some (.int .i64 bh)) (hb : b < w.heap.size) (r : Bool) (hr : (vB al ah && vB bl bh) = !r) :
  Calls Tryd.prog 16 #[.slice (some ⟨b, 0, none⟩) 2 cap] w fun e w' => e = .returned (.bool r) ∧ Below w.heap.size w w' := by
 have hcs : ∀ i, i < 2 → w.cell? ⟨b, 0 + i * 2, none⟩ = some (.int .i64 (pick2 al bl i)) ∧ w.cell? ⟨b, 0 + i * 2 + 1, none⟩ = some (.int .i64 (pick2 ah bh i)) := by
  intro i hi
  match i, hi with
  | 0, _ => exact ⟨hc0, hc1⟩
  | 1, _ => exact ⟨hc2, hc3⟩
 cases r
 ·have hr : vB al ah = true ∧ vB bl bh = true := by simpa using hr
  refine invalid_no (pick2 al bl) (pick2 ah bh) 2 b 0 cap (by omega) w (fun i hi => ?_) hcs (.inr hb)
  match i, hi with
  | 0, _ => exact hr.1
  | 1, _ => exact hr.2
 ·have hL : ∀ i, i < 2 → -9223372036854775808 ≤ pick2 al bl i := fun i hi => by
   match i, hi with
   | 0, _ => exact h0
   | 1, _ => exact h1
  cases ha : vB al ah
  ·exact invalid_yes (pick2 al bl) (pick2 ah bh) 2 0 b 0 cap (by omega) w (by omega) (fun i hi => by omega) ha hL hcs hb
  ·have hb' : vB bl bh = false := by simpa [ha] using hr
   exact invalid_yes (pick2 al bl) (pick2 ah bh) 2 1 b 0 cap (by omega) w (by omega) (fun i hi => by (have h0i : i = 0 := by omega); subst h0i; exact ha) hb' hL hcs hb


theorem in_any (lo hi n : Int) (h0 : -9223372036854775808 ≤ lo) (w : World) :
  Calls Tryd.prog 15 #[.agg #[.int .i64 (lo), .int .i64 (hi)], .int .i64 n] w fun e w' => e = .returned (.bool (inB lo hi n)) ∧ Below w.heap.size w w' := by
 by_cases hv : vB lo hi = true
 ·have HV := hide hv
  by_cases g1 : lo ≤ n
  ·by_cases g2 : n ≤ hi
   ·have HR := hide (show inB lo hi n = true by simp [inB, hv, g1, g2])
    clear hv
    go_enter Tryd.func15, Tryd.ntmps15
    go_wp2_with (go_at_call 16; refine (invalid1 lo hi _ _ _ h0 (by simp) (by simp) (by simp) false (by simpa using HV.out)).mono ?_; rintro e w1 ⟨rfl, hb1⟩; obtain ⟨hc1, hf1⟩ := bcell hb1; have hz1 := hb1.size)
    go_ret
    exact ⟨by rw [HR.out]; first | rfl | (simp; omega), blw_⟩
   ·have HR := hide (show inB lo hi n = false by simp [inB, hv, g1, g2])
    clear hv
    go_enter Tryd.func15, Tryd.ntmps15
    go_wp2_with (go_at_call 16; refine (invalid1 lo hi _ _ _ h0 (by simp) (by simp) (by simp) false (by simpa using HV.out)).mono ?_; rintro e w1 ⟨rfl, hb1⟩; obtain ⟨hc1, hf1⟩ := bcell hb1; have hz1 := hb1.size)
    go_ret
    exact ⟨by rw [HR.out]; first | rfl | (simp; omega), blw_⟩
  ·have HR := hide (show inB lo hi n = false by simp [inB, hv, g1])
   clear hv
   go_enter Tryd.func15, Tryd.ntmps15
   go_wp2_with (go_at_call 16; refine (invalid1 lo hi _ _ _ h0 (by simp) (by simp) (by simp) false (by simpa using HV.out)).mono ?_; rintro e w1 ⟨rfl, hb1⟩; obtain ⟨hc1, hf1⟩ := bcell hb1; have hz1 := hb1.size)
   go_ret
   exact ⟨by rw [HR.out]; first | rfl | (simp; omega), blw_⟩
 ·have hv : vB lo hi = false := by simpa using hv
  have HV := hide hv
  have HR := hide (show inB lo hi n = false by simp [inB, hv])
  clear hv
  go_enter Tryd.func15, Tryd.ntmps15
  go_wp2_with (go_at_call 16; refine (invalid1 lo hi _ _ _ h0 (by simp) (by simp) (by simp) true (by simpa using HV.out)).mono ?_; rintro e w1 ⟨rfl, hb1⟩; obtain ⟨hc1, hf1⟩ := bcell hb1; have hz1 := hb1.size)
  go_ret
  exact ⟨by rw [HR.out]; first | rfl | (simp; omega), blw_⟩
end
section
open Go.RowKit

theorem within_any (al ah bl bh : Int) (h0 : -9223372036854775808 ≤ al) (h1 : -9223372036854775808 ≤ bl) (w : World) :
  Calls Tryd.prog 9 #[.agg #[.int .i64 (al), .int .i64 (ah)], .agg #[.int .i64 (bl), .int .i64 (bh)]] w fun e w' => e = .returned (.bool (withinB al ah bl bh)) ∧ Below w.heap.size w w' := by
 by_cases hv : (vB al ah && vB bl bh) = true
 ·have HV := hide hv
  by_cases g1 : bl ≤ al
  ·by_cases g2 : ah ≤ bh
   ·have HR := hide (show withinB al ah bl bh = true by simp [withinB, g1, g2]; simpa using hv)
    clear hv
    go_enter Tryd.func9, Tryd.ntmps9
    go_wp2_with (go_at_call 16; refine (invalid2 al ah bl bh _ _ _ h0 h1 (by go_simp) (by go_simp) (by go_simp) (by go_simp) (by go_simp) false (by simpa using HV.out)).mono ?_; rintro e w1 ⟨rfl, hb1⟩; obtain ⟨hc1, hf1⟩ := bcell hb1; have hz1 := hb1.size; try simp only [World.size_alloc] at hz1)
    go_ret
    exact ⟨by rw [HR.out]; first | rfl | (simp; omega), blw_⟩
   ·have HR := hide (show withinB al ah bl bh = false by simp [withinB, g1, g2])
    clear hv
    go_enter Tryd.func9, Tryd.ntmps9
    go_wp2_with (go_at_call 16; refine (invalid2 al ah bl bh _ _ _ h0 h1 (by go_simp) (by go_simp) (by go_simp) (by go_simp) (by go_simp) false (by simpa using HV.out)).mono ?_; rintro e w1 ⟨rfl, hb1⟩; obtain ⟨hc1, hf1⟩ := bcell hb1; have hz1 := hb1.size; try simp only [World.size_alloc] at hz1)
    go_ret
    exact ⟨by rw [HR.out]; first | rfl | (simp; omega), blw_⟩
  ·have HR := hide (show withinB al ah bl bh = false by simp [withinB, g1])
   have g1' : al < bl := by omega
   clear hv g1
   go_enter Tryd.func9, Tryd.ntmps9
   go_wp2_with (go_at_call 16; refine (invalid2 al ah bl bh _ _ _ h0 h1 (by go_simp) (by go_simp) (by go_simp) (by go_simp) (by go_simp) false (by simpa using HV.out)).mono ?_; rintro e w1 ⟨rfl, hb1⟩; obtain ⟨hc1, hf1⟩ := bcell hb1; have hz1 := hb1.size; try simp only [World.size_alloc] at hz1)
   go_ret
   exact ⟨by rw [HR.out]; first | rfl | (simp; omega), blw_⟩
 ·have hv : (vB al ah && vB bl bh) = false := by simpa using hv
  have HV := hide hv
  have HR := hide (show withinB al ah bl bh = false by simp [withinB, hv])
  clear hv
  go_enter Tryd.func9, Tryd.ntmps9
  go_wp2_with (go_at_call 16; refine (invalid2 al ah bl bh _ _ _ h0 h1 (by go_simp) (by go_simp) (by go_simp) (by go_simp) (by go_simp) true (by simpa using HV.out)).mono ?_; rintro e w1 ⟨rfl, hb1⟩; obtain ⟨hc1, hf1⟩ := bcell hb1; have hz1 := hb1.size; try simp only [World.size_alloc] at hz1)
  go_ret
  exact ⟨by rw [HR.out]; rfl, blw_⟩
end
section
open Go.RowKit
def fits (lo hi : Int) : Bool := decide (-9223372036854775807 ≤ lo ∧ lo ≤ 9223372036854775807 ∧ -9223372036854775807 ≤ hi ∧ hi ≤ 9223372036854775807)
def oLo (lo hi : Int) : Int := if fits lo hi then lo else 0
def oHi (lo hi : Int) : Int := if fits lo hi then hi else 0
def oE (lo hi : Int) : Int := if fits lo hi then 0 else 4
def okI (v : Bool) (x : Int) : Int := if v then x else 0
def errE (v : Bool) (e : Int) : Int := if v then e else 2
theorem out_t {lo hi : Int} (h : fits lo hi = true) : oLo lo hi = lo ∧ oHi lo hi = hi ∧ oE lo hi = 0 := by simp [oLo, oHi, oE, h]
theorem out_f {lo hi : Int} (h : fits lo hi = false) : oLo lo hi = 0 ∧ oHi lo hi = 0 ∧ oE lo hi = 4 := by simp [oLo, oHi, oE, h]
theorem ok_t (x : Int) : okI true x = x := rfl
theorem ok_f (x : Int) : okI false x = 0 := rfl
theorem err_t (x : Int) : errE true x = x := rfl
theorem err_f (x : Int) : errE false x = 2 := rfl
end
section
open Go.RowKit
end
section
open Go.RowKit
end
section
open Go.RowKit
theorem quo_u64 {a b : Int} (ha : 0 ≤ a ∧ a < 18446744073709551616) (hb : 0 < b) : IntKind.u64.wrap (a.tdiv b) = a / b ∧ a.tmod b = a % b := by
 have h1 := Int.ediv_nonneg ha.1 (Int.le_of_lt hb)
 have h2 := Int.ediv_le_self b ha.1
 have h3 := Int.emod_nonneg a (show b ≠ 0 by omega)
 have h4 : a % b ≤ a := by
  have := Int.emod_add_mul_ediv a b
  have := Int.mul_nonneg (Int.le_of_lt hb) h1
  omega
 rw [Int.tdiv_eq_ediv_of_nonneg ha.1, Int.tmod_eq_emod_of_nonneg ha.1, u64w]
 generalize a / b = x at *
 exact ⟨by omega, rfl⟩
end
section
open Go.RowKit
end
section
open Go.RowKit
end
section
open Go.RowKit
def mi (x y : Int) : Int := if y < x then y else x
def mx (x y : Int) : Int := if x < y then y else x
theorem mi_eq (x y : Int) : (if y < x then y else x) = mi x y := rfl
theorem mx_eq (x y : Int) : (if x < y then y else x) = mx x y := rfl
theorem sboth (al ah bl bh : Int) (w : World) :
  Calls Tryd.prog 17 #[.agg #[.int .i64 (al), .int .i64 (ah)], .agg #[.int .i64 (bl), .int .i64 (bh)]] w fun e w' => e = .returned (.agg #[.int .i64 (mi al bl), .int .i64 (mx ah bh)]) ∧ Below w.heap.size w w' := by
 have m1 := mi_eq al bl
 have m2 := mx_eq ah bh
 go_enter Tryd.func17, Tryd.ntmps17
 go_wp2
 refine bodyPost_ret (v := .agg #[.int .i64 (mi al bl), .int .i64 (mx ah bh)]) (by simp only [results, Tryd.results17]; go_simp) rfl ⟨rfl, blw_⟩
end
section
namespace QF
section
variable {P : Program} {ops : Array Oper} {md : Region.Mode} {D : Option Value → World → Prop}

def floatRes (r : Result Next) (R : Value → World → Prop) : Prop :=
 match r with
 | .ok (.value u) w' => R u w'
 | .ok .skip w' => R undef w'
 | _ => False
theorem floatRes_mono {r : Result Next} {R R' : Value → World → Prop} (h : ∀ u w, R u w → R' u w) (hr : floatRes r R) : floatRes r R' := by
 unfold floatRes at *
 split <;> first | exact h _ _ (by simpa using hr) | (simp_all)

def goF (P : Program) (md : Region.Mode) (ops : Array Oper) (D : Option Value → World → Prop) (n : Nat) (L : Option Value → Array Bool → Act → Prop) : Nat → Option Value → Array Bool → Act → Prop
 | 0, fl, done, a => L fl done a
 | k + 1, fl, done, a => Region.ready md ops done ≠ [] ∧ ∀ i ∈ Region.ready md ops done, ∀ o, ops[i]? = some o →
   (i < n ∧ ∃ v, (∀ j, YieldsIn P ops (D j) o v a) ∧ goF P md ops D n L k fl (done.setIfInBounds i true) (a.put o.dst v)) ∨
   (i = n ∧ fl = none ∧ Region.wanted o (yielded ops a.tmps) = true ∧ ∀ w, D none w → floatRes ((execOp a.eval o).run P w) fun u w' => D (some u) w' ∧ goF P md ops D n L k (some u) (done.setIfInBounds i true) (a.put o.dst u))

theorem any_of_goF {n g : Nat} {L : Option Value → Array Bool → Act → Prop} {R : Exit → Act → World → Prop} (hL : ∀ fl done a w, D fl w → L fl done a → wpAny P md ops R g done a w) (k : Nat) :
  ∀ (fl : Option Value) (done : Array Bool) (a : Act) (w : World), D fl w → goF P md ops D n L k fl done a → wpAny P md ops R (k + g) done a w := by
 induction k with
 | zero => intro fl done a w hw h; rw [Nat.zero_add]; exact hL _ _ _ _ hw h
 | succ k ih =>
  intro fl done a w hw h
  rw [show k + 1 + g = (k + g) + 1 by omega]
  refine ⟨fun h0 => absurd h0 h.1, fun i hi => ?_⟩
  obtain ⟨_, o, ho, _⟩ := mem_ready.1 hi
  rcases h.2 i hi o ho with ⟨_, v, hv, hk⟩ | ⟨rfl, rfl, hwant, hf⟩
  ·exact wpOp_of_qOp (C := D fl) hw (fun a' w' hw' h' => ih fl _ a' w' hw' h') ((hv fl).qOp ho hk)
  ·have hr := hf w hw
   unfold wpOp
   simp only [ho, hwant, if_true]
   left
   unfold Oper.wp
   generalize (execOp a.eval o).run P w = r at hr
   unfold floatRes at hr
   split at hr
   ·exact ih _ _ _ _ hr.1 hr.2
   ·exact ih _ _ _ _ hr.1 hr.2
   ·exact hr.elim

theorem yields_back {o oi : Oper} {u v : Value} {a : Act} {C : World → Prop} (hap : oi.apart ops o = true) (hso : ∀ cs b, o.op ≠ .select cs b) (h : YieldsIn P ops C o u (a.put oi.dst v)) : YieldsIn P ops C o u a := by
 obtain ⟨h1, _, _⟩ := Oper.apart_spec hap
 exact h.of_same (execOp_put o hso a oi.dst v h1).symm (wanted_put o a oi.dst v h1).symm
theorem yields_on {o oi : Oper} {u v : Value} {a : Act} {C : World → Prop} (hap : oi.apart ops o = true) (hsi : ∀ cs b, oi.op ≠ .select cs b) (h : YieldsIn P ops C oi v a) : YieldsIn P ops C oi v (a.put o.dst u) := by
 obtain ⟨_, _, h3⟩ := Oper.apart_spec hap
 exact h.of_same (execOp_put oi hsi a o.dst u h3) (wanted_put oi a o.dst u h3)

theorem takeF {n i : Nat} {oi : Oper} {v : Value} {L : Option Value → Array Bool → Act → Prop} (hi : ops[i]? = some oi) (hsel : ∀ (j : Nat) (o : Oper) cs b, ops[j]? = some o → o.op ≠ .select cs b)
  (hs : Region.sinkB md ops (n + 1) = true) (hc : Region.chainB md ops (n + 1) = true) (hn : n + 1 < ops.size) (hin : i < n)
  (hend : ∀ fl done a, L fl done a → ∀ j ∈ Region.ready md ops done, n + 1 ≤ j) (k : Nat) :
  ∀ (fl : Option Value) (done : Array Bool) (a : Act), HeadInv md ops (n + 1) done →
   (∀ j oj, ops[j]? = some oj → j ≠ i → done.getD j true = false → (∀ e ∈ oj.after, Region.binds md e = true → e.on ≠ i) → oi.apart ops oj = true) →
   i ∈ Region.ready md ops done → (∀ j, YieldsIn P ops (D j) oi v a) →
   goF P md ops D n L k fl (done.setIfInBounds i true) (a.put oi.dst v) → goF P md ops D n L (k + 1) fl done a := by
 induction k with
 | zero =>
  intro fl done a inv _ hr hy H
  refine ⟨List.ne_nil_of_mem hr, fun j hj o ho => ?_⟩
  have hjn : j < n + 1 := Nat.lt_of_not_le fun hle => tail_waits hs hc hn inv _ i rfl (by omega) (mem_ready.1 hr).1 j hle hj
  by_cases hji : j = i
  ·subst hji
   obtain rfl : oi = o := Option.some.inj (hi.symm.trans ho)
   exact .inl ⟨hin, v, hy, H⟩
  ·exact absurd (hend _ _ _ H j (ready_mono hj hji)) (by omega)
 | succ k ih =>
  intro fl done a inv hfree hr hy H
  refine ⟨List.ne_nil_of_mem hr, fun j hj o ho => ?_⟩
  have hun := (mem_ready.1 hr).1
  have hjn : j < n + 1 := Nat.lt_of_not_le fun hle => tail_waits hs hc hn inv _ i rfl (by omega) hun j hle hj
  by_cases hji : j = i
  ·subst hji
   obtain rfl : oi = o := Option.some.inj (hi.symm.trans ho)
   exact .inl ⟨hin, v, hy, H⟩
  ·obtain ⟨hjun, oj, hoj, hall⟩ := mem_ready.1 hj
   obtain rfl : oj = o := Option.some.inj (hoj.symm.trans ho)
   have hno : ∀ e ∈ oj.after, Region.binds md e = true → e.on ≠ i := fun e he hb heq => by
    have h1 := hall e he hb
    rw [heq, getD_both hun] at h1
    cases h1
   have hap := hfree j oj hoj hji hjun hno
   obtain ⟨h1, h2, h3⟩ := Oper.apart_spec hap
   have inv' := inv.set hj hjn
   have hfree' : ∀ q oq, ops[q]? = some oq → q ≠ i → (done.setIfInBounds j true).getD q true = false → (∀ e ∈ oq.after, Region.binds md e = true → e.on ≠ i) → oi.apart ops oq = true := fun q oq hq hqi hqun hqno => by
    refine hfree q oq hq hqi ?_ hqno
    by_cases hjq : j = q
    ·exact hjq ▸ hjun
    ·rwa [getD_set_ne true hjq] at hqun
   rcases H.2 j (ready_mono hj hji) oj hoj with ⟨hlt, u, hu, hk⟩ | ⟨rfl, hfl, hw, hf⟩
   ·refine .inl ⟨hlt, u, fun c => yields_back hap (fun cs b => hsel j oj cs b hoj) (hu c), ?_⟩
    refine ih fl _ _ inv' hfree' (ready_mono hr (Ne.symm hji)) (fun c => yields_on hap (fun cs b => hsel i oi cs b hi) (hy c)) ?_
    rw [Array.setIfInBounds_comm _ _ hji, ← Act.put_comm a v u h2]
    exact hk
   ·refine .inr ⟨rfl, hfl, by rwa [wanted_put oj a oi.dst v h1] at hw, fun w hwD => ?_⟩
    have hr2 := hf w hwD
    rw [execOp_put oj (fun cs b => hsel _ oj cs b hoj) a oi.dst v h1] at hr2
    refine floatRes_mono (fun u w' hh => ⟨hh.1, ?_⟩) hr2
    refine ih (some u) _ _ inv' hfree' (ready_mono hr (Ne.symm hji)) (fun c => yields_on hap (fun cs b => hsel i oi cs b hi) (hy c)) ?_
    rw [Array.setIfInBounds_comm _ _ hji, ← Act.put_comm a v u h2]
    exact hh.2

def dstOk (sz : Nat) : List Oper → Bool
 | [] => true
 | o :: r => (match o.dst with | some d => decide (d < sz) && r.all (fun o' => o'.dst != some d) | none => false) && dstOk sz r
theorem put_size (a : Act) (d : Option Tmp) (v : Value) : (a.put d v).tmps.size = a.tmps.size := by
 cases d <;> simp [Act.put]
theorem slot_kept {C : World → Prop} {A : Act} {d : Nat} : ∀ (l : List Oper) (a : Act), wpQuiet P ops C (fun a' => a' = A) l a → (l.all fun o => o.dst != some d) = true → A.tmps[d]? = a.tmps[d]?
 | [], a, h, _ => by rw [show a = A from h]
 | o :: l, a, h, hd => by
  simp only [List.all_cons, Bool.and_eq_true] at hd
  have hne : o.dst ≠ some d := by simpa using hd.1
  have step : ∀ v : Value, (a.put o.dst v).tmps[d]? = a.tmps[d]? := fun v => by
   cases h2 : o.dst with
   | none => rfl
   | some e =>
    have : e ≠ d := fun he => hne (by rw [h2, he])
    simp only [Act.put]
    rw [Array.getElem?_setIfInBounds_ne this]
  have hh : (if Region.wanted o (yielded ops a.tmps) then o.quiet P a C (wpQuiet P ops C (fun a' => a' = A) l) else wpQuiet P ops C (fun a' => a' = A) l (a.put o.dst undef)) := h
  split at hh
  ·obtain ⟨v, _, hk⟩ := hh
   exact (slot_kept l _ hk hd.2).trans (step v)
  ·exact (slot_kept l _ hh hd.2).trans (step _)

def lexFB (md : Region.Mode) (ops : Array Oper) (g n : Nat) : Nat → Nat → Array Bool → Bool
 | 0, _, done => decide (Region.ready md ops done = [n]) && Region.seqB md ops g (n + 1) (done.setIfInBounds n true)
 | f + 1, k, done => (Region.ready md ops done).contains k && Region.free md ops done k && lexFB md ops g n f (k + 1) (done.setIfInBounds k true)
theorem lexF {n g : Nat} {A : Act} {L : Option Value → Array Bool → Act → Prop} (hsel : Region.noSelect ops = true) (hs : Region.sinkB md ops (n + 1) = true) (hc : Region.chainB md ops (n + 1) = true) (hn : n + 1 < ops.size)
  (hend : ∀ fl done a, L fl done a → ∀ j ∈ Region.ready md ops done, n + 1 ≤ j) {on : Oper} (hon : ops[n]? = some on) (hwant : ∀ y, Region.wanted on y = true)
  (hf : ∀ w, D none w → floatRes ((execOp A.eval on).run P w) fun u w' => D (some u) w' ∧ ∀ done, Region.ready md ops done = [n] → Region.seqB md ops g (n + 1) (done.setIfInBounds n true) = true → L (some u) (done.setIfInBounds n true) (A.put on.dst u)) :
  ∀ (l : List Oper) (k : Nat) (done : Array Bool) (a : Act), (∀ j, j < l.length → l[j]? = ops[k + j]?) → k + l.length = n → HeadInv md ops (n + 1) done → dstOk a.tmps.size l = true →
  lexFB md ops g n l.length k done = true → (∀ j, wpQuiet P ops (D j) (fun a' => a' = A) l a) → goF P md ops D n L (l.length + 1) none done a := by
 intro l
 induction l with
 | nil =>
  intro k done a _ hk _ _ hB h
  obtain rfl : k = n := by simpa using hk
  obtain rfl : a = A := h none
  simp only [List.length_nil, lexFB, Bool.and_eq_true, decide_eq_true_eq] at hB
  refine ⟨by rw [hB.1]; simp, fun i hi o ho => ?_⟩
  rw [hB.1] at hi
  obtain rfl : i = k := by simpa using hi
  obtain rfl : on = o := Option.some.inj (hon.symm.trans ho)
  exact .inr ⟨rfl, rfl, hwant _, fun w hw => floatRes_mono (fun u w' hh => ⟨hh.1, hh.2 done hB.1 hB.2⟩) (hf w hw)⟩
 | cons o l ih =>
  intro k done a hl hk inv hd hB h
  have h0 : ops[k]? = some o := by simpa using (hl 0 (by simp)).symm
  have hk' : k + (l.length + 1) = n := by simpa using hk
  simp only [List.length_cons, lexFB, Bool.and_eq_true] at hB
  obtain ⟨⟨hr, hfr⟩, hB'⟩ := hB
  have hr' : k ∈ Region.ready md ops done := by simpa using hr
  simp only [dstOk, Bool.and_eq_true] at hd
  obtain ⟨hd1, hd2⟩ := hd
  obtain ⟨d, hod, hdl, hda⟩ : ∃ d, o.dst = some d ∧ d < a.tmps.size ∧ (l.all fun o' => o'.dst != some d) = true := by
   cases h2 : o.dst with
   | none => rw [h2] at hd1; cases hd1
   | some d => rw [h2] at hd1; simp only [Bool.and_eq_true, decide_eq_true_eq] at hd1; exact ⟨d, rfl, hd1.1, hd1.2⟩
  have hv : ∀ j, ∃ v, YieldsIn P ops (D j) o v a ∧ wpQuiet P ops (D j) (fun a' => a' = A) l (a.put o.dst v) := fun j => by
   have hq : qOp P ops (D j) k (wpQuiet P ops (D j) (fun a' => a' = A) l) a := by unfold qOp; simp only [h0]; exact h j
   exact yieldsIn_of_qOp h0 hq
  obtain ⟨v, _, hw0⟩ := hv none
  have same : ∀ j, YieldsIn P ops (D j) o v a ∧ wpQuiet P ops (D j) (fun a' => a' = A) l (a.put o.dst v) := fun j => by
   obtain ⟨u, hu, hwu⟩ := hv j
   have e1 := slot_kept l _ hw0 hda
   have e2 := slot_kept l _ hwu hda
   rw [hod] at e1 e2
   simp only [Act.put] at e1 e2
   rw [Array.getElem?_setIfInBounds_self_of_lt hdl] at e1 e2
   have : u = v := Option.some.inj (e2.symm.trans e1)
   subst this
   exact ⟨hu, hwu⟩
  exact takeF h0 (Region.noSelect_spec hsel) hs hc hn (by omega) hend (l.length + 1) none done a inv (Region.free_spec h0 hfr) hr' (fun j => (same j).1)
   (ih (k + 1) _ _ (fun j hj => by have := hl (j + 1) (by simpa using hj); simpa [Nat.add_assoc, Nat.add_comm 1 j] using this) (by omega) (inv.set hr' (by omega)) (by rw [put_size]; exact hd2) hB' (fun j => (same j).2))
def floatB (md : Region.Mode) (l : List Oper) (n sz : Nat) : Bool :=
 Region.noSelect l.toArray && decide (n + 1 < l.length) && Region.sinkB md l.toArray (n + 1) && Region.chainB md l.toArray (n + 1) && dstOk sz (l.take n) && lexFB md l.toArray (l.length - (n + 1)) n n 0 (Array.replicate l.toArray.size false)

theorem region_float {id : Nat} {Q : Exit → Act → World → Prop} {a A : Act} {w : World} {l : List Oper} (n sz : Nat) (D : Option Value → World → Prop) (on : Oper) (hm : P.follows .mixedOrders = true) (hB : floatB .any l n sz = true) (hsz : a.tmps.size = sz)
  (hon : l[n]? = some on) (hg : on.guard = none) (h0 : D none w.drew)
  (h1 : ∀ j, wpQuiet P l.toArray (D j) (fun a' => a' = A) (l.take n) a)
  (hf : ∀ w', D none w' → floatRes ((execOp A.eval on).run P w') fun u w'' => D (some u) w'')
  (ht : ∀ u w', D (some u) w' → wpList P l.toArray Q (l.drop (n + 1)) (A.put on.dst u) w') : (Code.region id l.toArray true).wp P Q a w := by
 simp only [floatB, Bool.and_eq_true, decide_eq_true_eq] at hB
 obtain ⟨⟨⟨⟨⟨hsel, hn⟩, hs⟩, hc⟩, hd⟩, hlex⟩ := hB
 have hn' : n + 1 < l.toArray.size := by simpa using hn
 have htl : (l.take n).length = n := by simp; omega
 have hdl : (l.drop (n + 1)).length = l.length - (n + 1) := by simp
 have inv0 : HeadInv .any l.toArray (n + 1) (Array.replicate l.toArray.size false) :=
  ⟨by simp, fun j oj _ hl => (by rw [getD_replicate_false] at hl; cases hl), fun t _ ht => getD_in (by simpa using ht) (getD_replicate_false _ _)⟩
 have H := lexF (P := P) (D := D) (md := .any) (g := l.length - (n + 1)) (A := A)
  (L := fun fl done a' => Region.seqB .any l.toArray (l.length - (n + 1)) (n + 1) done = true ∧ ∀ w', D fl w' → wpList P l.toArray Q (l.drop (n + 1)) a' w')
  hsel hs hc hn' (fun _ _ _ hL => seqB_ready hL.1) (on := on) (by simpa using hon) (fun y => by simp [Region.wanted, hg])
  (fun w' hw' => floatRes_mono (fun u w'' hh => ⟨hh, fun done _ hq => ⟨hq, fun w3 hw3 => ht u w3 hw3⟩⟩) (hf w' hw'))
  (l.take n) 0 _ a (fun j hj => by
   have hj' : j < n := by rw [htl] at hj; exact hj
   simp [hj']) (by simpa using htl) inv0 (by rw [hsz]; exact hd) (by rw [htl]; exact hlex) h1
 refine wp_region_any hm ?_
 have := any_of_goF (R := Q) (g := l.length - (n + 1)) (fun fl done a' w' hw' hL => by
  have := wpAny_of_seq (P := P) (md := .any) (Q' := Q) (l.drop (n + 1)) (n + 1) done a' w' (fun j => by simp [List.getElem?_drop]) (by rw [hdl]; exact hL.1) (hL.2 w' hw')
  rwa [hdl] at this) _ _ _ _ _ h0 H
 rw [htl, show n + 1 + (l.length - (n + 1)) = l.toArray.size by simp; omega] at this
 exact this
end
theorem region_float_ex {P : Program} {id : Nat} {Q : Exit → Act → World → Prop} {a : Act} {w : World} {l : List Oper} (n sz : Nat) (D : Option Value → World → Prop) (on : Oper) (hm : P.follows .mixedOrders = true) (hB : floatB .any l n sz = true) (hsz : a.tmps.size = sz)
  (hon : l[n]? = some on) (hg : on.guard = none) (h0 : D none w.drew)
  (h : ∃ A, (∀ j, wpQuiet P l.toArray (D j) (fun a' => a' = A) (l.take n) a) ∧ (∀ w', D none w' → floatRes ((execOp A.eval on).run P w') fun u w'' => D (some u) w'') ∧
   (∀ u w', D (some u) w' → wpList P l.toArray Q (l.drop (n + 1)) (A.put on.dst u) w')) : (Code.region id l.toArray true).wp P Q a w :=
 let ⟨_, h1, h2, h3⟩ := h
 region_float n sz D on hm hB hsz hon hg h0 h1 h2 h3
open Go.RowKit
def FD (B : Nat) (W0 : World) (z0 z1 : Value) : Option Value → World → Prop
 | none, w => Below B W0 w
 | some u, w => Below B W0 w ∧ ∃ p : Nat, u = .pointer (some ⟨p, 0, none⟩) ∧ W0.heap.size ≤ p ∧ p < w.heap.size ∧ w.cell? ⟨p, 0, none⟩ = some z0 ∧ w.cell? ⟨p, 1, none⟩ = some z1 ∧ w.frozen? ⟨p, 0, none⟩ = false ∧ w.frozen? ⟨p, 1, none⟩ = false
theorem FD.below {B : Nat} {W0 w : World} {z0 z1 : Value} {j : Option Value} (h : FD B W0 z0 z1 j w) : Below B W0 w := by
 cases j
 ·exact h
 ·exact h.1
theorem FD.call {B : Nat} {W0 w w' : World} {z0 z1 : Value} {j : Option Value} (hB : B ≤ W0.heap.size) (h : FD B W0 z0 z1 j w) (hb : Below w.heap.size w w') : FD B W0 z0 z1 j w' := by
 cases j
 ·exact qtrans hB h hb
 ·obtain ⟨h1, p, h2, h3, h4, c0, c1, f0, f1⟩ := h
  exact ⟨qtrans hB h1 hb, p, h2, h3, Nat.lt_of_lt_of_le h4 hb.size, (hb.cell (p := ⟨p, 0, none⟩) h4).trans c0, (hb.cell (p := ⟨p, 1, none⟩) h4).trans c1, (hb.frozen (p := ⟨p, 0, none⟩) h4).trans f0, (hb.frozen (p := ⟨p, 1, none⟩) h4).trans f1⟩
theorem FD.made {B : Nat} {W0 w : World} {z0 z1 : Value} {t : TypeId} (hB : B ≤ W0.heap.size) (h : FD B W0 z0 z1 none w) : FD B W0 z0 z1 (some (.pointer (some ⟨w.heap.size, 0, none⟩))) (w.alloc (.cells #[z0, z1] t)) := by
 have h : Below B W0 w := h
 refine ⟨h.alloc (Nat.le_trans hB h.size) _, w.heap.size, rfl, h.size, by simp, by simp, by simp, by simp [go_sem], by simp [go_sem]⟩
end QF
end
section
namespace QG
open QF
section
variable {S : Type} {P : Program} {ops : Array Oper} {md : Region.Mode} {D : S → World → Prop}

def goG (P : Program) (md : Region.Mode) (ops : Array Oper) (D : S → World → Prop) (n : Nat) (L : S → Array Bool → Act → Prop) : Nat → S → Array Bool → Act → Prop
 | 0, s, done, a => L s done a
 | k + 1, s, done, a => Region.ready md ops done ≠ [] ∧ ∀ i ∈ Region.ready md ops done, ∀ o, ops[i]? = some o →
   (i < n ∧ ∃ v, (∀ j, YieldsIn P ops (D j) o v a) ∧ goG P md ops D n L k s (done.setIfInBounds i true) (a.put o.dst v)) ∨
   (n ≤ i ∧ Region.wanted o (yielded ops a.tmps) = true ∧ ∀ w, D s w → floatRes ((execOp a.eval o).run P w) fun u w' => ∃ s', D s' w' ∧ goG P md ops D n L k s' (done.setIfInBounds i true) (a.put o.dst u))

theorem float_wp {o : Oper} {i : Nat} {a : Act} {w : World} {R : Value → World → Prop} (ho : ops[i]? = some o) (hwant : Region.wanted o (yielded ops a.tmps) = true) (hr : floatRes ((execOp a.eval o).run P w) R)
  {Q : Exit → Act → World → Prop} {g : Nat} {done : Array Bool} (hk : ∀ u w', R u w' → wpAny P md ops Q g (done.setIfInBounds i true) (a.put o.dst u) w') : wpOp P ops Q i (fun a' w' => wpAny P md ops Q g (done.setIfInBounds i true) a' w') a w := by
 unfold wpOp
 simp only [ho, hwant, if_true]
 left
 unfold Oper.wp
 generalize (execOp a.eval o).run P w = r at hr
 unfold floatRes at hr
 split at hr
 ·exact hk _ _ hr
 ·exact hk _ _ hr
 ·exact hr.elim

theorem any_of_goG {n g : Nat} {L : S → Array Bool → Act → Prop} {R : Exit → Act → World → Prop} (hL : ∀ s done a w, D s w → L s done a → wpAny P md ops R g done a w) (k : Nat) :
  ∀ (s : S) (done : Array Bool) (a : Act) (w : World), D s w → goG P md ops D n L k s done a → wpAny P md ops R (k + g) done a w := by
 induction k with
 | zero => intro s done a w hw h; rw [Nat.zero_add]; exact hL _ _ _ _ hw h
 | succ k ih =>
  intro s done a w hw h
  rw [show k + 1 + g = (k + g) + 1 by omega]
  refine ⟨fun h0 => absurd h0 h.1, fun i hi => ?_⟩
  obtain ⟨_, o, ho, _⟩ := mem_ready.1 hi
  rcases h.2 i hi o ho with ⟨_, v, hv, hk⟩ | ⟨_, hwant, hf⟩
  ·exact wpOp_of_qOp (C := D s) hw (fun a' w' hw' h' => ih s _ a' w' hw' h') ((hv s).qOp ho hk)
  ·exact float_wp ho hwant (hf w hw) fun u w' ⟨s', h1, h2⟩ => ih _ _ _ _ h1 h2

theorem takeG {n N i : Nat} {oi : Oper} {v : Value} {L : S → Array Bool → Act → Prop} (hi : ops[i]? = some oi) (hsel : ∀ (j : Nat) (o : Oper) cs b, ops[j]? = some o → o.op ≠ .select cs b)
  (hs : Region.sinkB md ops N = true) (hc : Region.chainB md ops N = true) (hn : N < ops.size) (hin : i < n) (hnN : n ≤ N)
  (hend : ∀ s done a, L s done a → ∀ j ∈ Region.ready md ops done, N ≤ j) (k : Nat) :
  ∀ (s : S) (done : Array Bool) (a : Act), HeadInv md ops N done →
   (∀ j oj, ops[j]? = some oj → j ≠ i → done.getD j true = false → (∀ e ∈ oj.after, Region.binds md e = true → e.on ≠ i) → oi.apart ops oj = true) →
   i ∈ Region.ready md ops done → (∀ j, YieldsIn P ops (D j) oi v a) →
   goG P md ops D n L k s (done.setIfInBounds i true) (a.put oi.dst v) → goG P md ops D n L (k + 1) s done a := by
 induction k with
 | zero =>
  intro s done a inv _ hr hy H
  refine ⟨List.ne_nil_of_mem hr, fun j hj o ho => ?_⟩
  have hjn : j < N := Nat.lt_of_not_le fun hle => tail_waits hs hc hn inv _ i rfl (by omega) (mem_ready.1 hr).1 j hle hj
  by_cases hji : j = i
  ·subst hji
   obtain rfl : oi = o := Option.some.inj (hi.symm.trans ho)
   exact .inl ⟨hin, v, hy, H⟩
  ·exact absurd (hend _ _ _ H j (ready_mono hj hji)) (by omega)
 | succ k ih =>
  intro s done a inv hfree hr hy H
  refine ⟨List.ne_nil_of_mem hr, fun j hj o ho => ?_⟩
  have hun := (mem_ready.1 hr).1
  have hjn : j < N := Nat.lt_of_not_le fun hle => tail_waits hs hc hn inv _ i rfl (by omega) hun j hle hj
  by_cases hji : j = i
  ·subst hji
   obtain rfl : oi = o := Option.some.inj (hi.symm.trans ho)
   exact .inl ⟨hin, v, hy, H⟩
  ·obtain ⟨hjun, oj, hoj, hall⟩ := mem_ready.1 hj
   obtain rfl : oj = o := Option.some.inj (hoj.symm.trans ho)
   have hno : ∀ e ∈ oj.after, Region.binds md e = true → e.on ≠ i := fun e he hb heq => by
    have h1 := hall e he hb
    rw [heq, getD_both hun] at h1
    cases h1
   have hap := hfree j oj hoj hji hjun hno
   obtain ⟨h1, h2, h3⟩ := Oper.apart_spec hap
   have inv' := inv.set hj hjn
   have hfree' : ∀ q oq, ops[q]? = some oq → q ≠ i → (done.setIfInBounds j true).getD q true = false → (∀ e ∈ oq.after, Region.binds md e = true → e.on ≠ i) → oi.apart ops oq = true := fun q oq hq hqi hqun hqno => by
    refine hfree q oq hq hqi ?_ hqno
    by_cases hjq : j = q
    ·exact hjq ▸ hjun
    ·rwa [getD_set_ne true hjq] at hqun
   rcases H.2 j (ready_mono hj hji) oj hoj with ⟨hlt, u, hu, hk⟩ | ⟨hge, hw, hf⟩
   ·refine .inl ⟨hlt, u, fun c => yields_back hap (fun cs b => hsel j oj cs b hoj) (hu c), ?_⟩
    refine ih s _ _ inv' hfree' (ready_mono hr (Ne.symm hji)) (fun c => yields_on hap (fun cs b => hsel i oi cs b hi) (hy c)) ?_
    rw [Array.setIfInBounds_comm _ _ hji, ← Act.put_comm a v u h2]
    exact hk
   ·refine .inr ⟨hge, by rwa [wanted_put oj a oi.dst v h1] at hw, fun w hwD => ?_⟩
    have hr2 := hf w hwD
    rw [execOp_put oj (fun cs b => hsel _ oj cs b hoj) a oi.dst v h1] at hr2
    refine floatRes_mono (fun u w' ⟨s', hh1, hh2⟩ => ⟨s', hh1, ?_⟩) hr2
    refine ih s' _ _ inv' hfree' (ready_mono hr (Ne.symm hji)) (fun c => yields_on hap (fun cs b => hsel i oi cs b hi) (hy c)) ?_
    rw [Array.setIfInBounds_comm _ _ hji, ← Act.put_comm a v u h2]
    exact hh2

def lexGB (md : Region.Mode) (ops : Array Oper) (n : Nat) (E : Array Bool → Bool) : Nat → Nat → Array Bool → Bool
 | 0, _, done => E done
 | f + 1, k, done => (Region.ready md ops done).contains k && Region.free md ops done k && lexGB md ops n E f (k + 1) (done.setIfInBounds k true)
theorem lexG {n m : Nat} {A : Act} {E : Array Bool → Bool} {s0 : S} {L : S → Array Bool → Act → Prop} (hsel : Region.noSelect ops = true) (hs : Region.sinkB md ops (n + m) = true) (hc : Region.chainB md ops (n + m) = true) (hn : n + m < ops.size)
  (hend : ∀ s done a, L s done a → ∀ j ∈ Region.ready md ops done, n + m ≤ j)
  (hbase : ∀ done, E done = true → goG P md ops D n L m s0 done A) :
  ∀ (l : List Oper) (k : Nat) (done : Array Bool) (a : Act), (∀ j, j < l.length → l[j]? = ops[k + j]?) → k + l.length = n → HeadInv md ops (n + m) done → dstOk a.tmps.size l = true →
  lexGB md ops n E l.length k done = true → (∀ j, wpQuiet P ops (D j) (fun a' => a' = A) l a) → goG P md ops D n L (l.length + m) s0 done a := by
 intro l
 induction l with
 | nil =>
  intro k done a _ hk _ _ hB h
  obtain rfl : a = A := h s0
  rw [List.length_nil, Nat.zero_add]
  exact hbase done hB
 | cons o l ih =>
  intro k done a hl hk inv hd hB h
  have h0 : ops[k]? = some o := by simpa using (hl 0 (by simp)).symm
  have hk' : k + (l.length + 1) = n := by simpa using hk
  simp only [List.length_cons, lexGB, Bool.and_eq_true] at hB
  obtain ⟨⟨hr, hfr⟩, hB'⟩ := hB
  have hr' : k ∈ Region.ready md ops done := by simpa using hr
  simp only [dstOk, Bool.and_eq_true] at hd
  obtain ⟨hd1, hd2⟩ := hd
  obtain ⟨d, hod, hdl, hda⟩ : ∃ d, o.dst = some d ∧ d < a.tmps.size ∧ (l.all fun o' => o'.dst != some d) = true := by
   cases h2 : o.dst with
   | none => rw [h2] at hd1; cases hd1
   | some d => rw [h2] at hd1; simp only [Bool.and_eq_true, decide_eq_true_eq] at hd1; exact ⟨d, rfl, hd1.1, hd1.2⟩
  have hv : ∀ j, ∃ v, YieldsIn P ops (D j) o v a ∧ wpQuiet P ops (D j) (fun a' => a' = A) l (a.put o.dst v) := fun j => by
   have hq : qOp P ops (D j) k (wpQuiet P ops (D j) (fun a' => a' = A) l) a := by unfold qOp; simp only [h0]; exact h j
   exact yieldsIn_of_qOp h0 hq
  obtain ⟨v, _, hw0⟩ := hv s0
  have same : ∀ j, YieldsIn P ops (D j) o v a ∧ wpQuiet P ops (D j) (fun a' => a' = A) l (a.put o.dst v) := fun j => by
   obtain ⟨u, hu, hwu⟩ := hv j
   have e1 := slot_kept l _ hw0 hda
   have e2 := slot_kept l _ hwu hda
   rw [hod] at e1 e2
   simp only [Act.put] at e1 e2
   rw [Array.getElem?_setIfInBounds_self_of_lt hdl] at e1 e2
   have : u = v := Option.some.inj (e2.symm.trans e1)
   subst this
   exact ⟨hu, hwu⟩
  rw [List.length_cons, Nat.add_right_comm]
  exact takeG h0 (Region.noSelect_spec hsel) hs hc hn (by omega) (by omega) hend (l.length + m) s0 done a inv (Region.free_spec h0 hfr) hr' (fun j => (same j).1)
   (ih (k + 1) _ _ (fun j hj => by have := hl (j + 1) (by simpa using hj); simpa [Nat.add_assoc, Nat.add_comm 1 j] using this) (by omega) (inv.set hr' (by omega)) (by rw [put_size]; exact hd2) hB' (fun j => (same j).2))

def endB (md : Region.Mode) (ops : Array Oper) (g n : Nat) (done : Array Bool) : Bool :=
 decide (Region.ready md ops done = [n, n + 1]) && decide (Region.ready md ops (done.setIfInBounds n true) = [n + 1]) && decide (Region.ready md ops (done.setIfInBounds (n + 1) true) = [n]) &&
 decide (Region.ready md ops ((done.setIfInBounds n true).setIfInBounds (n + 1) true) = [n + 2]) &&
 Region.seqB md ops g (n + 3) (((done.setIfInBounds n true).setIfInBounds (n + 1) true).setIfInBounds (n + 2) true)
abbrev St := Option Value × Option Value × Bool
theorem base {D : St → World → Prop} {n g : Nat} {A : Act} {L : St → Array Bool → Act → Prop} (hsel : Region.noSelect ops = true)
  {o1 o2 o3 : Oper} (ho1 : ops[n]? = some o1) (ho2 : ops[n + 1]? = some o2) (ho3 : ops[n + 2]? = some o3) (hw1 : ∀ y, Region.wanted o1 y = true) (hw2 : ∀ y, Region.wanted o2 y = true) (hw3 : ∀ y, Region.wanted o3 y = true)
  (hap : o1.apart ops o2 = true) (hap3 : o2.apart ops o3 = true) (hd3 : o3.dst = none)
  (hf1 : ∀ f2 w, D (none, f2, false) w → floatRes ((execOp A.eval o1).run P w) fun u w' => D (some u, f2, false) w')
  (hf2 : ∀ f1 b w, D (f1, none, b) w → floatRes ((execOp A.eval o2).run P w) fun u w' => D (f1, some u, b) w')
  (hf3 : ∀ u f2 w, D (some u, f2, false) w → floatRes ((execOp (A.put o1.dst u).eval o3).run P w) fun _ w' => D (some u, f2, true) w')
  (hL : ∀ u1 u2 done, Region.seqB md ops g (n + 3) done = true → L (some u1, some u2, true) done ((A.put o1.dst u1).put o2.dst u2)) (done : Array Bool) (hB : endB md ops g n done = true) : goG P md ops D n L 3 (none, none, false) done A := by
 simp only [endB, Bool.and_eq_true, decide_eq_true_eq] at hB
 obtain ⟨⟨⟨⟨hB1, hB2⟩, hB3⟩, hB4⟩, hB6⟩ := hB
 obtain ⟨p1, p2, p3⟩ := Oper.apart_spec hap
 obtain ⟨q1, q2, q3⟩ := Oper.apart_spec hap3
 have put3 : ∀ (a : Act) v, a.put o3.dst v = a := fun a v => by rw [hd3]; rfl
 have n2 : n ≠ n + 1 := by omega
 have n3 : n + 1 ≠ n + 2 := by omega
 have hB4' : Region.ready md ops ((done.setIfInBounds (n + 1) true).setIfInBounds n true) = [n + 2] := by
  rw [Array.setIfInBounds_comm _ _ (Ne.symm n2)]; exact hB4
 have hB6' : Region.seqB md ops g (n + 3) (((done.setIfInBounds (n + 1) true).setIfInBounds n true).setIfInBounds (n + 2) true) = true := by
  rw [Array.setIfInBounds_comm _ _ (Ne.symm n2)]; exact hB6
 have s1 := fun cs b => Region.noSelect_spec hsel _ _ cs b ho1
 have s2 := fun cs b => Region.noSelect_spec hsel _ _ cs b ho2
 have s3 := fun cs b => Region.noSelect_spec hsel _ _ cs b ho3
 refine ⟨by rw [hB1]; simp, fun i hi o ho => .inr ?_⟩
 rw [hB1] at hi
 have hi' : i = n ∨ i = n + 1 := by simpa using hi
 rcases hi' with rfl | rfl
 ·obtain rfl : o1 = o := Option.some.inj (ho1.symm.trans ho)
  refine ⟨Nat.le_refl _, hw1 _, fun w hw => floatRes_mono (fun u w' hh => ⟨_, hh, ?_⟩) (hf1 none w hw)⟩
  refine ⟨by rw [hB2]; simp, fun i2 hi2 q hq => .inr ?_⟩
  rw [hB2] at hi2
  obtain rfl : i2 = i + 1 := by simpa using hi2
  ·obtain rfl : o2 = q := Option.some.inj (ho2.symm.trans hq)
   refine ⟨by omega, hw2 _, fun w2 hw2' => ?_⟩
   rw [execOp_put o2 s2 A o1.dst u p1]
   refine floatRes_mono (fun u2 w3 hh3 => ⟨_, hh3, ?_⟩) (hf2 (some u) false w2 hw2')
   refine ⟨by rw [hB4]; simp, fun i3 hi3 r hr => .inr ?_⟩
   rw [hB4] at hi3
   obtain rfl : i3 = i + 2 := by simpa using hi3
   obtain rfl : o3 = r := Option.some.inj (ho3.symm.trans hr)
   refine ⟨by omega, hw3 _, fun w4 hw4 => ?_⟩
   rw [execOp_put o3 s3 _ o2.dst u2 q1]
   refine floatRes_mono (fun u3 w5 hh5 => ⟨_, hh5, ?_⟩) (hf3 u (some u2) w4 hw4)
   rw [put3]
   exact hL u u2 _ hB6
 ·obtain rfl : o2 = o := Option.some.inj (ho2.symm.trans ho)
  refine ⟨by omega, hw2 _, fun w hw => floatRes_mono (fun u2 w' hh => ⟨_, hh, ?_⟩) (hf2 none false w hw)⟩
  refine ⟨by rw [hB3]; simp, fun i2 hi2 q hq => .inr ?_⟩
  rw [hB3] at hi2
  obtain rfl : i2 = n := by simpa using hi2
  obtain rfl : o1 = q := Option.some.inj (ho1.symm.trans hq)
  refine ⟨Nat.le_refl _, hw1 _, fun w2 hw2' => ?_⟩
  rw [execOp_put o1 s1 A o2.dst u2 p3]
  refine floatRes_mono (fun u w3 hh3 => ⟨_, hh3, ?_⟩) (hf1 (some u2) w2 hw2')
  refine ⟨by rw [hB4']; simp, fun i3 hi3 r hr => .inr ?_⟩
  rw [hB4'] at hi3
  obtain rfl : i3 = i2 + 2 := by simpa using hi3
  obtain rfl : o3 = r := Option.some.inj (ho3.symm.trans hr)
  refine ⟨by omega, hw3 _, fun w4 hw4 => ?_⟩
  rw [← Act.put_comm A u u2 p2, execOp_put o3 s3 _ o2.dst u2 q1]
  refine floatRes_mono (fun u3 w5 hh5 => ⟨_, hh5, ?_⟩) (hf3 u (some u2) w4 hw4)
  rw [put3]
  exact hL u u2 _ hB6'

def floatGB (md : Region.Mode) (l : List Oper) (n sz : Nat) : Bool :=
 Region.noSelect l.toArray && decide (n + 3 < l.length) && Region.sinkB md l.toArray (n + 3) && Region.chainB md l.toArray (n + 3) && dstOk sz (l.take n) && lexGB md l.toArray n (endB md l.toArray (l.length - (n + 3)) n) n 0 (Array.replicate l.toArray.size false)

theorem region_float2 {id : Nat} {Q : Exit → Act → World → Prop} {a A : Act} {w : World} {l : List Oper} (n sz : Nat) (D : St → World → Prop) (o1 o2 o3 : Oper) (hm : P.follows .mixedOrders = true) (hB : floatGB .any l n sz = true) (hsz : a.tmps.size = sz)
  (ho1 : l[n]? = some o1) (ho2 : l[n + 1]? = some o2) (ho3 : l[n + 2]? = some o3) (hg1 : o1.guard = none) (hg2 : o2.guard = none) (hg3 : o3.guard = none) (hap : o1.apart l.toArray o2 = true) (hap3 : o2.apart l.toArray o3 = true) (hd3 : o3.dst = none) (h0 : D (none, none, false) w.drew)
  (h1 : ∀ j, wpQuiet P l.toArray (D j) (fun a' => a' = A) (l.take n) a)
  (hf1 : ∀ f2 w', D (none, f2, false) w' → floatRes ((execOp A.eval o1).run P w') fun u w'' => D (some u, f2, false) w'')
  (hf2 : ∀ f1 b w', D (f1, none, b) w' → floatRes ((execOp A.eval o2).run P w') fun u w'' => D (f1, some u, b) w'')
  (hf3 : ∀ u f2 w', D (some u, f2, false) w' → floatRes ((execOp (A.put o1.dst u).eval o3).run P w') fun _ w'' => D (some u, f2, true) w'')
  (ht : ∀ u1 u2 w', D (some u1, some u2, true) w' → wpList P l.toArray Q (l.drop (n + 3)) ((A.put o1.dst u1).put o2.dst u2) w') : (Code.region id l.toArray true).wp P Q a w := by
 simp only [floatGB, Bool.and_eq_true, decide_eq_true_eq] at hB
 obtain ⟨⟨⟨⟨⟨hsel, hn⟩, hs⟩, hc⟩, hd⟩, hlex⟩ := hB
 have hn' : n + 3 < l.toArray.size := by simpa using hn
 have htl : (l.take n).length = n := by simp; omega
 have hdl : (l.drop (n + 3)).length = l.length - (n + 3) := by simp
 have inv0 : HeadInv .any l.toArray (n + 3) (Array.replicate l.toArray.size false) :=
  ⟨by simp, fun j oj _ hl => (by rw [getD_replicate_false] at hl; cases hl), fun t _ ht => getD_in (by simpa using ht) (getD_replicate_false _ _)⟩
 obtain ⟨p1, _, _⟩ := Oper.apart_spec hap
 have H := lexG (P := P) (D := D) (md := .any) (n := n) (m := 3) (A := A) (s0 := ((none, none, false) : St)) (E := endB .any l.toArray (l.length - (n + 3)) n)
  (L := fun s done a' => Region.seqB .any l.toArray (l.length - (n + 3)) (n + 3) done = true ∧ ∀ w', D s w' → wpList P l.toArray Q (l.drop (n + 3)) a' w')
  hsel hs hc hn' (fun _ _ _ hL => seqB_ready hL.1)
  (base hsel (by simpa using ho1) (by simpa using ho2) (by simpa using ho3) (fun y => by simp [Region.wanted, hg1]) (fun y => by simp [Region.wanted, hg2]) (fun y => by simp [Region.wanted, hg3]) hap hap3 hd3 hf1 hf2 hf3
   (fun u1 u2 done hq => ⟨hq, fun w3 hw3 => ht u1 u2 w3 hw3⟩))
  (l.take n) 0 _ a (fun j hj => by
   have hj' : j < n := by rw [htl] at hj; exact hj
   simp [hj']) (by simpa using htl) inv0 (by rw [hsz]; exact hd) (by rw [htl]; exact hlex) h1
 refine wp_region_any hm ?_
 have := any_of_goG (R := Q) (g := l.length - (n + 3)) (fun s done a' w' hw' hL => by
  have := wpAny_of_seq (P := P) (md := .any) (Q' := Q) (l.drop (n + 3)) (n + 3) done a' w' (fun j => by simp [List.getElem?_drop]) (by rw [hdl]; exact hL.1) (hL.2 w' hw')
  rwa [hdl] at this) _ _ _ _ _ h0 H
 rw [htl, show n + 3 + (l.length - (n + 3)) = l.toArray.size by simp; omega] at this
 exact this
end
theorem region_float2_ex {P : Program} {id : Nat} {Q : Exit → Act → World → Prop} {a : Act} {w : World} {l : List Oper} (n sz : Nat) (D : St → World → Prop) (o1 o2 o3 : Oper) (hm : P.follows .mixedOrders = true) (hB : floatGB .any l n sz = true) (hsz : a.tmps.size = sz)
  (ho1 : l[n]? = some o1) (ho2 : l[n + 1]? = some o2) (ho3 : l[n + 2]? = some o3) (hg1 : o1.guard = none) (hg2 : o2.guard = none) (hg3 : o3.guard = none) (hap : o1.apart l.toArray o2 = true) (hap3 : o2.apart l.toArray o3 = true) (hd3 : o3.dst = none) (h0 : D (none, none, false) w.drew)
  (h : ∃ A, (∀ j, wpQuiet P l.toArray (D j) (fun a' => a' = A) (l.take n) a) ∧ (∀ f2 w', D (none, f2, false) w' → floatRes ((execOp A.eval o1).run P w') fun u w'' => D (some u, f2, false) w'') ∧
   (∀ f1 b w', D (f1, none, b) w' → floatRes ((execOp A.eval o2).run P w') fun u w'' => D (f1, some u, b) w'') ∧
   (∀ u f2 w', D (some u, f2, false) w' → floatRes ((execOp (A.put o1.dst u).eval o3).run P w') fun _ w'' => D (some u, f2, true) w'') ∧
   (∀ u1 u2 w', D (some u1, some u2, true) w' → wpList P l.toArray Q (l.drop (n + 3)) ((A.put o1.dst u1).put o2.dst u2) w')) : (Code.region id l.toArray true).wp P Q a w :=
 let ⟨_, h1, h2, h3, h4, h5⟩ := h
 region_float2 n sz D o1 o2 o3 hm hB hsz ho1 ho2 ho3 hg1 hg2 hg3 hap hap3 hd3 h0 h1 h2 h3 h4 h5
open Go.RowKit
def Two : Option Value → Option Value → Prop
 | some u, some v => u ≠ v
 | _, _ => True
end QG
end
section
namespace QG
open QF
open Go.RowKit
def Box3 (W0 w : World) (z0 z1 z2 : Value) : Option Value → Prop
 | none => True
 | some u => ∃ p : Nat, u = .pointer (some ⟨p, 0, none⟩) ∧ W0.heap.size ≤ p ∧ p < w.heap.size ∧ w.cell? ⟨p, 0, none⟩ = some z0 ∧ w.cell? ⟨p, 1, none⟩ = some z1 ∧ w.cell? ⟨p, 2, none⟩ = some z2 ∧ w.frozen? ⟨p, 0, none⟩ = false ∧ w.frozen? ⟨p, 1, none⟩ = false ∧ w.frozen? ⟨p, 2, none⟩ = false
theorem Box3.kept {W0 w w' : World} {z0 z1 z2 : Value} {j : Option Value} (h : Box3 W0 w z0 z1 z2 j) (hb : Below w.heap.size w w') : Box3 W0 w' z0 z1 z2 j := by
 cases j
 ·trivial
 ·obtain ⟨p, h2, h3, h4, c0, c1, c2, f0, f1, f2⟩ := h
  exact ⟨p, h2, h3, Nat.lt_of_lt_of_le h4 hb.size, (hb.cell (p := ⟨p, 0, none⟩) h4).trans c0, (hb.cell (p := ⟨p, 1, none⟩) h4).trans c1, (hb.cell (p := ⟨p, 2, none⟩) h4).trans c2, (hb.frozen (p := ⟨p, 0, none⟩) h4).trans f0, (hb.frozen (p := ⟨p, 1, none⟩) h4).trans f1, (hb.frozen (p := ⟨p, 2, none⟩) h4).trans f2⟩
def FD3 (B : Nat) (W0 : World) (z0 z1 z2 s0 s1 s2 : Value) (j : St) (w : World) : Prop := Below B W0 w ∧ Box3 W0 w (if j.2.2 then s0 else z0) (if j.2.2 then s1 else z1) (if j.2.2 then s2 else z2) j.1 ∧ Box3 W0 w z0 z1 z2 j.2.1 ∧ Two j.1 j.2.1
section
variable {B : Nat} {W0 w w' : World} {z0 z1 z2 s0 s1 s2 : Value}
theorem FD3.below {j : St} (h : FD3 B W0 z0 z1 z2 s0 s1 s2 j w) : Below B W0 w := h.1
theorem Box3.ne {u : Value} (h : Box3 W0 w z0 z1 z2 (some u)) : u ≠ .pointer (some ⟨w.heap.size, 0, none⟩) := by
 obtain ⟨p, rfl, _, h4, _⟩ := h
 intro h
 injection h with h
 injection h with h
 injection h with h
 omega
theorem FD3.made1 {t : TypeId} {j : Option Value} (hB : B ≤ W0.heap.size) (h : FD3 B W0 z0 z1 z2 s0 s1 s2 (none, j, false) w) : FD3 B W0 z0 z1 z2 s0 s1 s2 (some (.pointer (some ⟨w.heap.size, 0, none⟩)), j, false) (w.alloc (.cells #[z0, z1, z2] t)) := by
 obtain ⟨h, -, h2, -⟩ := h
 have hb : Below w.heap.size w (w.alloc (.cells #[z0, z1, z2] t)) := (Below.refl _ _).alloc (Nat.le_refl _) _
 refine ⟨h.alloc (Nat.le_trans hB h.size) _, ⟨w.heap.size, rfl, h.size, by simp, by simp, by simp, by simp, by simp [go_sem], by simp [go_sem], by simp [go_sem]⟩, h2.kept hb, ?_⟩
 cases j with
 | none => trivial
 | some u => exact fun e => h2.ne e.symm
theorem FD3.made2 {t : TypeId} {j : Option Value} {b : Bool} (hB : B ≤ W0.heap.size) (h : FD3 B W0 z0 z1 z2 s0 s1 s2 (j, none, b) w) : FD3 B W0 z0 z1 z2 s0 s1 s2 (j, some (.pointer (some ⟨w.heap.size, 0, none⟩)), b) (w.alloc (.cells #[z0, z1, z2] t)) := by
 obtain ⟨h, h2, -, -⟩ := h
 have hb : Below w.heap.size w (w.alloc (.cells #[z0, z1, z2] t)) := (Below.refl _ _).alloc (Nat.le_refl _) _
 refine ⟨h.alloc (Nat.le_trans hB h.size) _, h2.kept hb, ⟨w.heap.size, rfl, h.size, by simp, by simp, by simp, by simp, by simp [go_sem], by simp [go_sem], by simp [go_sem]⟩, ?_⟩
 cases j with
 | none => trivial
 | some u => exact fun e => h2.ne e
theorem FD3.open_ {u : Value} {j : Option Value} {b : Bool} (h : FD3 B W0 z0 z1 z2 s0 s1 s2 (some u, j, b) w) : ∃ p : Nat, u = .pointer (some ⟨p, 0, none⟩) ∧ p < w.heap.size ∧ w.cell? ⟨p, 0, none⟩ = some (if b then s0 else z0) ∧ w.cell? ⟨p, 1, none⟩ = some (if b then s1 else z1) ∧ w.cell? ⟨p, 2, none⟩ = some (if b then s2 else z2) ∧ w.frozen? ⟨p, 0, none⟩ = false ∧ w.frozen? ⟨p, 1, none⟩ = false ∧ w.frozen? ⟨p, 2, none⟩ = false := by
 obtain ⟨_, ⟨p, h2, h3, h4, c⟩, _⟩ := h
 exact ⟨p, h2, h4, c⟩
theorem FD3.stored {p : Nat} {j : Option Value} (hB : B ≤ W0.heap.size) (h : FD3 B W0 z0 z1 z2 s0 s1 s2 (some (.pointer (some ⟨p, 0, none⟩)), j, false) w) : FD3 B W0 z0 z1 z2 s0 s1 s2 (some (.pointer (some ⟨p, 0, none⟩)), j, true) (((w.setCell ⟨p, 0, none⟩ s0).setCell ⟨p, 1, none⟩ s1).setCell ⟨p, 2, none⟩ s2) := by
 obtain ⟨h, ⟨p', hp, h3, h4, c0, c1, c2, f0, f1, f2⟩, h5, h6⟩ := h
 have hpp : p' = p := by
  injection hp with hp
  injection hp with hp
  injection hp with hp
  exact hp.symm
 subst hpp
 refine ⟨((h.setCell (p := ⟨p', 0, none⟩) (by simp; omega) _).setCell (p := ⟨p', 1, none⟩) (by simp; omega) _).setCell (p := ⟨p', 2, none⟩) (by simp; omega) _, ⟨p', rfl, h3, by simpa using h4, ?_, ?_, ?_, ?_, ?_, ?_⟩, ?_, h6⟩
 ·go_simp
 ·go_simp
 ·go_simp
 ·go_simp
 ·go_simp
 ·go_simp
 ·cases j with
  | none => trivial
  | some v =>
   obtain ⟨q, hq, g3, g4, d0, d1, d2, e0, e1, e2⟩ := h5
   have hne : ¬ q = p' := fun e => h6 (by rw [hq, e])
   exact ⟨q, hq, g3, by simpa using g4, by go_simp, by go_simp, by go_simp, by go_simp, by go_simp, by go_simp⟩
end
end QG
end
section
open Go.RowKit
end
section
open Go.RowKit
end
section
open Go.RowKit
end
end Go.Proofs.YtkkanjeamngdiaaDoor
