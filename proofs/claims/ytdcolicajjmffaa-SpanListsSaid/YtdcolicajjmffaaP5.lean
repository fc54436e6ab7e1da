/- Packed: Base Ask Ask2 Wide Out Sum Bits Div DivA DivB Sets QF Abs. -/
import Derived.Test.YtdcolicajjmffaaProg
import Derived.WalkKit
import Derived.WalkSpells
import Derived.WalkLawsBesides
import Derived.RowKit3
import Derived.Below
import Derived.Deep.QuietTactic
import Derived.BigQuiet
import Derived.KernelRfl
import Derived.Test.YtdcolicajjmffaaP4
set_option linter.unusedVariables false
set_option linter.unusedSimpArgs false
namespace Go.Proofs.Ytdcolicajjmffaa
section
open Go.RowKit
theorem hide {p : Prop} (h : p) : Hid p := h
theorem bcell {W w1 : World} (hb : Below W.heap.size W w1) : (∀ b o, b < W.heap.size → w1.cell? ⟨b, o, none⟩ = W.cell? ⟨b, o, none⟩) ∧ (∀ b o, b < W.heap.size → w1.frozen? ⟨b, o, none⟩ = W.frozen? ⟨b, o, none⟩) :=
 ⟨fun b o h => hb.cell (p := ⟨b, o, none⟩) h, fun b o h => hb.frozen (p := ⟨b, o, none⟩) h⟩
theorem bcellB {B : Nat} {W w1 : World} (hb : Below B W w1) : (∀ b o, b < B → w1.cell? ⟨b, o, none⟩ = W.cell? ⟨b, o, none⟩) ∧ (∀ b o, b < B → w1.frozen? ⟨b, o, none⟩ = W.frozen? ⟨b, o, none⟩) :=
 ⟨fun b o h => hb.cell (p := ⟨b, o, none⟩) h, fun b o h => hb.frozen (p := ⟨b, o, none⟩) h⟩
theorem qtrans {B : Nat} {W w1 w2 : World} (hBW : B ≤ W.heap.size) (hC : Below B W w1) (hb : Below w1.heap.size w1 w2) : Below B W w2 := hC.trans (hb.mono (Nat.le_trans hBW hC.size))
theorem bdrew {n : Nat} {w w' : World} (h : Below n w w') : Below n w w'.drew := h.drew
theorem bset {n : Nat} {w w' : World} {p : Addr} {v : Value} (hp : n ≤ p.block) (h : Below n w w') : Below n w (w'.setCell p v) := h.setCell hp v
theorem ball {n : Nat} {w w' : World} {o : Obj} (hs : n ≤ w'.heap.size) (h : Below n w w') : Below n w (w'.alloc o) := h.alloc hs o
theorem zw1 {C : Prop} (w v : World) (h : w.heap.size < v.heap.size) (c : w.heap.size < v.heap.size → w.heap.size ≤ v.heap.size → C) : C := c (by omega) (by omega)
theorem zw2 {C : Prop} (w v : World) (h : w.heap.size + 1 < v.heap.size) (c : w.heap.size < v.heap.size → w.heap.size ≤ v.heap.size → w.heap.size + 1 < v.heap.size → w.heap.size + 1 ≤ v.heap.size → C) : C := c (by omega) (by omega) (by omega) (by omega)
theorem zw3 {C : Prop} (w v : World) (h : w.heap.size + 1 + 1 < v.heap.size) (c : w.heap.size < v.heap.size → w.heap.size ≤ v.heap.size → w.heap.size + 1 < v.heap.size → w.heap.size + 1 ≤ v.heap.size → w.heap.size + 1 + 1 < v.heap.size → w.heap.size + 1 + 1 ≤ v.heap.size → C) : C := c (by omega) (by omega) (by omega) (by omega) (by omega) (by omega)
theorem zw4 {C : Prop} (w v : World) (h : w.heap.size + 1 + 1 + 1 < v.heap.size) (c : w.heap.size < v.heap.size → w.heap.size ≤ v.heap.size → w.heap.size + 1 < v.heap.size → w.heap.size + 1 ≤ v.heap.size → w.heap.size + 1 + 1 < v.heap.size → w.heap.size + 1 + 1 ≤ v.heap.size → w.heap.size + 1 + 1 + 1 < v.heap.size → w.heap.size + 1 + 1 + 1 ≤ v.heap.size → C) : C := c (by omega) (by omega) (by omega) (by omega) (by omega) (by omega) (by omega) (by omega)
theorem zw5 {C : Prop} (w v : World) (h : w.heap.size + 1 + 1 + 1 + 1 < v.heap.size) (c : w.heap.size < v.heap.size → w.heap.size ≤ v.heap.size → w.heap.size + 1 < v.heap.size → w.heap.size + 1 ≤ v.heap.size → w.heap.size + 1 + 1 < v.heap.size → w.heap.size + 1 + 1 ≤ v.heap.size → w.heap.size + 1 + 1 + 1 < v.heap.size → w.heap.size + 1 + 1 + 1 ≤ v.heap.size → w.heap.size + 1 + 1 + 1 + 1 < v.heap.size → w.heap.size + 1 + 1 + 1 + 1 ≤ v.heap.size → C) : C := c (by omega) (by omega) (by omega) (by omega) (by omega) (by omega) (by omega) (by omega) (by omega) (by omega)
theorem zw6 {C : Prop} (w v : World) (h : w.heap.size + 1 + 1 + 1 + 1 + 1 < v.heap.size) (c : w.heap.size < v.heap.size → w.heap.size ≤ v.heap.size → w.heap.size + 1 < v.heap.size → w.heap.size + 1 ≤ v.heap.size → w.heap.size + 1 + 1 < v.heap.size → w.heap.size + 1 + 1 ≤ v.heap.size → w.heap.size + 1 + 1 + 1 < v.heap.size → w.heap.size + 1 + 1 + 1 ≤ v.heap.size → w.heap.size + 1 + 1 + 1 + 1 < v.heap.size → w.heap.size + 1 + 1 + 1 + 1 ≤ v.heap.size → w.heap.size + 1 + 1 + 1 + 1 + 1 < v.heap.size → w.heap.size + 1 + 1 + 1 + 1 + 1 ≤ v.heap.size → C) : C := c (by omega) (by omega) (by omega) (by omega) (by omega) (by omega) (by omega) (by omega) (by omega) (by omega) (by omega) (by omega)
theorem zw7 {C : Prop} (w v : World) (h : w.heap.size + 1 + 1 + 1 + 1 + 1 + 1 < v.heap.size) (c : w.heap.size < v.heap.size → w.heap.size ≤ v.heap.size → w.heap.size + 1 < v.heap.size → w.heap.size + 1 ≤ v.heap.size → w.heap.size + 1 + 1 < v.heap.size → w.heap.size + 1 + 1 ≤ v.heap.size → w.heap.size + 1 + 1 + 1 < v.heap.size → w.heap.size + 1 + 1 + 1 ≤ v.heap.size → w.heap.size + 1 + 1 + 1 + 1 < v.heap.size → w.heap.size + 1 + 1 + 1 + 1 ≤ v.heap.size → w.heap.size + 1 + 1 + 1 + 1 + 1 < v.heap.size → w.heap.size + 1 + 1 + 1 + 1 + 1 ≤ v.heap.size → w.heap.size + 1 + 1 + 1 + 1 + 1 + 1 < v.heap.size → w.heap.size + 1 + 1 + 1 + 1 + 1 + 1 ≤ v.heap.size → C) : C := c (by omega) (by omega) (by omega) (by omega) (by omega) (by omega) (by omega) (by omega) (by omega) (by omega) (by omega) (by omega) (by omega) (by omega)
theorem zw8 {C : Prop} (w v : World) (h : w.heap.size + 1 + 1 + 1 + 1 + 1 + 1 + 1 < v.heap.size) (c : w.heap.size < v.heap.size → w.heap.size ≤ v.heap.size → w.heap.size + 1 < v.heap.size → w.heap.size + 1 ≤ v.heap.size → w.heap.size + 1 + 1 < v.heap.size → w.heap.size + 1 + 1 ≤ v.heap.size → w.heap.size + 1 + 1 + 1 < v.heap.size → w.heap.size + 1 + 1 + 1 ≤ v.heap.size → w.heap.size + 1 + 1 + 1 + 1 < v.heap.size → w.heap.size + 1 + 1 + 1 + 1 ≤ v.heap.size → w.heap.size + 1 + 1 + 1 + 1 + 1 < v.heap.size → w.heap.size + 1 + 1 + 1 + 1 + 1 ≤ v.heap.size → w.heap.size + 1 + 1 + 1 + 1 + 1 + 1 < v.heap.size → w.heap.size + 1 + 1 + 1 + 1 + 1 + 1 ≤ v.heap.size → w.heap.size + 1 + 1 + 1 + 1 + 1 + 1 + 1 < v.heap.size → w.heap.size + 1 + 1 + 1 + 1 + 1 + 1 + 1 ≤ v.heap.size → C) : C := c (by omega) (by omega) (by omega) (by omega) (by omega) (by omega) (by omega) (by omega) (by omega) (by omega) (by omega) (by omega) (by omega) (by omega) (by omega) (by omega)
theorem zce (w : World) (b k : Nat) (v : Value) (h : w.cell? ⟨b, k, none⟩ = some v) : w.cell? ⟨b, k, none⟩ = some v := h
theorem zci (w : World) (b k : Nat) (v : Int) (h : w.cell? ⟨b, k, none⟩ = some (.int .i64 v)) : w.cell? ⟨b, k, none⟩ = some (.int .i64 v) := h
theorem zcu (w : World) (b k : Nat) (v : Int) (h : w.cell? ⟨b, k, none⟩ = some (.int .u64 v)) : w.cell? ⟨b, k, none⟩ = some (.int .u64 v) := h
theorem zfe (w : World) (b k : Nat) (h : w.frozen? ⟨b, k, none⟩ = false) : w.frozen? ⟨b, k, none⟩ = false := h
theorem zb {C : Prop} (b : Nat) (v : World) (h : b < v.heap.size) (c : b < v.heap.size → b ≤ v.heap.size → C) : C := c (by omega) (by omega)
theorem bth {n m : Nat} {a b c : World} (hb : Below m b c) (hn : n ≤ m) (h : Below n a b) : Below n a c := h.trans (hb.mono hn)
theorem blw_ {n : Nat} {w w' : World} (h : Below n w w' := by repeat (first | with_reducible exact Below.refl _ _ | with_reducible refine bdrew ?_ | ((with_reducible first | refine bset ?_ ?_ | refine ball ?_ ?_ | refine bth (by assumption) ?_ ?_); first | omega | (simp <;> omega)))) : Below n w w' := h
def vB (lo hi : Int) : Bool := decide (-9223372036854775807 ≤ lo ∧ lo ≤ hi)
theorem vB_t {lo hi : Int} (h1 : -9223372036854775807 ≤ lo) (h2 : lo ≤ hi) : vB lo hi = true := decide_eq_true ⟨h1, h2⟩
theorem vB_f {lo hi : Int} (h : lo < -9223372036854775807 ∨ hi < lo) : vB lo hi = false := decide_eq_false (by omega)
theorem vB_tt {lo hi : Int} (h : vB lo hi = true) : -9223372036854775807 ≤ lo ∧ lo ≤ hi := of_decide_eq_true h
theorem vB_ff {lo hi : Int} (h : vB lo hi = false) : lo < -9223372036854775807 ∨ hi < lo := by have := of_decide_eq_false h; omega
def withinB (al ah bl bh : Int) : Bool := vB al ah && vB bl bh && decide (bl ≤ al) && decide (ah ≤ bh)
def chkI (lo hi : Int) : Int := if vB lo hi then 0 else 2
def I64 (x : Int) : Prop := -9223372036854775808 ≤ x ∧ x ≤ 9223372036854775807
theorem i64_of_wf {x : Int} (h : (Lit.int .i64 x).wf = true) : I64 x := by
 simp [Lit.wf, IntKind.min, IntKind.max, IntKind.signed, IntKind.bits] at h
 exact ⟨by omega, by omega⟩
end
section
open Go.RowKit

theorem check_yes (lo hi : Int) (h : vB lo hi = true) (w : World) :
  Calls Try.prog 51 #[.agg #[.int .i64 (lo), .int .i64 (hi)]] w fun e w' => e = .returned (.int .i64 0) ∧ Below w.heap.size w w' := by
 obtain ⟨h1, h2⟩ := vB_tt h
 have g1 : (lo == -9223372036854775808) = false := by simp; omega
 have g2 : ¬ hi < lo := by omega
 clear h
 go_enter Try.func51, Try.ntmps51
 go_wp2
 go_ret
 exact ⟨rfl, (Below.refl _ _).alloc (Nat.le_refl _) _⟩

theorem check_no (lo hi : Int) (h0 : -9223372036854775808 ≤ lo) (h : vB lo hi = false) (w : World) :
  Calls Try.prog 51 #[.agg #[.int .i64 (lo), .int .i64 (hi)]] w fun e w' => e = .returned (.int .i64 2) ∧ Below w.heap.size w w' := by
 have h := vB_ff h
 by_cases g : lo = -9223372036854775808
 ·have g1 : (lo == -9223372036854775808) = true := by simpa using g
  clear h g
  go_enter Try.func51, Try.ntmps51
  go_wp2
  go_ret
  exact ⟨rfl, (Below.refl _ _).alloc (Nat.le_refl _) _⟩
 ·have g1 : (lo == -9223372036854775808) = false := by simpa using g
  have g2 : hi < lo := by omega
  clear h g
  go_enter Try.func51, Try.ntmps51
  go_wp2
  go_ret
  exact ⟨rfl, (Below.refl _ _).alloc (Nat.le_refl _) _⟩

theorem check_any (lo hi : Int) (h0 : -9223372036854775808 ≤ lo) (w : World) :
  Calls Try.prog 51 #[.agg #[.int .i64 (lo), .int .i64 (hi)]] w fun e w' => e = .returned (.int .i64 (chkI lo hi)) ∧ Below w.heap.size w w' := by
 unfold chkI
 cases h : vB lo hi
 ·exact check_no lo hi h0 h w
 ·exact check_yes lo hi h w

theorem invalid_no (L H : Nat → Int) (n b off cap : Nat) (hn : n ≤ 1000000) (w : World) (hV : ∀ i, i < n → vB (L i) (H i) = true)
  (hc : ∀ i, i < n → w.cell? ⟨b, off + i * 2, none⟩ = some (.int .i64 (L i)) ∧ w.cell? ⟨b, off + i * 2 + 1, none⟩ = some (.int .i64 (H i))) (hb : n = 0 ∨ b < w.heap.size) :
  Calls Try.prog 27 #[.slice (some ⟨b, off, none⟩) n cap] w fun e w' => e = .returned (.bool false) ∧ Below w.heap.size w w' := by
 have HC := hide hc
 have HV := hide hV
 have HB := hide hb
 clear hc hV hb
 go_enter Try.func27, Try.ntmps27
 go_wp2
 go_loopw [7] (fun i wr => ∃ k : Nat, k ≤ n ∧ i = .int .i64 k ∧ Below w.heap.size w wr) (fun i _ => n - (intOf i).toNat)
 case atStart => exact ⟨0, Nat.zero_le _, rfl, Below.refl _ _⟩
 case round =>
  obtain ⟨k, hk, rfl, hB⟩ := hrel
  by_cases hlt : k < n
  ·obtain ⟨c1, c2⟩ := HC.out k hlt
   have HV1 := hide (HV.out k hlt)
   have hbw : b < w.heap.size := by have := HB.out; omega
   have c1' := (hB.cell (p := ⟨b, off + k * 2, none⟩) hbw).trans c1
   have c2' := (hB.cell (p := ⟨b, off + k * 2 + 1, none⟩) hbw).trans c2
   clear c1 c2
   go_wp2_with (go_at_call 51; refine (check_yes _ _ HV1.out _).mono ?_; rintro e w1 ⟨rfl, hb1⟩)
   go_roundw
   case rel => exact ⟨k + 1, by omega, by go_num, hB.trans (((Below.refl _ _).alloc (by have := hB.size; omega) _).trans (hb1.mono (by have := hB.size; simp; omega)))⟩
   case measure => simp [intOf]; omega
  ·go_wp2
   go_ret
   exact ⟨rfl, hB⟩

theorem invalid_yes (L H : Nat → Int) (n m b off cap : Nat) (hn : n ≤ 1000000) (w : World) (hm : m < n) (hV : ∀ i, i < m → vB (L i) (H i) = true) (hM : vB (L m) (H m) = false) (hL : ∀ i, i < n → -9223372036854775808 ≤ L i)
  (hc : ∀ i, i < n → w.cell? ⟨b, off + i * 2, none⟩ = some (.int .i64 (L i)) ∧ w.cell? ⟨b, off + i * 2 + 1, none⟩ = some (.int .i64 (H i))) (hb : b < w.heap.size) :
  Calls Try.prog 27 #[.slice (some ⟨b, off, none⟩) n cap] w fun e w' => e = .returned (.bool true) ∧ Below w.heap.size w w' := by
 have HC := hide hc
 have HV := hide hV
 have HM := hide hM
 have HL := hide hL
 clear hc hV hM hL
 go_enter Try.func27, Try.ntmps27
 go_wp2
 go_loopw [7] (fun i wr => ∃ k : Nat, k ≤ m ∧ i = .int .i64 k ∧ Below w.heap.size w wr) (fun i _ => n - (intOf i).toNat)
 case atStart => exact ⟨0, Nat.zero_le _, rfl, Below.refl _ _⟩
 case round =>
  obtain ⟨k, hk, rfl, hB⟩ := hrel
  have hlt : k < n := by omega
  obtain ⟨c1, c2⟩ := HC.out k hlt
  have c1' := (hB.cell (p := ⟨b, off + k * 2, none⟩) hb).trans c1
  have c2' := (hB.cell (p := ⟨b, off + k * 2 + 1, none⟩) hb).trans c2
  clear c1 c2
  by_cases hkm : k < m
  ·have HV1 := hide (HV.out k hkm)
   go_wp2_with (go_at_call 51; refine (check_yes _ _ HV1.out _).mono ?_; rintro e w1 ⟨rfl, hb1⟩)
   go_roundw
   case rel => exact ⟨k + 1, by omega, by go_num, hB.trans (((Below.refl _ _).alloc (by have := hB.size; omega) _).trans (hb1.mono (by have := hB.size; simp; omega)))⟩
   case measure => simp [intOf]; omega
  ·obtain rfl : k = m := by omega
   have HL1 := hide (HL.out k hlt)
   go_wp2_with (go_at_call 51; refine (check_no _ _ HL1.out HM.out _).mono ?_; rintro e w1 ⟨rfl, hb1⟩)
   go_ret
   exact ⟨rfl, hB.trans (((Below.refl _ _).alloc (by have := hB.size; omega) _).trans (hb1.mono (by have := hB.size; simp; omega)))⟩

theorem invalid1 (lo hi : Int) (b cap : Nat) (w : World) (h0 : -9223372036854775808 ≤ lo) (hc0 : w.cell? ⟨b, 0, none⟩ = some (.int .i64 lo)) (hc1 : w.cell? ⟨b, 1, none⟩ = some (.int .i64 hi)) (hb : b < w.heap.size) (r : Bool) (hr : vB lo hi = !r) :
  Calls Try.prog 27 #[.slice (some ⟨b, 0, none⟩) 1 cap] w fun e w' => e = .returned (.bool r) ∧ Below w.heap.size w w' := by
 cases r
 ·exact invalid_no (fun _ => lo) (fun _ => hi) 1 b 0 cap (by omega) w (fun _ _ => by simpa using hr) (fun i hi => by (have h0i : i = 0 := by omega); subst h0i; exact ⟨hc0, hc1⟩) (.inr hb)
 ·exact invalid_yes (fun _ => lo) (fun _ => hi) 1 0 b 0 cap (by omega) w (by omega) (fun i hi => by omega) (by simpa using hr) (fun _ _ => h0) (fun i hi => by (have h0i : i = 0 := by omega); subst h0i; exact ⟨hc0, hc1⟩) hb

def pick2 (a b : Int) : Nat → Int
 | 0 => a
 | _ => b
theorem invalid2 (al ah bl bh : Int) (b cap : Nat) (w : World) (h0 : -9223372036854775808 ≤ al) (h1 : -9223372036854775808 ≤ bl) (hc0 : w.cell? ⟨b, 0, none⟩ = some (.int .i64 al)) (hc1 : w.cell? ⟨b, 1, none⟩ = some (.int .i64 ah))
  (hc2 : w.cell? ⟨b, 2, none⟩ = some (.int .i64 bl)) (hc3 : w.cell? ⟨b, 3, none⟩ = some (.int .i64 bh)) (hb : b < w.heap.size) (r : Bool) (hr : (vB al ah && vB bl bh) = !r) :
  Calls Try.prog 27 #[.slice (some ⟨b, 0, none⟩) 2 cap] w fun e w' => e = .returned (.bool r) ∧ Below w.heap.size w w' := by
 have hcs : ∀ i, i < 2 → w.cell? ⟨b, 0 + i * 2, none⟩ = some (.int .i64 (pick2 al bl i)) ∧ w.cell? ⟨b, 0 + i * 2 + 1, none⟩ = some (.int .i64 (pick2 ah bh i)) := by
  intro i hi
  match i, hi with
  | 0, _ => exact ⟨hc0, hc1⟩
  | 1, _ => exact ⟨hc2, hc3⟩
 cases r
 ·have hr : vB al ah = true ∧ vB bl bh = true := by simpa using hr
  refine invalid_no (pick2 al bl) (pick2 ah bh) 2 b 0 cap (by omega) w (fun i hi => ?_) hcs (.inr hb)
  match i, hi with
  | 0, _ => exact hr.1
  | 1, _ => exact hr.2
 ·have hL : ∀ i, i < 2 → -9223372036854775808 ≤ pick2 al bl i := fun i hi => by
   match i, hi with
   | 0, _ => exact h0
   | 1, _ => exact h1
  cases ha : vB al ah
  ·exact invalid_yes (pick2 al bl) (pick2 ah bh) 2 0 b 0 cap (by omega) w (by omega) (fun i hi => by omega) ha hL hcs hb
  ·have hb' : vB bl bh = false := by simpa [ha] using hr
   exact invalid_yes (pick2 al bl) (pick2 ah bh) 2 1 b 0 cap (by omega) w (by omega) (fun i hi => by (have h0i : i = 0 := by omega); subst h0i; exact ha) hb' hL hcs hb
end
section
open Go.RowKit

theorem rnumber (n : Int) (r : Bool) (hr : decide (-9223372036854775807 ≤ n) = r) (w : World) :
  Calls Try.prog 52 #[.int .i64 n] w fun e w' => e = .returned (.bool r) ∧ Below w.heap.size w w' := by
 have HR := hide hr
 clear hr
 go_enter Try.func52, Try.ntmps52
 go_wp2
 go_ret
 exact ⟨by rw [← HR.out]; rfl, blw_⟩

theorem rcheck (lo hi : Int) (r : Int) (hr : chkI lo hi = r) (w : World) :
  Calls Try.prog 30 #[.agg #[.int .i64 (lo), .int .i64 (hi)]] w fun e w' => e = .returned (.int .i64 r) ∧ Below w.heap.size w w' := by
 subst hr
 by_cases g1 : -9223372036854775807 ≤ lo
 ·by_cases g2 : hi < -9223372036854775807
  ·have HR := hide (show chkI lo hi = 2 by rw [chkI, vB_f (by omega)]; rfl)
   go_enter Try.func30, Try.ntmps30
   go_wp2_with fail; refine (rnumber lo true (by simpa using g1) _).mono ?_; rintro e w1 ⟨rfl, hb1⟩; obtain ⟨hc1, hf1⟩ := bcell hb1; have hz1 := hb1.size; try simp only [World.size_alloc] at hz1
   go_wp2_with fail; refine (rnumber hi false (by simpa using g2) _).mono ?_; rintro e w1 ⟨rfl, hb2⟩; have hb3 := hb1.trans (hb2.mono hb1.size); clear hc1 hf1 hz1 hb1 hb2; have hb1 := hb3; clear hb3; obtain ⟨hc1, hf1⟩ := bcell hb1; have hz1 := hb1.size; try simp only [World.size_alloc] at hz1
   go_wp2
   go_ret
   exact ⟨by rw [HR.out]; rfl, blw_⟩
  ·by_cases g3 : hi < lo
   ·have HR := hide (show chkI lo hi = 2 by rw [chkI, vB_f (by omega)]; rfl)
    go_enter Try.func30, Try.ntmps30
    go_wp2_with fail; refine (rnumber lo true (by simpa using g1) _).mono ?_; rintro e w1 ⟨rfl, hb1⟩; obtain ⟨hc1, hf1⟩ := bcell hb1; have hz1 := hb1.size; try simp only [World.size_alloc] at hz1
    go_wp2_with fail; refine (rnumber hi true (by simp; omega) _).mono ?_; rintro e w1 ⟨rfl, hb2⟩; have hb3 := hb1.trans (hb2.mono hb1.size); clear hc1 hf1 hz1 hb1 hb2; have hb1 := hb3; clear hb3; obtain ⟨hc1, hf1⟩ := bcell hb1; have hz1 := hb1.size; try simp only [World.size_alloc] at hz1
    go_wp2
    go_ret
    exact ⟨by rw [HR.out]; rfl, blw_⟩
   ·have HR := hide (show chkI lo hi = 0 by rw [chkI, vB_t (by omega) (by omega)]; rfl)
    go_enter Try.func30, Try.ntmps30
    go_wp2_with fail; refine (rnumber lo true (by simpa using g1) _).mono ?_; rintro e w1 ⟨rfl, hb1⟩; obtain ⟨hc1, hf1⟩ := bcell hb1; have hz1 := hb1.size; try simp only [World.size_alloc] at hz1
    go_wp2_with fail; refine (rnumber hi true (by simp; omega) _).mono ?_; rintro e w1 ⟨rfl, hb2⟩; have hb3 := hb1.trans (hb2.mono hb1.size); clear hc1 hf1 hz1 hb1 hb2; have hb1 := hb3; clear hb3; obtain ⟨hc1, hf1⟩ := bcell hb1; have hz1 := hb1.size; try simp only [World.size_alloc] at hz1
    go_wp2
    go_ret
    exact ⟨by rw [HR.out]; rfl, blw_⟩
 ·have HR := hide (show chkI lo hi = 2 by rw [chkI, vB_f (by omega)]; rfl)
  go_enter Try.func30, Try.ntmps30
  go_wp2_with fail; refine (rnumber lo false (by simp; omega) _).mono ?_; rintro e w1 ⟨rfl, hb1⟩; obtain ⟨hc1, hf1⟩ := bcell hb1; have hz1 := hb1.size; try simp only [World.size_alloc] at hz1
  go_wp2_with fail; refine (rnumber hi _ rfl _).mono ?_; rintro e w1 ⟨rfl, hb2⟩; have hb3 := hb1.trans (hb2.mono hb1.size); clear hc1 hf1 hz1 hb1 hb2; have hb1 := hb3; clear hb3; obtain ⟨hc1, hf1⟩ := bcell hb1; have hz1 := hb1.size; try simp only [World.size_alloc] at hz1
  go_wp2
  go_ret
  exact ⟨by rw [HR.out]; rfl, blw_⟩
theorem rboth_aux (al ah bl bh x y r : Int) (hx : chkI al ah = x) (hy : chkI bl bh = y) (hm : (if x < y then y else x) = r) (w : World) :
  Calls Try.prog 31 #[.agg #[.int .i64 (al), .int .i64 (ah)], .agg #[.int .i64 (bl), .int .i64 (bh)]] w fun e w' => e = .returned (.int .i64 r) ∧ Below w.heap.size w w' := by
 have HX := hide hx
 have HY := hide hy
 clear hx hy
 go_enter Try.func31, Try.ntmps31
 go_wp2_with fail
 refine QT.quiet_b (by kernel_rfl) (by kernel_rfl) ?_
 repeat (first
  | go_big_quiet_skip
  | (go_big_quiet_want; go_big_quiet_op; first
   | go_big_quiet_on
   | (apply Exists.intro
      refine ⟨fun _ => ?_, ?_⟩
      ·first
       | rfl
       | (intro hC; obtain ⟨hcq, hfq⟩ := bcellB hC; go_simp; done)
       | (intro hC; obtain ⟨hcq, hfq⟩ := bcellB hC; go_simp; rfl)
       | (intro hC; have hcq := bcellG hC; go_simp; done)
       | (intro hC; have hcq := bcellG hC; go_simp; rfl)
       | (intro hC; go_at_call 30; (first | (with_reducible refine (rcheck al ah x HX.out _).mono ?_) | (with_reducible refine (rcheck bl bh y HY.out _).mono ?_)); (intro e w2 hw; exact ⟨hw.1, qtrans (by simp) hC hw.2⟩))
      go_big_quiet_on)))
 refine wpQuiet_nil ?_
 intro w9 hC9
 obtain ⟨hc9, hf9⟩ := bcellB hC9
 have hz9 := hC9.size
 go_wp2
 go_ret
 exact ⟨rfl, blw_⟩
theorem rboth (al ah bl bh : Int) (r : Int) (hr : (if vB al ah && vB bl bh then 0 else 2) = r) (w : World) :
  Calls Try.prog 31 #[.agg #[.int .i64 (al), .int .i64 (ah)], .agg #[.int .i64 (bl), .int .i64 (bh)]] w fun e w' => e = .returned (.int .i64 r) ∧ Below w.heap.size w w' := by
 refine rboth_aux al ah bl bh _ _ r rfl rfl ?_ w
 subst hr
 unfold chkI
 cases vB al ah <;> cases vB bl bh <;> simp
end
section
open Go.RowKit
def wH (x : Int) : Int := x / 18446744073709551616
def wL (x : Int) : Int := x % 18446744073709551616
def R127 (x : Int) : Prop := -170141183460469231731687303715884105728 ≤ x ∧ x < 170141183460469231731687303715884105728
def R126 (x : Int) : Prop := -85070591730234615865843651857942052864 ≤ x ∧ x ≤ 85070591730234615865843651857942052864

theorem u64w (n : Int) : IntKind.u64.wrap n = n % 18446744073709551616 := IntKind.wrap_u64 n
theorem rof (n : Int) (hn : I64 n) (w : World) :
  Calls Try.prog 53 #[.int .i64 n] w fun e w' => e = .returned (.agg #[.int .i64 (wH (n)), .int .u64 (wL (n))]) ∧ Below w.heap.size w w' := by
 obtain ⟨h0, h1⟩ := hn
 by_cases g : n < 0
 ·have e1 := hide (show (-1 : Int) = wH n by unfold wH; omega)
  have e2 := hide (show IntKind.u64.wrap n = wL n by rw [u64w]; rfl)
  go_enter Try.func53, Try.ntmps53
  go_wp2
  refine bodyPost_ret (v := .agg #[.int .i64 (wH (n)), .int .u64 (wL (n))]) ?_ rfl ⟨rfl, blw_⟩
  rw [← e1.out, ← e2.out]
  simp [results, Try.results53, go_sem]
 ·have e1 := hide (show (0 : Int) = wH n by unfold wH; omega)
  have e2 := hide (show n = wL n by unfold wL; omega)
  go_enter Try.func53, Try.ntmps53
  go_wp2
  refine bodyPost_ret (v := .agg #[.int .i64 (wH (n)), .int .u64 (wL (n))]) ?_ rfl ⟨rfl, blw_⟩
  rw [← e1.out, ← e2.out]
  simp [results, Try.results53, go_sem]
theorem wadd_c {x y : Int} (hx : R127 x) (hy : R127 y) (hs : R127 (x + y)) (c : IntKind.u64.wrap (wL x + wL y) < wL x) :
  wrap64 (wrap64 (wH x + wH y) + 1) = wH (x + y) ∧ IntKind.u64.wrap (wL x + wL y) = wL (x + y) := by
 obtain ⟨_, _⟩ := hx; obtain ⟨_, _⟩ := hy; obtain ⟨_, _⟩ := hs
 rw [u64w] at *
 unfold wrap64 wH wL at *
 constructor <;> omega
theorem wadd_n {x y : Int} (hx : R127 x) (hy : R127 y) (hs : R127 (x + y)) (c : ¬ IntKind.u64.wrap (wL x + wL y) < wL x) :
  wrap64 (wH x + wH y) = wH (x + y) ∧ IntKind.u64.wrap (wL x + wL y) = wL (x + y) := by
 obtain ⟨_, _⟩ := hx; obtain ⟨_, _⟩ := hy; obtain ⟨_, _⟩ := hs
 rw [u64w] at *
 unfold wrap64 wH wL at *
 constructor <;> omega
theorem rplus (x y : Int) (hx : R127 x) (hy : R127 y) (hs : R127 (x + y)) (w : World) :
  Calls Try.prog 33 #[.agg #[.int .i64 (wH (x)), .int .u64 (wL (x))], .agg #[.int .i64 (wH (y)), .int .u64 (wL (y))]] w fun e w' => e = .returned (.agg #[.int .i64 (wH (x + y)), .int .u64 (wL (x + y))]) ∧ Below w.heap.size w w' := by
 by_cases c : IntKind.u64.wrap (wL x + wL y) < wL x
 ·have E := hide (wadd_c hx hy hs c)
  clear hx hy hs
  go_enter Try.func33, Try.ntmps33
  go_wp2
  refine bodyPost_ret (v := .agg #[.int .i64 (wH (x + y)), .int .u64 (wL (x + y))]) ?_ rfl ⟨rfl, blw_⟩
  rw [← E.out.1, ← E.out.2]
  simp [results, Try.results33, go_sem]
 ·have E := hide (wadd_n hx hy hs c)
  clear hx hy hs
  go_enter Try.func33, Try.ntmps33
  go_wp2
  refine bodyPost_ret (v := .agg #[.int .i64 (wH (x + y)), .int .u64 (wL (x + y))]) ?_ rfl ⟨rfl, blw_⟩
  rw [← E.out.1, ← E.out.2]
  simp [results, Try.results33, go_sem]
theorem rless (x y : Int) (w : World) :
  Calls Try.prog 42 #[.agg #[.int .i64 (wH (x)), .int .u64 (wL (x))], .agg #[.int .i64 (wH (y)), .int .u64 (wL (y))]] w fun e w' => e = .returned (.bool (decide (x < y))) ∧ Below w.heap.size w w' := by
 by_cases g1 : wH x < wH y
 ·have e1 := hide (show decide (x < y) = true by rw [decide_eq_true_eq]; unfold wH at g1; omega)
  go_enter Try.func42, Try.ntmps42
  go_wp2
  go_ret
  exact ⟨by rw [e1.out]; rfl, blw_⟩
 ·by_cases g2 : wH x = wH y
  ·by_cases g3 : wL x < wL y
   ·have e1 := hide (show decide (x < y) = true by rw [decide_eq_true_eq]; unfold wH wL at *; omega)
    have g4 : (wH x == wH y) = true := by simpa using g2
    clear g2
    go_enter Try.func42, Try.ntmps42
    go_wp2
    go_ret
    exact ⟨by rw [e1.out]; first | rfl | (simp; omega), blw_⟩
   ·have e1 := hide (show decide (x < y) = false by rw [decide_eq_false_iff_not]; unfold wH wL at *; omega)
    have g4 : (wH x == wH y) = true := by simpa using g2
    have g5 := hide g3
    clear g2
    go_enter Try.func42, Try.ntmps42
    go_wp2
    go_ret
    exact ⟨by rw [e1.out]; have := g5.out; first | rfl | (simp; omega), blw_⟩
  ·have e1 := hide (show decide (x < y) = false by rw [decide_eq_false_iff_not]; unfold wH at *; omega)
   have g4 : (wH x == wH y) = false := by simpa using g2
   have g5 := hide g1
   clear g2
   go_enter Try.func42, Try.ntmps42
   go_wp2
   go_ret
   exact ⟨by rw [e1.out]; have := g5.out; first | rfl | (simp; omega), blw_⟩
theorem not64 (n : Int) (h : I64 n) : bits .xor .i64 (-1) n = -n - 1 := by
 obtain ⟨h0, h1⟩ := h
 show IntKind.i64.wrap ((BitVec.ofInt 64 (-1) ^^^ BitVec.ofInt 64 n).toNat : Int) = _
 have e : BitVec.ofInt 64 (-1) = BitVec.allOnes 64 := by decide
 have e2 : (BitVec.allOnes 64 ^^^ BitVec.ofInt 64 n) = ~~~ BitVec.ofInt 64 n := BitVec.allOnes_xor
 rw [e, e2, BitVec.toNat_not, BitVec.toNat_ofInt, IntKind.wrap_i64]
 omega
theorem notu64 (n : Int) (h0 : 0 ≤ n) (h1 : n < 18446744073709551616) : bits .xor .u64 IntKind.u64.max n = 18446744073709551615 - n := by
 show IntKind.u64.wrap ((BitVec.ofInt 64 IntKind.u64.max ^^^ BitVec.ofInt 64 n).toNat : Int) = _
 have e : BitVec.ofInt 64 IntKind.u64.max = BitVec.allOnes 64 := by decide
 have e2 : (BitVec.allOnes 64 ^^^ BitVec.ofInt 64 n) = ~~~ BitVec.ofInt 64 n := BitVec.allOnes_xor
 rw [e, e2, BitVec.toNat_not, BitVec.toNat_ofInt, u64w]
 omega
theorem rminus (x : Int) (hx : R126 x) (w : World) :
  Calls Try.prog 44 #[.agg #[.int .i64 (wH (x)), .int .u64 (wL (x))]] w fun e w' => e = .returned (.agg #[.int .i64 (wH (-x)), .int .u64 (wL (-x))]) ∧ Below w.heap.size w w' := by
 have s1 : IntKind.i64.signed = true := rfl
 have s2 : IntKind.u64.signed = false := rfl
 have e1 : bits .xor .i64 (-1) (wH x) = wH (-x - 1) := by
  obtain ⟨_, _⟩ := hx
  rw [not64 _ (by unfold wH I64; omega)]
  unfold wH; omega
 have e2 : bits .xor .u64 IntKind.u64.max (wL x) = wL (-x - 1) := by
  rw [notu64 _ (by unfold wL; omega) (by unfold wL; omega)]
  unfold wL; omega
 have e3 : (0 : Int) = wH 1 := by decide
 have e4 : (1 : Int) = wL 1 := by decide
 have E3 := hide e3
 have E4 := hide e4
 have E5 := hide (show -x - 1 + 1 = -x by omega)
 have HX := hide hx
 clear e3 e4 hx
 go_enter Try.func44, Try.ntmps44
 go_wp2_with fail
 have hp := rplus (-x - 1) 1 (by obtain ⟨_, _⟩ := HX.out; constructor <;> omega) (by constructor <;> omega) (by obtain ⟨_, _⟩ := HX.out; constructor <;> omega)
 rw [← E3.out, ← E4.out, E5.out] at hp
 refine (hp _).mono ?_
 rintro e w1 ⟨rfl, hb1⟩
 obtain ⟨hc1, hf1⟩ := bcell hb1
 have hz1 := hb1.size
 go_wp2
 refine bodyPost_ret (v := .agg #[.int .i64 (wH (-x)), .int .u64 (wL (-x))]) (by simp only [results, Try.results44]; go_simp) rfl ⟨rfl, blw_⟩
theorem rwide (n : Int) (hn : I64 n) (w : World) :
  Calls Try.prog 34 #[.int .i64 n] w fun e w' => e = .returned (.agg #[.int .i64 (wH (n)), .int .u64 (wL (n))]) ∧ Below w.heap.size w w' := by
 go_enter Try.func34, Try.ntmps34
 go_wp2_with (go_at_call 53; refine (rof n hn _).mono ?_; rintro e w1 ⟨rfl, hb1⟩; obtain ⟨hc1, hf1⟩ := bcell hb1; have hz1 := hb1.size; try simp only [World.size_alloc] at hz1)
 refine bodyPost_ret (v := .agg #[.int .i64 (wH (n)), .int .u64 (wL (n))]) (by simp only [results, Try.results34]; go_simp) rfl ⟨rfl, blw_⟩
end
section
open Go.RowKit
def fits (lo hi : Int) : Bool := decide (-9223372036854775807 ≤ lo ∧ lo ≤ 9223372036854775807 ∧ -9223372036854775807 ≤ hi ∧ hi ≤ 9223372036854775807)
def oLo (lo hi : Int) : Int := if fits lo hi then lo else 0
def oHi (lo hi : Int) : Int := if fits lo hi then hi else 0
def oE (lo hi : Int) : Int := if fits lo hi then 0 else 4
def okI (v : Bool) (x : Int) : Int := if v then x else 0
def errE (v : Bool) (e : Int) : Int := if v then e else 2
theorem out_t {lo hi : Int} (h : fits lo hi = true) : oLo lo hi = lo ∧ oHi lo hi = hi ∧ oE lo hi = 0 := by simp [oLo, oHi, oE, h]
theorem out_f {lo hi : Int} (h : fits lo hi = false) : oLo lo hi = 0 ∧ oHi lo hi = 0 ∧ oE lo hi = 4 := by simp [oLo, oHi, oE, h]
theorem ok_t (x : Int) : okI true x = x := rfl
theorem ok_f (x : Int) : okI false x = 0 := rfl
theorem err_t (x : Int) : errE true x = x := rfl
theorem err_f (x : Int) : errE false x = 2 := rfl

theorem i64_lo : I64 (-9223372036854775807) := by constructor <;> omega
theorem i64_hi : I64 9223372036854775807 := by constructor <;> omega
theorem rless_r (x y : Int) (r : Bool) (hr : decide (x < y) = r) (w : World) :
  Calls Try.prog 42 #[.agg #[.int .i64 (wH (x)), .int .u64 (wL (x))], .agg #[.int .i64 (wH (y)), .int .u64 (wL (y))]] w fun e w' => e = .returned (.bool r) ∧ Below w.heap.size w w' := by
 subst hr; exact rless x y w
theorem w64L {x : Int} (h : I64 x) : wrap64 (wL x) = x := by obtain ⟨_, _⟩ := h; unfold wrap64 wL; omega

theorem rout (lo hi : Int) (w : World) :
  Calls Try.prog 32 #[.agg #[.int .i64 (wH (lo)), .int .u64 (wL (lo))], .agg #[.int .i64 (wH (hi)), .int .u64 (wL (hi))]] w fun e w' => e = .returned (.tuple #[.agg #[.int .i64 (oLo lo hi), .int .i64 (oHi lo hi)], .int .i64 (oE lo hi)]) ∧ Below w.heap.size w w' := by
 by_cases c1 : lo < -9223372036854775807
 ·have E := hide (out_f (lo := lo) (hi := hi) (decide_eq_false (by omega)))
  have k1 : decide (lo < -9223372036854775807) = true := decide_eq_true c1
  go_enter Try.func32, Try.ntmps32
  go_wp2_with fail
  refine QT.quiet_b (by kernel_rfl) (by kernel_rfl) ?_
  repeat (first
   | go_big_quiet_skip
   | (go_big_quiet_want; go_big_quiet_op; first
    | go_big_quiet_on
    | (apply Exists.intro
       refine ⟨fun _ => ?_, ?_⟩
       ·first
        | rfl
        | (intro hC; obtain ⟨hcq, hfq⟩ := bcellB hC; go_simp; done)
        | (intro hC; obtain ⟨hcq, hfq⟩ := bcellB hC; go_simp; rfl)
        | (intro hC; have hcq := bcellG hC; go_simp; done)
        | (intro hC; have hcq := bcellG hC; go_simp; rfl)
        | (intro hC; go_at_call 53; (first | (with_reducible refine (rof (-9223372036854775807) i64_lo _).mono ?_) | (with_reducible refine (rof 9223372036854775807 i64_hi _).mono ?_)); (intro e w2 hw; exact ⟨hw.1, qtrans (by simp) hC hw.2⟩))
        | (intro hC; go_at_call 42; (first | (with_reducible refine (rless_r lo (-9223372036854775807) true k1 _).mono ?_)); (intro e w2 hw; exact ⟨hw.1, qtrans (by simp) hC hw.2⟩))
       go_big_quiet_on)))
  refine wpQuiet_nil ?_
  intro w9 hC9
  obtain ⟨hc9, hf9⟩ := bcellB hC9
  have hz9 := hC9.size
  go_wp2
  rw [E.out.1, E.out.2.1, E.out.2.2]
  refine bodyPost_ret (v := .tuple #[.agg #[.int .i64 (0), .int .i64 (0)], .int .i64 4]) (by simp only [results, Try.results32]; go_simp) rfl ⟨rfl, blw_⟩
 by_cases c2 : 9223372036854775807 < lo
 ·have E := hide (out_f (lo := lo) (hi := hi) (decide_eq_false (by omega)))
  have k1 : decide (lo < -9223372036854775807) = false := decide_eq_false c1
  have k2 : decide (9223372036854775807 < lo) = true := decide_eq_true c2
  go_enter Try.func32, Try.ntmps32
  go_wp2_with fail
  refine QT.quiet_b (by kernel_rfl) (by kernel_rfl) ?_
  repeat (first
   | go_big_quiet_skip
   | (go_big_quiet_want; go_big_quiet_op; first
    | go_big_quiet_on
    | (apply Exists.intro
       refine ⟨fun _ => ?_, ?_⟩
       ·first
        | rfl
        | (intro hC; obtain ⟨hcq, hfq⟩ := bcellB hC; go_simp; done)
        | (intro hC; obtain ⟨hcq, hfq⟩ := bcellB hC; go_simp; rfl)
        | (intro hC; have hcq := bcellG hC; go_simp; done)
        | (intro hC; have hcq := bcellG hC; go_simp; rfl)
        | (intro hC; go_at_call 53; (first | (with_reducible refine (rof (-9223372036854775807) i64_lo _).mono ?_) | (with_reducible refine (rof 9223372036854775807 i64_hi _).mono ?_)); (intro e w2 hw; exact ⟨hw.1, qtrans (by simp) hC hw.2⟩))
        | (intro hC; go_at_call 42; (first | (with_reducible refine (rless_r lo (-9223372036854775807) false k1 _).mono ?_) | (with_reducible refine (rless_r 9223372036854775807 lo true k2 _).mono ?_)); (intro e w2 hw; exact ⟨hw.1, qtrans (by simp) hC hw.2⟩))
       go_big_quiet_on)))
  refine wpQuiet_nil ?_
  intro w9 hC9
  obtain ⟨hc9, hf9⟩ := bcellB hC9
  have hz9 := hC9.size
  go_wp2
  rw [E.out.1, E.out.2.1, E.out.2.2]
  refine bodyPost_ret (v := .tuple #[.agg #[.int .i64 (0), .int .i64 (0)], .int .i64 4]) (by simp only [results, Try.results32]; go_simp) rfl ⟨rfl, blw_⟩
 by_cases c3 : hi < -9223372036854775807
 ·have E := hide (out_f (lo := lo) (hi := hi) (decide_eq_false (by omega)))
  have k1 : decide (lo < -9223372036854775807) = false := decide_eq_false c1
  have k2 : decide (9223372036854775807 < lo) = false := decide_eq_false c2
  have k3 : decide (hi < -9223372036854775807) = true := decide_eq_true c3
  go_enter Try.func32, Try.ntmps32
  go_wp2_with fail
  refine QT.quiet_b (by kernel_rfl) (by kernel_rfl) ?_
  repeat (first
   | go_big_quiet_skip
   | (go_big_quiet_want; go_big_quiet_op; first
    | go_big_quiet_on
    | (apply Exists.intro
       refine ⟨fun _ => ?_, ?_⟩
       ·first
        | rfl
        | (intro hC; obtain ⟨hcq, hfq⟩ := bcellB hC; go_simp; done)
        | (intro hC; obtain ⟨hcq, hfq⟩ := bcellB hC; go_simp; rfl)
        | (intro hC; have hcq := bcellG hC; go_simp; done)
        | (intro hC; have hcq := bcellG hC; go_simp; rfl)
        | (intro hC; go_at_call 53; (first | (with_reducible refine (rof (-9223372036854775807) i64_lo _).mono ?_) | (with_reducible refine (rof 9223372036854775807 i64_hi _).mono ?_)); (intro e w2 hw; exact ⟨hw.1, qtrans (by simp) hC hw.2⟩))
        | (intro hC; go_at_call 42; (first | (with_reducible refine (rless_r lo (-9223372036854775807) false k1 _).mono ?_) | (with_reducible refine (rless_r 9223372036854775807 lo false k2 _).mono ?_) | (with_reducible refine (rless_r hi (-9223372036854775807) true k3 _).mono ?_)); (intro e w2 hw; exact ⟨hw.1, qtrans (by simp) hC hw.2⟩))
       go_big_quiet_on)))
  refine wpQuiet_nil ?_
  intro w9 hC9
  obtain ⟨hc9, hf9⟩ := bcellB hC9
  have hz9 := hC9.size
  go_wp2
  rw [E.out.1, E.out.2.1, E.out.2.2]
  refine bodyPost_ret (v := .tuple #[.agg #[.int .i64 (0), .int .i64 (0)], .int .i64 4]) (by simp only [results, Try.results32]; go_simp) rfl ⟨rfl, blw_⟩
 by_cases c4 : 9223372036854775807 < hi
 ·have E := hide (out_f (lo := lo) (hi := hi) (decide_eq_false (by omega)))
  have k1 : decide (lo < -9223372036854775807) = false := decide_eq_false c1
  have k2 : decide (9223372036854775807 < lo) = false := decide_eq_false c2
  have k3 : decide (hi < -9223372036854775807) = false := decide_eq_false c3
  have k4 : decide (9223372036854775807 < hi) = true := decide_eq_true c4
  go_enter Try.func32, Try.ntmps32
  go_wp2_with fail
  refine QT.quiet_b (by kernel_rfl) (by kernel_rfl) ?_
  repeat (first
   | go_big_quiet_skip
   | (go_big_quiet_want; go_big_quiet_op; first
    | go_big_quiet_on
    | (apply Exists.intro
       refine ⟨fun _ => ?_, ?_⟩
       ·first
        | rfl
        | (intro hC; obtain ⟨hcq, hfq⟩ := bcellB hC; go_simp; done)
        | (intro hC; obtain ⟨hcq, hfq⟩ := bcellB hC; go_simp; rfl)
        | (intro hC; have hcq := bcellG hC; go_simp; done)
        | (intro hC; have hcq := bcellG hC; go_simp; rfl)
        | (intro hC; go_at_call 53; (first | (with_reducible refine (rof (-9223372036854775807) i64_lo _).mono ?_) | (with_reducible refine (rof 9223372036854775807 i64_hi _).mono ?_)); (intro e w2 hw; exact ⟨hw.1, qtrans (by simp) hC hw.2⟩))
        | (intro hC; go_at_call 42; (first | (with_reducible refine (rless_r lo (-9223372036854775807) false k1 _).mono ?_) | (with_reducible refine (rless_r 9223372036854775807 lo false k2 _).mono ?_) | (with_reducible refine (rless_r hi (-9223372036854775807) false k3 _).mono ?_) | (with_reducible refine (rless_r 9223372036854775807 hi true k4 _).mono ?_)); (intro e w2 hw; exact ⟨hw.1, qtrans (by simp) hC hw.2⟩))
       go_big_quiet_on)))
  refine wpQuiet_nil ?_
  intro w9 hC9
  obtain ⟨hc9, hf9⟩ := bcellB hC9
  have hz9 := hC9.size
  go_wp2
  rw [E.out.1, E.out.2.1, E.out.2.2]
  refine bodyPost_ret (v := .tuple #[.agg #[.int .i64 (0), .int .i64 (0)], .int .i64 4]) (by simp only [results, Try.results32]; go_simp) rfl ⟨rfl, blw_⟩
 ·have E := hide (out_t (lo := lo) (hi := hi) (decide_eq_true (by omega)))
  have e1 : wrap64 (wL lo) = lo := w64L (by constructor <;> omega)
  have e2 : wrap64 (wL hi) = hi := w64L (by constructor <;> omega)
  have k1 : decide (lo < -9223372036854775807) = false := decide_eq_false c1
  have k2 : decide (9223372036854775807 < lo) = false := decide_eq_false c2
  have k3 : decide (hi < -9223372036854775807) = false := decide_eq_false c3
  have k4 : decide (9223372036854775807 < hi) = false := decide_eq_false c4
  go_enter Try.func32, Try.ntmps32
  go_wp2_with fail
  refine QT.quiet_b (by kernel_rfl) (by kernel_rfl) ?_
  repeat (first
   | go_big_quiet_skip
   | (go_big_quiet_want; go_big_quiet_op; first
    | go_big_quiet_on
    | (apply Exists.intro
       refine ⟨fun _ => ?_, ?_⟩
       ·first
        | rfl
        | (intro hC; obtain ⟨hcq, hfq⟩ := bcellB hC; go_simp; done)
        | (intro hC; obtain ⟨hcq, hfq⟩ := bcellB hC; go_simp; rfl)
        | (intro hC; have hcq := bcellG hC; go_simp; done)
        | (intro hC; have hcq := bcellG hC; go_simp; rfl)
        | (intro hC; go_at_call 53; (first | (with_reducible refine (rof (-9223372036854775807) i64_lo _).mono ?_) | (with_reducible refine (rof 9223372036854775807 i64_hi _).mono ?_)); (intro e w2 hw; exact ⟨hw.1, qtrans (by simp) hC hw.2⟩))
        | (intro hC; go_at_call 42; (first | (with_reducible refine (rless_r lo (-9223372036854775807) false k1 _).mono ?_) | (with_reducible refine (rless_r 9223372036854775807 lo false k2 _).mono ?_) | (with_reducible refine (rless_r hi (-9223372036854775807) false k3 _).mono ?_) | (with_reducible refine (rless_r 9223372036854775807 hi false k4 _).mono ?_)); (intro e w2 hw; exact ⟨hw.1, qtrans (by simp) hC hw.2⟩))
       go_big_quiet_on)))
  refine wpQuiet_nil ?_
  intro w9 hC9
  obtain ⟨hc9, hf9⟩ := bcellB hC9
  have hz9 := hC9.size
  go_wp2
  rw [E.out.1, E.out.2.1, E.out.2.2]
  refine bodyPost_ret (v := .tuple #[.agg #[.int .i64 (lo), .int .i64 (hi)], .int .i64 0]) (by simp only [results, Try.results32]; go_simp) rfl ⟨rfl, blw_⟩
end
section
open Go.RowKit
theorem plus_yes (x y : Int) (h : -9223372036854775807 ≤ x + y ∧ x + y ≤ 9223372036854775807) (w : World) :
  Calls Try.prog 29 #[.int .i64 x, .int .i64 y] w fun e w' => e = .returned (.tuple #[.int .i64 (x + y), .bool true]) ∧ Below w.heap.size w w' := by
 obtain ⟨h0, h1⟩ := h
 have g1 : (x + y != -9223372036854775808) = true := by rw [bne_iff_ne]; omega
 have g2 : (decide (x + y < x) == decide (y < 0)) = true := by rw [beq_iff_eq, decide_eq_decide]; omega
 go_enter Try.func29, Try.ntmps29
 go_wp2
 go_ret2
 exact ⟨rfl, Below.refl _ _⟩
theorem plus_no (x y : Int) (hx : I64 x) (hy : I64 y) (h : ¬ (-9223372036854775807 ≤ x + y ∧ x + y ≤ 9223372036854775807)) (w : World) :
  Calls Try.prog 29 #[.int .i64 x, .int .i64 y] w fun e w' => e = .returned (.tuple #[.int .i64 (wrap64 (x + y)), .bool false]) ∧ Below w.heap.size w w' := by
 obtain ⟨x0, x1⟩ := hx; obtain ⟨y0, y1⟩ := hy
 have HX := hide (And.intro (And.intro x0 x1) (And.intro y0 y1))
 by_cases g : wrap64 (x + y) = -9223372036854775808
 ·have g1 : (wrap64 (x + y) != -9223372036854775808) = false := by rw [g]; rfl
  clear g h x0 x1 y0 y1
  go_enter Try.func29, Try.ntmps29
  go_wp2
  go_ret2
  exact ⟨rfl, Below.refl _ _⟩
 ·have g1 : (wrap64 (x + y) != -9223372036854775808) = true := by rw [bne_iff_ne]; exact g
  have g2 : (decide (wrap64 (x + y) < x) == decide (y < 0)) = false := by
   rw [beq_eq_false_iff_ne, ne_eq, decide_eq_decide]
   unfold wrap64 at *; omega
  clear g h x0 x1 y0 y1
  go_enter Try.func29, Try.ntmps29
  go_wp2
  go_ret2
  exact ⟨rfl, Below.refl _ _⟩
theorem fits_t {lo hi : Int} (h1 : -9223372036854775807 ≤ lo ∧ lo ≤ 9223372036854775807) (h2 : -9223372036854775807 ≤ hi ∧ hi ≤ 9223372036854775807) : fits lo hi = true := decide_eq_true ⟨h1.1, h1.2, h2.1, h2.2⟩
theorem fits_f {lo hi : Int} (h : ¬ ((-9223372036854775807 ≤ lo ∧ lo ≤ 9223372036854775807) ∧ (-9223372036854775807 ≤ hi ∧ hi ≤ 9223372036854775807))) : fits lo hi = false := decide_eq_false (by omega)

theorem add_any (al ah bl bh : Int) (i0 : I64 al) (i1 : I64 ah) (i2 : I64 bl) (i3 : I64 bh) (w : World) :
  Calls Try.prog 14 #[.agg #[.int .i64 (al), .int .i64 (ah)], .agg #[.int .i64 (bl), .int .i64 (bh)]] w fun e w' => e = .returned (.tuple #[.agg #[.int .i64 (okI (vB al ah && vB bl bh) (oLo (al + bl) (ah + bh))), .int .i64 (okI (vB al ah && vB bl bh) (oHi (al + bl) (ah + bh)))], .int .i64 (errE (vB al ah && vB bl bh) (oE (al + bl) (ah + bh)))]) ∧ Below w.heap.size w w' := by
 have h0 := i0.1
 have h1 := i2.1
 have I0 := hide i0
 have I1 := hide i1
 have I2 := hide i2
 have I3 := hide i3
 clear i0 i1 i2 i3
 cases hv : (vB al ah && vB bl bh)
 ·rw [ok_f, ok_f, err_f]
  have HV := hide hv
  clear hv
  go_enter Try.func14, Try.ntmps14
  go_wp2_with (go_at_call 27; refine (invalid2 al ah bl bh _ _ _ h0 h1 (by go_simp) (by go_simp) (by go_simp) (by go_simp) (by go_simp) true (by simpa using HV.out)).mono ?_; rintro e w1 ⟨rfl, hb1⟩; obtain ⟨hc1, hf1⟩ := bcell hb1; have hz1 := hb1.size; try simp only [World.size_alloc] at hz1)
  refine bodyPost_ret (v := .tuple #[.agg #[.int .i64 (0), .int .i64 (0)], .int .i64 2]) (by simp only [results, Try.results14]; go_simp) rfl ⟨rfl, blw_⟩
 ·rw [ok_t, ok_t, err_t]
  have HV := hide hv
  clear hv
  by_cases c1 : -9223372036854775807 ≤ al + bl ∧ al + bl ≤ 9223372036854775807
  ·by_cases c2 : -9223372036854775807 ≤ ah + bh ∧ ah + bh ≤ 9223372036854775807
   ·have E := hide (out_t (fits_t c1 c2))
    have C1 := hide c1
    have C2 := hide c2
    clear c1 c2
    go_enter Try.func14, Try.ntmps14
    go_wp2_with fail
    go_at_call 27
    refine (invalid2 al ah bl bh _ _ _ h0 h1 (by go_simp) (by go_simp) (by go_simp) (by go_simp) (by go_simp) false (by simpa using HV.out)).mono ?_
    rintro e w1 ⟨rfl, hb1⟩
    obtain ⟨hc1, hf1⟩ := bcell hb1
    have hz1 := hb1.size
    try simp only [World.size_alloc, World.size_setCell] at hz1
    try refine zw4 w w1 (by omega) fun _ _ _ _ _ _ _ _ => ?_
    go_wp2_with fail
    refine (plus_yes al bl C1.out _).mono ?_
    rintro e w2 ⟨rfl, hb2⟩
    obtain ⟨hc2, hf2⟩ := bcell hb2
    have hz2 := hb2.size
    try simp only [World.size_alloc, World.size_setCell] at hz2
    try refine zw4 w w2 (by omega) fun _ _ _ _ _ _ _ _ => ?_
    try have : w1.heap.size < w2.heap.size := by omega
    try have : w1.heap.size ≤ w2.heap.size := by omega
    go_wp2_with fail
    refine (plus_yes ah bh C2.out _).mono ?_
    rintro e w3 ⟨rfl, hb3⟩
    obtain ⟨hc3, hf3⟩ := bcell hb3
    have hz3 := hb3.size
    try simp only [World.size_alloc, World.size_setCell] at hz3
    try refine zw4 w w3 (by omega) fun _ _ _ _ _ _ _ _ => ?_
    try have : w1.heap.size < w3.heap.size := by omega
    try have : w1.heap.size ≤ w3.heap.size := by omega
    try have : w2.heap.size < w3.heap.size := by omega
    try have : w2.heap.size ≤ w3.heap.size := by omega
    go_wp2
    rw [E.out.1, E.out.2.1, E.out.2.2]
    refine bodyPost_ret (v := .tuple #[.agg #[.int .i64 (al + bl), .int .i64 (ah + bh)], .int .i64 0]) (by simp only [results, Try.results14]; go_simp) rfl ⟨rfl, blw_⟩
   ·have E := hide (out_f (lo := al + bl) (hi := ah + bh) (fits_f (by omega)))
    have C1 := hide c1
    have C2 := hide c2
    clear c1 c2
    go_enter Try.func14, Try.ntmps14
    go_wp2_with fail
    go_at_call 27
    refine (invalid2 al ah bl bh _ _ _ h0 h1 (by go_simp) (by go_simp) (by go_simp) (by go_simp) (by go_simp) false (by simpa using HV.out)).mono ?_
    rintro e w1 ⟨rfl, hb1⟩
    obtain ⟨hc1, hf1⟩ := bcell hb1
    have hz1 := hb1.size
    try simp only [World.size_alloc, World.size_setCell] at hz1
    try refine zw4 w w1 (by omega) fun _ _ _ _ _ _ _ _ => ?_
    go_wp2_with fail
    refine (plus_yes al bl C1.out _).mono ?_
    rintro e w2 ⟨rfl, hb2⟩
    obtain ⟨hc2, hf2⟩ := bcell hb2
    have hz2 := hb2.size
    try simp only [World.size_alloc, World.size_setCell] at hz2
    try refine zw4 w w2 (by omega) fun _ _ _ _ _ _ _ _ => ?_
    try have : w1.heap.size < w2.heap.size := by omega
    try have : w1.heap.size ≤ w2.heap.size := by omega
    go_wp2_with fail
    refine (plus_no ah bh I1.out I3.out C2.out _).mono ?_
    rintro e w3 ⟨rfl, hb3⟩
    obtain ⟨hc3, hf3⟩ := bcell hb3
    have hz3 := hb3.size
    try simp only [World.size_alloc, World.size_setCell] at hz3
    try refine zw4 w w3 (by omega) fun _ _ _ _ _ _ _ _ => ?_
    try have : w1.heap.size < w3.heap.size := by omega
    try have : w1.heap.size ≤ w3.heap.size := by omega
    try have : w2.heap.size < w3.heap.size := by omega
    try have : w2.heap.size ≤ w3.heap.size := by omega
    go_wp2
    rw [E.out.1, E.out.2.1, E.out.2.2]
    refine bodyPost_ret (v := .tuple #[.agg #[.int .i64 (0), .int .i64 (0)], .int .i64 4]) (by simp only [results, Try.results14]; go_simp) rfl ⟨rfl, blw_⟩
  ·have E := hide (out_f (lo := al + bl) (hi := ah + bh) (fits_f (by omega)))
   by_cases c2 : -9223372036854775807 ≤ ah + bh ∧ ah + bh ≤ 9223372036854775807
   ·have C1 := hide c1
    have C2 := hide c2
    clear c1 c2
    go_enter Try.func14, Try.ntmps14
    go_wp2_with fail
    go_at_call 27
    refine (invalid2 al ah bl bh _ _ _ h0 h1 (by go_simp) (by go_simp) (by go_simp) (by go_simp) (by go_simp) false (by simpa using HV.out)).mono ?_
    rintro e w1 ⟨rfl, hb1⟩
    obtain ⟨hc1, hf1⟩ := bcell hb1
    have hz1 := hb1.size
    try simp only [World.size_alloc, World.size_setCell] at hz1
    try refine zw4 w w1 (by omega) fun _ _ _ _ _ _ _ _ => ?_
    go_wp2_with fail
    refine (plus_no al bl I0.out I2.out C1.out _).mono ?_
    rintro e w2 ⟨rfl, hb2⟩
    obtain ⟨hc2, hf2⟩ := bcell hb2
    have hz2 := hb2.size
    try simp only [World.size_alloc, World.size_setCell] at hz2
    try refine zw4 w w2 (by omega) fun _ _ _ _ _ _ _ _ => ?_
    try have : w1.heap.size < w2.heap.size := by omega
    try have : w1.heap.size ≤ w2.heap.size := by omega
    go_wp2_with fail
    refine (plus_yes ah bh C2.out _).mono ?_
    rintro e w3 ⟨rfl, hb3⟩
    obtain ⟨hc3, hf3⟩ := bcell hb3
    have hz3 := hb3.size
    try simp only [World.size_alloc, World.size_setCell] at hz3
    try refine zw4 w w3 (by omega) fun _ _ _ _ _ _ _ _ => ?_
    try have : w1.heap.size < w3.heap.size := by omega
    try have : w1.heap.size ≤ w3.heap.size := by omega
    try have : w2.heap.size < w3.heap.size := by omega
    try have : w2.heap.size ≤ w3.heap.size := by omega
    go_wp2
    rw [E.out.1, E.out.2.1, E.out.2.2]
    refine bodyPost_ret (v := .tuple #[.agg #[.int .i64 (0), .int .i64 (0)], .int .i64 4]) (by simp only [results, Try.results14]; go_simp) rfl ⟨rfl, blw_⟩
   ·have C1 := hide c1
    have C2 := hide c2
    clear c1 c2
    go_enter Try.func14, Try.ntmps14
    go_wp2_with fail
    go_at_call 27
    refine (invalid2 al ah bl bh _ _ _ h0 h1 (by go_simp) (by go_simp) (by go_simp) (by go_simp) (by go_simp) false (by simpa using HV.out)).mono ?_
    rintro e w1 ⟨rfl, hb1⟩
    obtain ⟨hc1, hf1⟩ := bcell hb1
    have hz1 := hb1.size
    try simp only [World.size_alloc, World.size_setCell] at hz1
    try refine zw4 w w1 (by omega) fun _ _ _ _ _ _ _ _ => ?_
    go_wp2_with fail
    refine (plus_no al bl I0.out I2.out C1.out _).mono ?_
    rintro e w2 ⟨rfl, hb2⟩
    obtain ⟨hc2, hf2⟩ := bcell hb2
    have hz2 := hb2.size
    try simp only [World.size_alloc, World.size_setCell] at hz2
    try refine zw4 w w2 (by omega) fun _ _ _ _ _ _ _ _ => ?_
    try have : w1.heap.size < w2.heap.size := by omega
    try have : w1.heap.size ≤ w2.heap.size := by omega
    go_wp2_with fail
    refine (plus_no ah bh I1.out I3.out C2.out _).mono ?_
    rintro e w3 ⟨rfl, hb3⟩
    obtain ⟨hc3, hf3⟩ := bcell hb3
    have hz3 := hb3.size
    try simp only [World.size_alloc, World.size_setCell] at hz3
    try refine zw4 w w3 (by omega) fun _ _ _ _ _ _ _ _ => ?_
    try have : w1.heap.size < w3.heap.size := by omega
    try have : w1.heap.size ≤ w3.heap.size := by omega
    try have : w2.heap.size < w3.heap.size := by omega
    try have : w2.heap.size ≤ w3.heap.size := by omega
    go_wp2
    rw [E.out.1, E.out.2.1, E.out.2.2]
    refine bodyPost_ret (v := .tuple #[.agg #[.int .i64 (0), .int .i64 (0)], .int .i64 4]) (by simp only [results, Try.results14]; go_simp) rfl ⟨rfl, blw_⟩

theorem neg_any (al ah : Int) (i0 : I64 al) (i1 : I64 ah) (w : World) :
  Calls Try.prog 57 #[.agg #[.int .i64 (al), .int .i64 (ah)]] w fun e w' => e = .returned (.tuple #[.agg #[.int .i64 (okI (vB al ah) (-ah)), .int .i64 (okI (vB al ah) (-al))], .int .i64 (errE (vB al ah) 0)]) ∧ Below w.heap.size w w' := by
 have h0 := i0.1
 have b1 := i1.2
 clear i0 i1
 cases hv : vB al ah
 ·rw [ok_f, ok_f, err_f]
  have HV := hide hv
  clear hv
  go_enter Try.func57, Try.ntmps57
  go_wp2_with fail
  go_at_call 27
  refine (invalid1 al ah _ _ _ h0 (by go_simp) (by go_simp) (by go_simp) true (by simpa using HV.out)).mono ?_
  rintro e w1 ⟨rfl, hb1⟩
  obtain ⟨hc1, hf1⟩ := bcell hb1
  have hz1 := hb1.size
  try simp only [World.size_alloc, World.size_setCell] at hz1
  try refine zw3 w w1 (by omega) fun _ _ _ _ _ _ => ?_
  go_wp2
  refine bodyPost_ret (v := .tuple #[.agg #[.int .i64 (0), .int .i64 (0)], .int .i64 2]) (by simp only [results, Try.results57]; go_simp) rfl ⟨rfl, blw_⟩
 ·rw [ok_t, ok_t, err_t]
  have HV := hide hv
  obtain ⟨v1, v2⟩ := vB_tt hv
  clear hv
  go_enter Try.func57, Try.ntmps57
  go_wp2_with fail
  go_at_call 27
  refine (invalid1 al ah _ _ _ h0 (by go_simp) (by go_simp) (by go_simp) false (by simpa using HV.out)).mono ?_
  rintro e w1 ⟨rfl, hb1⟩
  obtain ⟨hc1, hf1⟩ := bcell hb1
  have hz1 := hb1.size
  try simp only [World.size_alloc, World.size_setCell] at hz1
  try refine zw3 w w1 (by omega) fun _ _ _ _ _ _ => ?_
  go_wp2
  refine bodyPost_ret (v := .tuple #[.agg #[.int .i64 (-ah), .int .i64 (-al)], .int .i64 0]) (by simp only [results, Try.results57]; go_simp) rfl ⟨rfl, blw_⟩
theorem rneg_any (al ah : Int) (i0 : I64 al) (i1 : I64 ah) (w : World) :
  Calls Try.prog 62 #[.agg #[.int .i64 (al), .int .i64 (ah)]] w fun e w' => e = .returned (.tuple #[.agg #[.int .i64 (okI (vB al ah) (-ah)), .int .i64 (okI (vB al ah) (-al))], .int .i64 (errE (vB al ah) 0)]) ∧ Below w.heap.size w w' := by
 have h0 := i0.1
 have b1 := i1.2
 clear i0 i1
 cases hv : vB al ah
 ·rw [ok_f, ok_f, err_f]
  have HV := hide (show chkI al ah = 2 by simp [chkI, hv])
  clear hv
  go_enter Try.func62, Try.ntmps62
  go_wp2_with fail
  refine (rcheck al ah 2 HV.out _).mono ?_
  rintro e w1 ⟨rfl, hb1⟩
  obtain ⟨hc1, hf1⟩ := bcell hb1
  have hz1 := hb1.size
  try simp only [World.size_alloc, World.size_setCell] at hz1
  try refine zw2 w w1 (by omega) fun _ _ _ _ => ?_
  go_wp2
  refine bodyPost_ret (v := .tuple #[.agg #[.int .i64 (0), .int .i64 (0)], .int .i64 2]) (by simp only [results, Try.results62]; go_simp) rfl ⟨rfl, blw_⟩
 ·rw [ok_t, ok_t, err_t]
  have HV := hide (show chkI al ah = 0 by simp [chkI, hv])
  obtain ⟨v1, v2⟩ := vB_tt hv
  clear hv
  go_enter Try.func62, Try.ntmps62
  go_wp2_with fail
  refine (rcheck al ah 0 HV.out _).mono ?_
  rintro e w1 ⟨rfl, hb1⟩
  obtain ⟨hc1, hf1⟩ := bcell hb1
  have hz1 := hb1.size
  try simp only [World.size_alloc, World.size_setCell] at hz1
  try refine zw2 w w1 (by omega) fun _ _ _ _ => ?_
  go_wp2
  refine bodyPost_ret (v := .tuple #[.agg #[.int .i64 (-ah), .int .i64 (-al)], .int .i64 0]) (by simp only [results, Try.results62]; go_simp) rfl ⟨rfl, blw_⟩
theorem R127.of64 {x : Int} (h : I64 x) : R127 x := by obtain ⟨_, _⟩ := h; constructor <;> omega
theorem R127.add {x y : Int} (h : I64 x) (k : I64 y) : R127 (x + y) := by obtain ⟨_, _⟩ := h; obtain ⟨_, _⟩ := k; constructor <;> omega
theorem both0 {al ah bl bh : Int} (h : (vB al ah && vB bl bh) = true) : (if vB al ah && vB bl bh then (0 : Int) else 2) = 0 := by rw [if_pos h]
theorem both2 {al ah bl bh : Int} (h : (vB al ah && vB bl bh) = false) : (if vB al ah && vB bl bh then (0 : Int) else 2) = 2 := by rw [if_neg (by simp [h])]
theorem radd_any (al ah bl bh : Int) (i0 : I64 al) (i1 : I64 ah) (i2 : I64 bl) (i3 : I64 bh) (w : World) :
  Calls Try.prog 16 #[.agg #[.int .i64 (al), .int .i64 (ah)], .agg #[.int .i64 (bl), .int .i64 (bh)]] w fun e w' => e = .returned (.tuple #[.agg #[.int .i64 (okI (vB al ah && vB bl bh) (oLo (al + bl) (ah + bh))), .int .i64 (okI (vB al ah && vB bl bh) (oHi (al + bl) (ah + bh)))], .int .i64 (errE (vB al ah && vB bl bh) (oE (al + bl) (ah + bh)))]) ∧ Below w.heap.size w w' := by
 cases hv : (vB al ah && vB bl bh)
 ·rw [ok_f, ok_f, err_f]
  have HV := hide (both2 hv)
  clear hv i0 i1 i2 i3
  go_enter Try.func16, Try.ntmps16
  go_wp2_with fail
  refine (rboth al ah bl bh 2 HV.out _).mono ?_
  rintro e w1 ⟨rfl, hb1⟩
  obtain ⟨hc1, hf1⟩ := bcell hb1
  have hz1 := hb1.size
  try simp only [World.size_alloc, World.size_setCell] at hz1
  try refine zw3 w w1 (by omega) fun _ _ _ _ _ _ => ?_
  go_wp2
  refine bodyPost_ret (v := .tuple #[.agg #[.int .i64 (0), .int .i64 (0)], .int .i64 2]) (by simp only [results, Try.results16]; go_simp) rfl ⟨rfl, blw_⟩
 ·rw [ok_t, ok_t, err_t]
  have HV := hide (both0 hv)
  clear hv
  go_enter Try.func16, Try.ntmps16
  go_wp2_with fail
  refine (rboth al ah bl bh 0 HV.out _).mono ?_
  rintro e w1 ⟨rfl, hb1⟩
  obtain ⟨hc1, hf1⟩ := bcell hb1
  have hz1 := hb1.size
  try simp only [World.size_alloc, World.size_setCell] at hz1
  try refine zw3 w w1 (by omega) fun _ _ _ _ _ _ => ?_
  go_wp2_with fail
  refine QT.tail_c 17 hb1 (by kernel_rfl) (by kernel_rfl) ?_
  simp only [List.take_succ_cons, List.take_zero, List.drop_succ_cons, List.drop_zero]
  repeat (first
   | go_big_quiet_skip
   | (go_big_quiet_want; go_big_quiet_op; first
    | go_big_quiet_on
    | (apply Exists.intro
       refine ⟨fun _ => ?_, ?_⟩
       ·first
        | rfl
        | (intro hC; obtain ⟨hcq, hfq⟩ := bcellB hC; go_simp; done)
        | (intro hC; obtain ⟨hcq, hfq⟩ := bcellB hC; go_simp; rfl)
        | (intro hC; have hcq := bcellG hC; go_simp; done)
        | (intro hC; have hcq := bcellG hC; go_simp; rfl)
        | (intro hC; go_at_call 34; (first | (with_reducible refine (rwide al i0 _).mono ?_) | (with_reducible refine (rwide ah i1 _).mono ?_) | (with_reducible refine (rwide bl i2 _).mono ?_) | (with_reducible refine (rwide bh i3 _).mono ?_)); (intro e w2 hw; exact ⟨hw.1, qtrans (by simp) hC hw.2⟩))
        | (intro hC; go_at_call 33; (first | (with_reducible refine (rplus al bl (R127.of64 i0) (R127.of64 i2) (R127.add i0 i2) _).mono ?_) | (with_reducible refine (rplus ah bh (R127.of64 i1) (R127.of64 i3) (R127.add i1 i3) _).mono ?_)); (intro e w2 hw; exact ⟨hw.1, qtrans (by simp) hC hw.2⟩))
        | (intro hC; go_at_call 32; (first | (with_reducible refine (rout (al + bl) (ah + bh) _).mono ?_)); (intro e w2 hw; exact ⟨hw.1, qtrans (by simp) hC hw.2⟩))
       go_big_quiet_on)))
  refine wpQuiet_nil ?_
  intro w9 hC9
  obtain ⟨hc9, hf9⟩ := bcellB hC9
  have hz9 := hC9.size
  go_wp2
  refine bodyPost_ret (v := .tuple #[.agg #[.int .i64 (oLo (al + bl) (ah + bh)), .int .i64 (oHi (al + bl) (ah + bh))], .int .i64 (oE (al + bl) (ah + bh))]) (by simp only [results, Try.results16]; go_simp) rfl ⟨rfl, blw_⟩
end
section
open Go.RowKit
theorem rup32 (x : Int) (h : -39614081257132168796771975168 ≤ x ∧ x < 39614081257132168796771975168) (w : World) :
  Calls Try.prog 49 #[.agg #[.int .i64 (wH (x)), .int .u64 (wL (x))], .int .i64 32] w fun e w' => e = .returned (.agg #[.int .i64 (wH (x * 4294967296)), .int .u64 (wL (x * 4294967296))]) ∧ Below w.heap.size w w' := by
 have e1 := hide (show wrap64 (wrap64 (wH x * 4294967296) + wrap64 (wL x / 4294967296)) = wH (x * 4294967296) by unfold wrap64 wH wL; omega)
 have e2 := hide (show IntKind.u64.wrap (wL x * 4294967296) = wL (x * 4294967296) by rw [u64w]; unfold wL; omega)
 clear h
 go_enter Try.func49, Try.ntmps49
 go_wp2_with fail
 refine QT.tail_b 16 (by kernel_rfl) (by kernel_rfl) ?_
 simp only [List.take_succ_cons, List.take_zero, List.drop_succ_cons, List.drop_zero]
 repeat (first
  | go_big_quiet_skip
  | (go_big_quiet_want; go_big_quiet_op; first
   | go_big_quiet_on
   | (apply Exists.intro
      refine ⟨fun _ => ?_, ?_⟩
      ·first
       | rfl
       | (intro hC; obtain ⟨hcq, hfq⟩ := bcellB hC; go_simp; done)
       | (intro hC; obtain ⟨hcq, hfq⟩ := bcellB hC; go_simp; rfl)
       | (intro hC; have hcq := bcellG hC; go_simp; done)
       | (intro hC; have hcq := bcellG hC; go_simp; rfl)
      go_big_quiet_on)))
 refine wpQuiet_nil ?_
 intro w9 hC9
 obtain ⟨hc9, hf9⟩ := bcellB hC9
 have hz9 := hC9.size
 go_wp2
 rw [← e1.out, ← e2.out]
 refine bodyPost_ret (v := .agg #[.int .i64 (wrap64 (wrap64 (wH x * 4294967296) + wrap64 (wL x / 4294967296))), .int .u64 (IntKind.u64.wrap (wL x * 4294967296))]) (by simp only [results, Try.results49]; go_simp) rfl ⟨rfl, blw_⟩
theorem down_n {h l : Int} (c : h.tmod 4294967296 < 0) (hh : I64 h) (hl : 0 ≤ l ∧ l < 18446744073709551616) :
  wrap64 (wrap64 (h.tdiv 4294967296) - 1) = h / 4294967296 ∧
  IntKind.u64.wrap (IntKind.u64.wrap (IntKind.u64.wrap (wrap64 (h - wrap64 (wrap64 (wrap64 (h.tdiv 4294967296) - 1) * 4294967296))) * 4294967296) + IntKind.u64.wrap (l.tdiv 4294967296)) = (h % 4294967296) * 4294967296 + l / 4294967296 := by
 obtain ⟨_, _⟩ := hh
 have e0 : l.tdiv 4294967296 = l / 4294967296 := Int.tdiv_eq_ediv_of_nonneg hl.1
 have hneg : h < 0 := by
  by_cases hp : 0 ≤ h
  ·have := Int.tmod_nonneg 4294967296 hp; omega
  ·omega
 have e1 : h.tdiv 4294967296 = -((-h) / 4294967296) := by
  have h2 := Int.neg_tdiv (a := -h) (b := 4294967296)
  rw [Int.neg_neg] at h2
  rw [h2, Int.tdiv_eq_ediv_of_nonneg (by omega)]
 have e2 : h.tmod 4294967296 = -((-h) % 4294967296) := by
  have h2 := Int.neg_tmod (a := -h) (b := 4294967296)
  rw [Int.neg_neg] at h2
  rw [h2, Int.tmod_eq_emod_of_nonneg (by omega)]
 rw [e2] at c
 rw [e0, e1]
 simp only [u64w]
 unfold wrap64
 constructor <;> omega
theorem down_p {h l : Int} (c : 0 ≤ h.tmod 4294967296) (hh : I64 h) (hl : 0 ≤ l ∧ l < 18446744073709551616) :
  wrap64 (h.tdiv 4294967296) = h / 4294967296 ∧
  IntKind.u64.wrap (IntKind.u64.wrap (IntKind.u64.wrap (wrap64 (h - wrap64 (wrap64 (h.tdiv 4294967296) * 4294967296))) * 4294967296) + IntKind.u64.wrap (l.tdiv 4294967296)) = (h % 4294967296) * 4294967296 + l / 4294967296 := by
 obtain ⟨_, _⟩ := hh
 have e0 : l.tdiv 4294967296 = l / 4294967296 := Int.tdiv_eq_ediv_of_nonneg hl.1
 have e1 : h.tdiv 4294967296 = h / 4294967296 := by
  by_cases hp : 0 ≤ h
  ·exact Int.tdiv_eq_ediv_of_nonneg hp
  ·have h2 := Int.neg_tdiv (a := -h) (b := 4294967296)
   have h3 := Int.neg_tmod (a := -h) (b := 4294967296)
   rw [Int.neg_neg] at h2 h3
   rw [h3, Int.tmod_eq_emod_of_nonneg (by omega)] at c
   rw [h2, Int.tdiv_eq_ediv_of_nonneg (by omega)]
   omega
 rw [e0, e1]
 simp only [u64w]
 unfold wrap64
 constructor <;> omega
theorem R127.H {x : Int} (h : R127 x) : I64 (wH x) := by obtain ⟨_, _⟩ := h; unfold wH I64; omega
theorem wL_bd (x : Int) : 0 ≤ wL x ∧ wL x < 18446744073709551616 := by unfold wL; omega
theorem down_e (x : Int) : wH x / 4294967296 = wH (x / 4294967296) ∧ (wH x % 4294967296) * 4294967296 + wL x / 4294967296 = wL (x / 4294967296) := by unfold wH wL; constructor <;> omega
theorem rdown (x : Int) (h : R127 x) (w : World) :
  Calls Try.prog 43 #[.agg #[.int .i64 (wH (x)), .int .u64 (wL (x))]] w fun e w' => e = .returned (.agg #[.int .i64 (wH (x / 4294967296)), .int .u64 (wL (x / 4294967296))]) ∧ Below w.heap.size w w' := by
 have D := down_e x
 by_cases c : (wH x).tmod 4294967296 < 0
 ·have E := hide (down_n c h.H (wL_bd x))
  rw [← D.1, ← D.2, ← E.out.1, ← E.out.2]
  clear h D
  go_enter Try.func43, Try.ntmps43
  go_wp2
  refine bodyPost_ret (v := .agg #[.int .i64 (wrap64 (wrap64 ((wH x).tdiv 4294967296) - 1)), .int .u64 (IntKind.u64.wrap (IntKind.u64.wrap (IntKind.u64.wrap (wrap64 (wH x - wrap64 (wrap64 (wrap64 ((wH x).tdiv 4294967296) - 1) * 4294967296))) * 4294967296) + IntKind.u64.wrap ((wL x).tdiv 4294967296)))]) (by simp only [results, Try.results43]; go_simp) rfl ⟨rfl, blw_⟩
 ·have E := hide (down_p (Int.not_lt.1 c) h.H (wL_bd x))
  rw [← D.1, ← D.2, ← E.out.1, ← E.out.2]
  clear h D
  go_enter Try.func43, Try.ntmps43
  go_wp2
  refine bodyPost_ret (v := .agg #[.int .i64 (wrap64 ((wH x).tdiv 4294967296)), .int .u64 (IntKind.u64.wrap (IntKind.u64.wrap (IntKind.u64.wrap (wrap64 (wH x - wrap64 (wrap64 ((wH x).tdiv 4294967296) * 4294967296))) * 4294967296) + IntKind.u64.wrap ((wL x).tdiv 4294967296)))]) (by simp only [results, Try.results43]; go_simp) rfl ⟨rfl, blw_⟩
end
section
open Go.RowKit
theorem quo_u64 {a b : Int} (ha : 0 ≤ a ∧ a < 18446744073709551616) (hb : 0 < b) : IntKind.u64.wrap (a.tdiv b) = a / b ∧ a.tmod b = a % b := by
 have h1 := Int.ediv_nonneg ha.1 (Int.le_of_lt hb)
 have h2 := Int.ediv_le_self b ha.1
 have h3 := Int.emod_nonneg a (show b ≠ 0 by omega)
 have h4 : a % b ≤ a := by
  have := Int.emod_add_mul_ediv a b
  have := Int.mul_nonneg (Int.le_of_lt hb) h1
  omega
 rw [Int.tdiv_eq_ediv_of_nonneg ha.1, Int.tmod_eq_emod_of_nonneg ha.1, u64w]
 generalize a / b = x at *
 exact ⟨by omega, rfl⟩
end
section
open Go.RowKit
end
section
open Go.RowKit
end
section
open Go.RowKit
def mi (x y : Int) : Int := if y < x then y else x
def mx (x y : Int) : Int := if x < y then y else x
theorem mi_eq (x y : Int) : (if y < x then y else x) = mi x y := rfl
theorem mx_eq (x y : Int) : (if x < y then y else x) = mx x y := rfl
theorem sboth (al ah bl bh : Int) (w : World) :
  Calls Try.prog 54 #[.agg #[.int .i64 (al), .int .i64 (ah)], .agg #[.int .i64 (bl), .int .i64 (bh)]] w fun e w' => e = .returned (.agg #[.int .i64 (mi al bl), .int .i64 (mx ah bh)]) ∧ Below w.heap.size w w' := by
 have m1 := mi_eq al bl
 have m2 := mx_eq ah bh
 go_enter Try.func54, Try.ntmps54
 go_wp2
 refine bodyPost_ret (v := .agg #[.int .i64 (mi al bl), .int .i64 (mx ah bh)]) (by simp only [results, Try.results54]; go_simp) rfl ⟨rfl, blw_⟩
end
section
namespace QF
section
variable {P : Program} {ops : Array Oper} {md : Region.Mode} {D : Option Value → World → Prop}

def floatRes (r : Result Next) (R : Value → World → Prop) : Prop :=
 match r with
 | .ok (.value u) w' => R u w'
 | .ok .skip w' => R undef w'
 | _ => False
theorem floatRes_mono {r : Result Next} {R R' : Value → World → Prop} (h : ∀ u w, R u w → R' u w) (hr : floatRes r R) : floatRes r R' := by
 unfold floatRes at *
 split <;> first | exact h _ _ (by simpa using hr) | (simp_all)

def goF (P : Program) (md : Region.Mode) (ops : Array Oper) (D : Option Value → World → Prop) (n : Nat) (L : Option Value → Array Bool → Act → Prop) : Nat → Option Value → Array Bool → Act → Prop
 | 0, fl, done, a => L fl done a
 | k + 1, fl, done, a => Region.ready md ops done ≠ [] ∧ ∀ i ∈ Region.ready md ops done, ∀ o, ops[i]? = some o →
   (i < n ∧ ∃ v, (∀ j, YieldsIn P ops (D j) o v a) ∧ goF P md ops D n L k fl (done.setIfInBounds i true) (a.put o.dst v)) ∨
   (i = n ∧ fl = none ∧ Region.wanted o (yielded ops a.tmps) = true ∧ ∀ w, D none w → floatRes ((execOp a.eval o).run P w) fun u w' => D (some u) w' ∧ goF P md ops D n L k (some u) (done.setIfInBounds i true) (a.put o.dst u))

theorem any_of_goF {n g : Nat} {L : Option Value → Array Bool → Act → Prop} {R : Exit → Act → World → Prop} (hL : ∀ fl done a w, D fl w → L fl done a → wpAny P md ops R g done a w) (k : Nat) :
  ∀ (fl : Option Value) (done : Array Bool) (a : Act) (w : World), D fl w → goF P md ops D n L k fl done a → wpAny P md ops R (k + g) done a w := by
 induction k with
 | zero => intro fl done a w hw h; rw [Nat.zero_add]; exact hL _ _ _ _ hw h
 | succ k ih =>
  intro fl done a w hw h
  rw [show k + 1 + g = (k + g) + 1 by omega]
  refine ⟨fun h0 => absurd h0 h.1, fun i hi => ?_⟩
  obtain ⟨_, o, ho, _⟩ := mem_ready.1 hi
  rcases h.2 i hi o ho with ⟨_, v, hv, hk⟩ | ⟨rfl, rfl, hwant, hf⟩
  ·exact wpOp_of_qOp (C := D fl) hw (fun a' w' hw' h' => ih fl _ a' w' hw' h') ((hv fl).qOp ho hk)
  ·have hr := hf w hw
   unfold wpOp
   simp only [ho, hwant, if_true]
   left
   unfold Oper.wp
   generalize (execOp a.eval o).run P w = r at hr
   unfold floatRes at hr
   split at hr
   ·exact ih _ _ _ _ hr.1 hr.2
   ·exact ih _ _ _ _ hr.1 hr.2
   ·exact hr.elim

theorem yields_back {o oi : Oper} {u v : Value} {a : Act} {C : World → Prop} (hap : oi.apart ops o = true) (hso : ∀ cs b, o.op ≠ .select cs b) (h : YieldsIn P ops C o u (a.put oi.dst v)) : YieldsIn P ops C o u a := by
 obtain ⟨h1, _, _⟩ := Oper.apart_spec hap
 exact h.of_same (execOp_put o hso a oi.dst v h1).symm (wanted_put o a oi.dst v h1).symm
theorem yields_on {o oi : Oper} {u v : Value} {a : Act} {C : World → Prop} (hap : oi.apart ops o = true) (hsi : ∀ cs b, oi.op ≠ .select cs b) (h : YieldsIn P ops C oi v a) : YieldsIn P ops C oi v (a.put o.dst u) := by
 obtain ⟨_, _, h3⟩ := Oper.apart_spec hap
 exact h.of_same (execOp_put oi hsi a o.dst u h3) (wanted_put oi a o.dst u h3)

theorem takeF {n i : Nat} {oi : Oper} {v : Value} {L : Option Value → Array Bool → Act → Prop} (hi : ops[i]? = some oi) (hsel : ∀ (j : Nat) (o : Oper) cs b, ops[j]? = some o → o.op ≠ .select cs b)
  (hs : Region.sinkB md ops (n + 1) = true) (hc : Region.chainB md ops (n + 1) = true) (hn : n + 1 < ops.size) (hin : i < n)
  (hend : ∀ fl done a, L fl done a → ∀ j ∈ Region.ready md ops done, n + 1 ≤ j) (k : Nat) :
  ∀ (fl : Option Value) (done : Array Bool) (a : Act), HeadInv md ops (n + 1) done →
   (∀ j oj, ops[j]? = some oj → j ≠ i → done.getD j true = false → (∀ e ∈ oj.after, Region.binds md e = true → e.on ≠ i) → oi.apart ops oj = true) →
   i ∈ Region.ready md ops done → (∀ j, YieldsIn P ops (D j) oi v a) →
   goF P md ops D n L k fl (done.setIfInBounds i true) (a.put oi.dst v) → goF P md ops D n L (k + 1) fl done a := by
 induction k with
 | zero =>
  intro fl done a inv _ hr hy H
  refine ⟨List.ne_nil_of_mem hr, fun j hj o ho => ?_⟩
  have hjn : j < n + 1 := Nat.lt_of_not_le fun hle => tail_waits hs hc hn inv _ i rfl (by omega) (mem_ready.1 hr).1 j hle hj
  by_cases hji : j = i
  ·subst hji
   obtain rfl : oi = o := Option.some.inj (hi.symm.trans ho)
   exact .inl ⟨hin, v, hy, H⟩
  ·exact absurd (hend _ _ _ H j (ready_mono hj hji)) (by omega)
 | succ k ih =>
  intro fl done a inv hfree hr hy H
  refine ⟨List.ne_nil_of_mem hr, fun j hj o ho => ?_⟩
  have hun := (mem_ready.1 hr).1
  have hjn : j < n + 1 := Nat.lt_of_not_le fun hle => tail_waits hs hc hn inv _ i rfl (by omega) hun j hle hj
  by_cases hji : j = i
  ·subst hji
   obtain rfl : oi = o := Option.some.inj (hi.symm.trans ho)
   exact .inl ⟨hin, v, hy, H⟩
  ·obtain ⟨hjun, oj, hoj, hall⟩ := mem_ready.1 hj
   obtain rfl : oj = o := Option.some.inj (hoj.symm.trans ho)
   have hno : ∀ e ∈ oj.after, Region.binds md e = true → e.on ≠ i := fun e he hb heq => by
    have h1 := hall e he hb
    rw [heq, getD_both hun] at h1
    cases h1
   have hap := hfree j oj hoj hji hjun hno
   obtain ⟨h1, h2, h3⟩ := Oper.apart_spec hap
   have inv' := inv.set hj hjn
   have hfree' : ∀ q oq, ops[q]? = some oq → q ≠ i → (done.setIfInBounds j true).getD q true = false → (∀ e ∈ oq.after, Region.binds md e = true → e.on ≠ i) → oi.apart ops oq = true := fun q oq hq hqi hqun hqno => by
    refine hfree q oq hq hqi ?_ hqno
    by_cases hjq : j = q
    ·exact hjq ▸ hjun
    ·rwa [getD_set_ne true hjq] at hqun
   rcases H.2 j (ready_mono hj hji) oj hoj with ⟨hlt, u, hu, hk⟩ | ⟨rfl, hfl, hw, hf⟩
   ·refine .inl ⟨hlt, u, fun c => yields_back hap (fun cs b => hsel j oj cs b hoj) (hu c), ?_⟩
    refine ih fl _ _ inv' hfree' (ready_mono hr (Ne.symm hji)) (fun c => yields_on hap (fun cs b => hsel i oi cs b hi) (hy c)) ?_
    rw [Array.setIfInBounds_comm _ _ hji, ← Act.put_comm a v u h2]
    exact hk
   ·refine .inr ⟨rfl, hfl, by rwa [wanted_put oj a oi.dst v h1] at hw, fun w hwD => ?_⟩
    have hr2 := hf w hwD
    rw [execOp_put oj (fun cs b => hsel _ oj cs b hoj) a oi.dst v h1] at hr2
    refine floatRes_mono (fun u w' hh => ⟨hh.1, ?_⟩) hr2
    refine ih (some u) _ _ inv' hfree' (ready_mono hr (Ne.symm hji)) (fun c => yields_on hap (fun cs b => hsel i oi cs b hi) (hy c)) ?_
    rw [Array.setIfInBounds_comm _ _ hji, ← Act.put_comm a v u h2]
    exact hh.2

def dstOk (sz : Nat) : List Oper → Bool
 | [] => true
 | o :: r => (match o.dst with | some d => decide (d < sz) && r.all (fun o' => o'.dst != some d) | none => false) && dstOk sz r
theorem put_size (a : Act) (d : Option Tmp) (v : Value) : (a.put d v).tmps.size = a.tmps.size := by
 cases d <;> simp [Act.put]
theorem slot_kept {C : World → Prop} {A : Act} {d : Nat} : ∀ (l : List Oper) (a : Act), wpQuiet P ops C (fun a' => a' = A) l a → (l.all fun o => o.dst != some d) = true → A.tmps[d]? = a.tmps[d]?
 | [], a, h, _ => by rw [show a = A from h]
 | o :: l, a, h, hd => by
  simp only [List.all_cons, Bool.and_eq_true] at hd
  have hne : o.dst ≠ some d := by simpa using hd.1
  have step : ∀ v : Value, (a.put o.dst v).tmps[d]? = a.tmps[d]? := fun v => by
   cases h2 : o.dst with
   | none => rfl
   | some e =>
    have : e ≠ d := fun he => hne (by rw [h2, he])
    simp only [Act.put]
    rw [Array.getElem?_setIfInBounds_ne this]
  have hh : (if Region.wanted o (yielded ops a.tmps) then o.quiet P a C (wpQuiet P ops C (fun a' => a' = A) l) else wpQuiet P ops C (fun a' => a' = A) l (a.put o.dst undef)) := h
  split at hh
  ·obtain ⟨v, _, hk⟩ := hh
   exact (slot_kept l _ hk hd.2).trans (step v)
  ·exact (slot_kept l _ hh hd.2).trans (step _)

def lexFB (md : Region.Mode) (ops : Array Oper) (g n : Nat) : Nat → Nat → Array Bool → Bool
 | 0, _, done => decide (Region.ready md ops done = [n]) && Region.seqB md ops g (n + 1) (done.setIfInBounds n true)
 | f + 1, k, done => (Region.ready md ops done).contains k && Region.free md ops done k && lexFB md ops g n f (k + 1) (done.setIfInBounds k true)
theorem lexF {n g : Nat} {A : Act} {L : Option Value → Array Bool → Act → Prop} (hsel : Region.noSelect ops = true) (hs : Region.sinkB md ops (n + 1) = true) (hc : Region.chainB md ops (n + 1) = true) (hn : n + 1 < ops.size)
  (hend : ∀ fl done a, L fl done a → ∀ j ∈ Region.ready md ops done, n + 1 ≤ j) {on : Oper} (hon : ops[n]? = some on) (hwant : ∀ y, Region.wanted on y = true)
  (hf : ∀ w, D none w → floatRes ((execOp A.eval on).run P w) fun u w' => D (some u) w' ∧ ∀ done, Region.ready md ops done = [n] → Region.seqB md ops g (n + 1) (done.setIfInBounds n true) = true → L (some u) (done.setIfInBounds n true) (A.put on.dst u)) :
  ∀ (l : List Oper) (k : Nat) (done : Array Bool) (a : Act), (∀ j, j < l.length → l[j]? = ops[k + j]?) → k + l.length = n → HeadInv md ops (n + 1) done → dstOk a.tmps.size l = true →
  lexFB md ops g n l.length k done = true → (∀ j, wpQuiet P ops (D j) (fun a' => a' = A) l a) → goF P md ops D n L (l.length + 1) none done a := by
 intro l
 induction l with
 | nil =>
  intro k done a _ hk _ _ hB h
  obtain rfl : k = n := by simpa using hk
  obtain rfl : a = A := h none
  simp only [List.length_nil, lexFB, Bool.and_eq_true, decide_eq_true_eq] at hB
  refine ⟨by rw [hB.1]; simp, fun i hi o ho => ?_⟩
  rw [hB.1] at hi
  obtain rfl : i = k := by simpa using hi
  obtain rfl : on = o := Option.some.inj (hon.symm.trans ho)
  exact .inr ⟨rfl, rfl, hwant _, fun w hw => floatRes_mono (fun u w' hh => ⟨hh.1, hh.2 done hB.1 hB.2⟩) (hf w hw)⟩
 | cons o l ih =>
  intro k done a hl hk inv hd hB h
  have h0 : ops[k]? = some o := by simpa using (hl 0 (by simp)).symm
  have hk' : k + (l.length + 1) = n := by simpa using hk
  simp only [List.length_cons, lexFB, Bool.and_eq_true] at hB
  obtain ⟨⟨hr, hfr⟩, hB'⟩ := hB
  have hr' : k ∈ Region.ready md ops done := by simpa using hr
  simp only [dstOk, Bool.and_eq_true] at hd
  obtain ⟨hd1, hd2⟩ := hd
  obtain ⟨d, hod, hdl, hda⟩ : ∃ d, o.dst = some d ∧ d < a.tmps.size ∧ (l.all fun o' => o'.dst != some d) = true := by
   cases h2 : o.dst with
   | none => rw [h2] at hd1; cases hd1
   | some d => rw [h2] at hd1; simp only [Bool.and_eq_true, decide_eq_true_eq] at hd1; exact ⟨d, rfl, hd1.1, hd1.2⟩
  have hv : ∀ j, ∃ v, YieldsIn P ops (D j) o v a ∧ wpQuiet P ops (D j) (fun a' => a' = A) l (a.put o.dst v) := fun j => by
   have hq : qOp P ops (D j) k (wpQuiet P ops (D j) (fun a' => a' = A) l) a := by unfold qOp; simp only [h0]; exact h j
   exact yieldsIn_of_qOp h0 hq
  obtain ⟨v, _, hw0⟩ := hv none
  have same : ∀ j, YieldsIn P ops (D j) o v a ∧ wpQuiet P ops (D j) (fun a' => a' = A) l (a.put o.dst v) := fun j => by
   obtain ⟨u, hu, hwu⟩ := hv j
   have e1 := slot_kept l _ hw0 hda
   have e2 := slot_kept l _ hwu hda
   rw [hod] at e1 e2
   simp only [Act.put] at e1 e2
   rw [Array.getElem?_setIfInBounds_self_of_lt hdl] at e1 e2
   have : u = v := Option.some.inj (e2.symm.trans e1)
   subst this
   exact ⟨hu, hwu⟩
  exact takeF h0 (Region.noSelect_spec hsel) hs hc hn (by omega) hend (l.length + 1) none done a inv (Region.free_spec h0 hfr) hr' (fun j => (same j).1)
   (ih (k + 1) _ _ (fun j hj => by have := hl (j + 1) (by simpa using hj); simpa [Nat.add_assoc, Nat.add_comm 1 j] using this) (by omega) (inv.set hr' (by omega)) (by rw [put_size]; exact hd2) hB' (fun j => (same j).2))
def floatB (md : Region.Mode) (l : List Oper) (n sz : Nat) : Bool :=
 Region.noSelect l.toArray && decide (n + 1 < l.length) && Region.sinkB md l.toArray (n + 1) && Region.chainB md l.toArray (n + 1) && dstOk sz (l.take n) && lexFB md l.toArray (l.length - (n + 1)) n n 0 (Array.replicate l.toArray.size false)

theorem region_float {id : Nat} {Q : Exit → Act → World → Prop} {a A : Act} {w : World} {l : List Oper} (n sz : Nat) (D : Option Value → World → Prop) (on : Oper) (hm : P.follows .mixedOrders = true) (hB : floatB .any l n sz = true) (hsz : a.tmps.size = sz)
  (hon : l[n]? = some on) (hg : on.guard = none) (h0 : D none w.drew)
  (h1 : ∀ j, wpQuiet P l.toArray (D j) (fun a' => a' = A) (l.take n) a)
  (hf : ∀ w', D none w' → floatRes ((execOp A.eval on).run P w') fun u w'' => D (some u) w'')
  (ht : ∀ u w', D (some u) w' → wpList P l.toArray Q (l.drop (n + 1)) (A.put on.dst u) w') : (Code.region id l.toArray true).wp P Q a w := by
 simp only [floatB, Bool.and_eq_true, decide_eq_true_eq] at hB
 obtain ⟨⟨⟨⟨⟨hsel, hn⟩, hs⟩, hc⟩, hd⟩, hlex⟩ := hB
 have hn' : n + 1 < l.toArray.size := by simpa using hn
 have htl : (l.take n).length = n := by simp; omega
 have hdl : (l.drop (n + 1)).length = l.length - (n + 1) := by simp
 have inv0 : HeadInv .any l.toArray (n + 1) (Array.replicate l.toArray.size false) :=
  ⟨by simp, fun j oj _ hl => (by rw [getD_replicate_false] at hl; cases hl), fun t _ ht => getD_in (by simpa using ht) (getD_replicate_false _ _)⟩
 have H := lexF (P := P) (D := D) (md := .any) (g := l.length - (n + 1)) (A := A)
  (L := fun fl done a' => Region.seqB .any l.toArray (l.length - (n + 1)) (n + 1) done = true ∧ ∀ w', D fl w' → wpList P l.toArray Q (l.drop (n + 1)) a' w')
  hsel hs hc hn' (fun _ _ _ hL => seqB_ready hL.1) (on := on) (by simpa using hon) (fun y => by simp [Region.wanted, hg])
  (fun w' hw' => floatRes_mono (fun u w'' hh => ⟨hh, fun done _ hq => ⟨hq, fun w3 hw3 => ht u w3 hw3⟩⟩) (hf w' hw'))
  (l.take n) 0 _ a (fun j hj => by
   have hj' : j < n := by rw [htl] at hj; exact hj
   simp [hj']) (by simpa using htl) inv0 (by rw [hsz]; exact hd) (by rw [htl]; exact hlex) h1
 refine wp_region_any hm ?_
 have := any_of_goF (R := Q) (g := l.length - (n + 1)) (fun fl done a' w' hw' hL => by
  have := wpAny_of_seq (P := P) (md := .any) (Q' := Q) (l.drop (n + 1)) (n + 1) done a' w' (fun j => by simp [List.getElem?_drop]) (by rw [hdl]; exact hL.1) (hL.2 w' hw')
  rwa [hdl] at this) _ _ _ _ _ h0 H
 rw [htl, show n + 1 + (l.length - (n + 1)) = l.toArray.size by simp; omega] at this
 exact this
end
theorem region_float_ex {P : Program} {id : Nat} {Q : Exit → Act → World → Prop} {a : Act} {w : World} {l : List Oper} (n sz : Nat) (D : Option Value → World → Prop) (on : Oper) (hm : P.follows .mixedOrders = true) (hB : floatB .any l n sz = true) (hsz : a.tmps.size = sz)
  (hon : l[n]? = some on) (hg : on.guard = none) (h0 : D none w.drew)
  (h : ∃ A, (∀ j, wpQuiet P l.toArray (D j) (fun a' => a' = A) (l.take n) a) ∧ (∀ w', D none w' → floatRes ((execOp A.eval on).run P w') fun u w'' => D (some u) w'') ∧
   (∀ u w', D (some u) w' → wpList P l.toArray Q (l.drop (n + 1)) (A.put on.dst u) w')) : (Code.region id l.toArray true).wp P Q a w :=
 let ⟨_, h1, h2, h3⟩ := h
 region_float n sz D on hm hB hsz hon hg h0 h1 h2 h3
open Go.RowKit
def FD (B : Nat) (W0 : World) (z0 z1 : Value) : Option Value → World → Prop
 | none, w => Below B W0 w
 | some u, w => Below B W0 w ∧ ∃ p : Nat, u = .pointer (some ⟨p, 0, none⟩) ∧ W0.heap.size ≤ p ∧ p < w.heap.size ∧ w.cell? ⟨p, 0, none⟩ = some z0 ∧ w.cell? ⟨p, 1, none⟩ = some z1 ∧ w.frozen? ⟨p, 0, none⟩ = false ∧ w.frozen? ⟨p, 1, none⟩ = false
theorem FD.below {B : Nat} {W0 w : World} {z0 z1 : Value} {j : Option Value} (h : FD B W0 z0 z1 j w) : Below B W0 w := by
 cases j
 ·exact h
 ·exact h.1
theorem FD.call {B : Nat} {W0 w w' : World} {z0 z1 : Value} {j : Option Value} (hB : B ≤ W0.heap.size) (h : FD B W0 z0 z1 j w) (hb : Below w.heap.size w w') : FD B W0 z0 z1 j w' := by
 cases j
 ·exact qtrans hB h hb
 ·obtain ⟨h1, p, h2, h3, h4, c0, c1, f0, f1⟩ := h
  exact ⟨qtrans hB h1 hb, p, h2, h3, Nat.lt_of_lt_of_le h4 hb.size, (hb.cell (p := ⟨p, 0, none⟩) h4).trans c0, (hb.cell (p := ⟨p, 1, none⟩) h4).trans c1, (hb.frozen (p := ⟨p, 0, none⟩) h4).trans f0, (hb.frozen (p := ⟨p, 1, none⟩) h4).trans f1⟩
theorem FD.made {B : Nat} {W0 w : World} {z0 z1 : Value} {t : TypeId} (hB : B ≤ W0.heap.size) (h : FD B W0 z0 z1 none w) : FD B W0 z0 z1 (some (.pointer (some ⟨w.heap.size, 0, none⟩))) (w.alloc (.cells #[z0, z1] t)) := by
 have h : Below B W0 w := h
 refine ⟨h.alloc (Nat.le_trans hB h.size) _, w.heap.size, rfl, h.size, by simp, by simp, by simp, by simp [go_sem], by simp [go_sem]⟩
end QF
end
section
open Go.RowKit
def absL (al ah : Int) : Int := if 0 ≤ al then al else if ah ≤ 0 then -ah else 0
def absH (al ah : Int) : Int := if 0 ≤ al then ah else if ah ≤ 0 then -al else mx (-al) ah
theorem abs_any (al ah : Int) (i0 : I64 al) (i1 : I64 ah) (w : World) :
  Calls Try.prog 45 #[.agg #[.int .i64 (al), .int .i64 (ah)]] w fun e w' => e = .returned (.tuple #[.agg #[.int .i64 (okI (vB al ah) (absL al ah)), .int .i64 (okI (vB al ah) (absH al ah))], .int .i64 (errE (vB al ah) 0)]) ∧ Below w.heap.size w w' := by
 have h0 := i0.1
 have b1 := i1.2
 cases hv : vB al ah
 ·rw [ok_f, ok_f, err_f]
  have HV := hide hv
  clear hv i0 i1
  go_enter Try.func45, Try.ntmps45
  go_wp2_with fail
  go_at_call 27
  refine (invalid1 al ah _ _ _ h0 (by go_simp) (by go_simp) (by go_simp) true (by simpa using HV.out)).mono ?_
  rintro e w1 ⟨rfl, hb1⟩
  obtain ⟨hc1, hf1⟩ := bcell hb1
  have hz1 := hb1.size
  try simp only [World.size_alloc, World.size_setCell] at hz1
  try refine zw2 w w1 (by omega) fun _ _ _ _ => ?_
  go_wp2
  refine bodyPost_ret (v := .tuple #[.agg #[.int .i64 (0), .int .i64 (0)], .int .i64 2]) (by simp only [results, Try.results45]; go_simp) rfl ⟨rfl, blw_⟩
 ·rw [ok_t, ok_t, err_t]
  have HV := hide hv
  obtain ⟨v1, v2⟩ := vB_tt hv
  by_cases c : 0 ≤ al
  ·have E := hide (show absL al ah = al ∧ absH al ah = ah by simp [absL, absH, c])
   clear hv i0 i1
   rw [E.out.1, E.out.2]
   go_enter Try.func45, Try.ntmps45
   go_wp2_with fail
   go_at_call 27
   refine (invalid1 al ah _ _ _ h0 (by go_simp) (by go_simp) (by go_simp) false (by simpa using HV.out)).mono ?_
   rintro e w1 ⟨rfl, hb1⟩
   obtain ⟨hc1, hf1⟩ := bcell hb1
   have hz1 := hb1.size
   try simp only [World.size_alloc, World.size_setCell] at hz1
   try refine zw2 w w1 (by omega) fun _ _ _ _ => ?_
   go_wp2
   refine bodyPost_ret (v := .tuple #[.agg #[.int .i64 (al), .int .i64 (ah)], .int .i64 0]) (by simp only [results, Try.results45]; go_simp) rfl ⟨rfl, blw_⟩
  ·by_cases c2 : ah ≤ 0
   ·have E := hide (show absL al ah = -ah ∧ absH al ah = -al by simp [absL, absH, c, c2])
    have NG := neg_any al ah i0 i1
    rw [hv, ok_t, ok_t, err_t] at NG
    have NG' := hide NG
    clear hv i0 i1 NG
    rw [E.out.1, E.out.2]
    go_enter Try.func45, Try.ntmps45
    go_wp2_with fail
    go_at_call 27
    refine (invalid1 al ah _ _ _ h0 (by go_simp) (by go_simp) (by go_simp) false (by simpa using HV.out)).mono ?_
    rintro e w1 ⟨rfl, hb1⟩
    obtain ⟨hc1, hf1⟩ := bcell hb1
    have hz1 := hb1.size
    try simp only [World.size_alloc, World.size_setCell] at hz1
    try refine zw2 w w1 (by omega) fun _ _ _ _ => ?_
    have c1_0_0 := zci w1 w.heap.size 0 (al) (by go_simp)
    have c1_0_1 := zci w1 w.heap.size 1 (ah) (by go_simp)
    have c1_1_0 := zci w1 (w.heap.size + 1) 0 (0) (by go_simp)
    have g1_1_0 := zfe w1 (w.heap.size + 1) 0 (by go_simp)
    have c1_1_1 := zci w1 (w.heap.size + 1) 1 (0) (by go_simp)
    have g1_1_1 := zfe w1 (w.heap.size + 1) 1 (by go_simp)
    clear hc1 hf1
    go_wp2_with fail
    refine (NG'.out _).mono ?_
    rintro e w2 ⟨rfl, hb2⟩
    obtain ⟨hc2, hf2⟩ := bcell hb2
    have hz2 := hb2.size
    try simp only [World.size_alloc, World.size_setCell] at hz2
    try refine zw2 w w2 (by omega) fun _ _ _ _ => ?_
    have c2_0_0 := zci w2 w.heap.size 0 (al) (by go_simp)
    have c2_0_1 := zci w2 w.heap.size 1 (ah) (by go_simp)
    have c2_1_0 := zci w2 (w.heap.size + 1) 0 (0) (by go_simp)
    have g2_1_0 := zfe w2 (w.heap.size + 1) 0 (by go_simp)
    have c2_1_1 := zci w2 (w.heap.size + 1) 1 (0) (by go_simp)
    have g2_1_1 := zfe w2 (w.heap.size + 1) 1 (by go_simp)
    clear hc2 hf2 c1_0_0 c1_0_1 c1_1_0 g1_1_0 c1_1_1 g1_1_1
    go_wp2
    refine bodyPost_ret (v := .tuple #[.agg #[.int .i64 (-ah), .int .i64 (-al)], .int .i64 0]) (by simp only [results, Try.results45]; go_simp) rfl ⟨rfl, blw_⟩
   ·have E := hide (show absL al ah = 0 ∧ absH al ah = mx (-al) ah by simp [absL, absH, c, c2])
    have m1 := mx_eq (-al) ah
    clear hv i0 i1
    rw [E.out.1, E.out.2]
    go_enter Try.func45, Try.ntmps45
    go_wp2_with fail
    go_at_call 27
    refine (invalid1 al ah _ _ _ h0 (by go_simp) (by go_simp) (by go_simp) false (by simpa using HV.out)).mono ?_
    rintro e w1 ⟨rfl, hb1⟩
    obtain ⟨hc1, hf1⟩ := bcell hb1
    have hz1 := hb1.size
    try simp only [World.size_alloc, World.size_setCell] at hz1
    try refine zw2 w w1 (by omega) fun _ _ _ _ => ?_
    go_wp2
    refine bodyPost_ret (v := .tuple #[.agg #[.int .i64 (0), .int .i64 (mx (-al) ah)], .int .i64 0]) (by simp only [results, Try.results45]; go_simp) rfl ⟨rfl, blw_⟩
theorem rabs_any (al ah : Int) (i0 : I64 al) (i1 : I64 ah) (w : World) :
  Calls Try.prog 48 #[.agg #[.int .i64 (al), .int .i64 (ah)]] w fun e w' => e = .returned (.tuple #[.agg #[.int .i64 (okI (vB al ah) (absL al ah)), .int .i64 (okI (vB al ah) (absH al ah))], .int .i64 (errE (vB al ah) 0)]) ∧ Below w.heap.size w w' := by
 have h0 := i0.1
 have b1 := i1.2
 cases hv : vB al ah
 ·rw [ok_f, ok_f, err_f]
  have HV := hide (show chkI al ah = 2 by simp [chkI, hv])
  clear hv i0 i1
  go_enter Try.func48, Try.ntmps48
  go_wp2_with fail
  refine (rcheck al ah 2 HV.out _).mono ?_
  rintro e w1 ⟨rfl, hb1⟩
  obtain ⟨hc1, hf1⟩ := bcell hb1
  have hz1 := hb1.size
  try simp only [World.size_alloc, World.size_setCell] at hz1
  try refine zw2 w w1 (by omega) fun _ _ _ _ => ?_
  go_wp2
  refine bodyPost_ret (v := .tuple #[.agg #[.int .i64 (0), .int .i64 (0)], .int .i64 2]) (by simp only [results, Try.results48]; go_simp) rfl ⟨rfl, blw_⟩
 ·rw [ok_t, ok_t, err_t]
  have HV := hide (show chkI al ah = 0 by simp [chkI, hv])
  obtain ⟨v1, v2⟩ := vB_tt hv
  by_cases c : 0 ≤ al
  ·have E := hide (show absL al ah = al ∧ absH al ah = ah by simp [absL, absH, c])
   clear hv i0 i1
   rw [E.out.1, E.out.2]
   go_enter Try.func48, Try.ntmps48
   go_wp2_with fail
   refine (rcheck al ah 0 HV.out _).mono ?_
   rintro e w1 ⟨rfl, hb1⟩
   obtain ⟨hc1, hf1⟩ := bcell hb1
   have hz1 := hb1.size
   try simp only [World.size_alloc, World.size_setCell] at hz1
   try refine zw2 w w1 (by omega) fun _ _ _ _ => ?_
   go_wp2
   refine bodyPost_ret (v := .tuple #[.agg #[.int .i64 (al), .int .i64 (ah)], .int .i64 0]) (by simp only [results, Try.results48]; go_simp) rfl ⟨rfl, blw_⟩
  ·by_cases c2 : ah ≤ 0
   ·have E := hide (show absL al ah = -ah ∧ absH al ah = -al by simp [absL, absH, c, c2])
    have NG := rneg_any al ah i0 i1
    rw [hv, ok_t, ok_t, err_t] at NG
    have NG' := hide NG
    clear hv i0 i1 NG
    rw [E.out.1, E.out.2]
    go_enter Try.func48, Try.ntmps48
    go_wp2_with fail
    refine (rcheck al ah 0 HV.out _).mono ?_
    rintro e w1 ⟨rfl, hb1⟩
    obtain ⟨hc1, hf1⟩ := bcell hb1
    have hz1 := hb1.size
    try simp only [World.size_alloc, World.size_setCell] at hz1
    try refine zw2 w w1 (by omega) fun _ _ _ _ => ?_
    have c1_0_0 := zci w1 w.heap.size 0 (al) (by go_simp)
    have c1_0_1 := zci w1 w.heap.size 1 (ah) (by go_simp)
    have c1_1_0 := zci w1 (w.heap.size + 1) 0 (0) (by go_simp)
    have g1_1_0 := zfe w1 (w.heap.size + 1) 0 (by go_simp)
    have c1_1_1 := zci w1 (w.heap.size + 1) 1 (0) (by go_simp)
    have g1_1_1 := zfe w1 (w.heap.size + 1) 1 (by go_simp)
    clear hc1 hf1
    go_wp2_with fail
    refine (NG'.out _).mono ?_
    rintro e w2 ⟨rfl, hb2⟩
    obtain ⟨hc2, hf2⟩ := bcell hb2
    have hz2 := hb2.size
    try simp only [World.size_alloc, World.size_setCell] at hz2
    try refine zw2 w w2 (by omega) fun _ _ _ _ => ?_
    have c2_0_0 := zci w2 w.heap.size 0 (al) (by go_simp)
    have c2_0_1 := zci w2 w.heap.size 1 (ah) (by go_simp)
    have c2_1_0 := zci w2 (w.heap.size + 1) 0 (0) (by go_simp)
    have g2_1_0 := zfe w2 (w.heap.size + 1) 0 (by go_simp)
    have c2_1_1 := zci w2 (w.heap.size + 1) 1 (0) (by go_simp)
    have g2_1_1 := zfe w2 (w.heap.size + 1) 1 (by go_simp)
    clear hc2 hf2 c1_0_0 c1_0_1 c1_1_0 g1_1_0 c1_1_1 g1_1_1
    go_wp2
    refine bodyPost_ret (v := .tuple #[.agg #[.int .i64 (-ah), .int .i64 (-al)], .int .i64 0]) (by simp only [results, Try.results48]; go_simp) rfl ⟨rfl, blw_⟩
   ·have E := hide (show absL al ah = 0 ∧ absH al ah = mx (-al) ah by simp [absL, absH, c, c2])
    have m1 := mx_eq (-al) ah
    clear hv i0 i1
    rw [E.out.1, E.out.2]
    go_enter Try.func48, Try.ntmps48
    go_wp2_with fail
    refine (rcheck al ah 0 HV.out _).mono ?_
    rintro e w1 ⟨rfl, hb1⟩
    obtain ⟨hc1, hf1⟩ := bcell hb1
    have hz1 := hb1.size
    try simp only [World.size_alloc, World.size_setCell] at hz1
    try refine zw2 w w1 (by omega) fun _ _ _ _ => ?_
    go_wp2
    refine bodyPost_ret (v := .tuple #[.agg #[.int .i64 (0), .int .i64 (mx (-al) ah)], .int .i64 0]) (by simp only [results, Try.results48]; go_simp) rfl ⟨rfl, blw_⟩
end
end Go.Proofs.Ytdcolicajjmffaa
