/- Packed: Base Ask Ask2 Wide Out Sum Bits Div DivA DivB Sets QF. -/
import Derived.Test.YtfgfnjckklldbaaProg
import Derived.WalkKit
import Derived.WalkSpells
import Derived.WalkLawsBesides
import Derived.RowKit3
import Derived.Below
import Derived.Deep.QuietTactic
import Derived.BigQuiet
import Derived.KernelRfl
import Derived.Test.YtfgfnjckklldbaaP1
set_option linter.unusedVariables false
set_option linter.unusedSimpArgs false
namespace Go.Proofs.Ytfgfnjckklldbaa
section
open Go.RowKit
theorem hide {p : Prop} (h : p) : Hid p := h
theorem bcell {W w1 : World} (hb : Below W.heap.size W w1) : (∀ b o, b < W.heap.size → w1.cell? ⟨b, o, none⟩ = W.cell? ⟨b, o, none⟩) ∧ (∀ b o, b < W.heap.size → w1.frozen? ⟨b, o, none⟩ = W.frozen? ⟨b, o, none⟩) :=
 ⟨fun b o h => hb.cell (p := ⟨b, o, none⟩) h, fun b o h => hb.frozen (p := ⟨b, o, none⟩) h⟩
theorem bcellB {B : Nat} {W w1 : World} (hb : Below B W w1) : (∀ b o, b < B → w1.cell? ⟨b, o, none⟩ = W.cell? ⟨b, o, none⟩) ∧ (∀ b o, b < B → w1.frozen? ⟨b, o, none⟩ = W.frozen? ⟨b, o, none⟩) :=
 ⟨fun b o h => hb.cell (p := ⟨b, o, none⟩) h, fun b o h => hb.frozen (p := ⟨b, o, none⟩) h⟩
theorem qtrans {B : Nat} {W w1 w2 : World} (hBW : B ≤ W.heap.size) (hC : Below B W w1) (hb : Below w1.heap.size w1 w2) : Below B W w2 := hC.trans (hb.mono (Nat.le_trans hBW hC.size))
theorem bdrew {n : Nat} {w w' : World} (h : Below n w w') : Below n w w'.drew := h.drew
theorem bset {n : Nat} {w w' : World} {p : Addr} {v : Value} (hp : n ≤ p.block) (h : Below n w w') : Below n w (w'.setCell p v) := h.setCell hp v
theorem ball {n : Nat} {w w' : World} {o : Obj} (hs : n ≤ w'.heap.size) (h : Below n w w') : Below n w (w'.alloc o) := h.alloc hs o
theorem zw1 {C : Prop} (w v : World) (h : w.heap.size < v.heap.size) (c : w.heap.size < v.heap.size → w.heap.size ≤ v.heap.size → C) : C := c (by omega) (by omega)
theorem zw2 {C : Prop} (w v : World) (h : w.heap.size + 1 < v.heap.size) (c : w.heap.size < v.heap.size → w.heap.size ≤ v.heap.size → w.heap.size + 1 < v.heap.size → w.heap.size + 1 ≤ v.heap.size → C) : C := c (by omega) (by omega) (by omega) (by omega)
theorem zw3 {C : Prop} (w v : World) (h : w.heap.size + 1 + 1 < v.heap.size) (c : w.heap.size < v.heap.size → w.heap.size ≤ v.heap.size → w.heap.size + 1 < v.heap.size → w.heap.size + 1 ≤ v.heap.size → w.heap.size + 1 + 1 < v.heap.size → w.heap.size + 1 + 1 ≤ v.heap.size → C) : C := c (by omega) (by omega) (by omega) (by omega) (by omega) (by omega)
theorem zw4 {C : Prop} (w v : World) (h : w.heap.size + 1 + 1 + 1 < v.heap.size) (c : w.heap.size < v.heap.size → w.heap.size ≤ v.heap.size → w.heap.size + 1 < v.heap.size → w.heap.size + 1 ≤ v.heap.size → w.heap.size + 1 + 1 < v.heap.size → w.heap.size + 1 + 1 ≤ v.heap.size → w.heap.size + 1 + 1 + 1 < v.heap.size → w.heap.size + 1 + 1 + 1 ≤ v.heap.size → C) : C := c (by omega) (by omega) (by omega) (by omega) (by omega) (by omega) (by omega) (by omega)
theorem zw5 {C : Prop} (w v : World) (h : w.heap.size + 1 + 1 + 1 + 1 < v.heap.size) (c : w.heap.size < v.heap.size → w.heap.size ≤ v.heap.size → w.heap.size + 1 < v.heap.size → w.heap.size + 1 ≤ v.heap.size → w.heap.size + 1 + 1 < v.heap.size → w.heap.size + 1 + 1 ≤ v.heap.size → w.heap.size + 1 + 1 + 1 < v.heap.size → w.heap.size + 1 + 1 + 1 ≤ v.heap.size → w.heap.size + 1 + 1 + 1 + 1 < v.heap.size → w.heap.size + 1 + 1 + 1 + 1 ≤ v.heap.size → C) : C := c (by omega) (by omega) (by omega) (by omega) (by omega) (by omega) (by omega) (by omega) (by omega) (by omega)
theorem zw6 {C : Prop} (w v : World) (h : w.heap.size + 1 + 1 + 1 + 1 + 1 < v.heap.size) (c : w.heap.size < v.heap.size → w.heap.size ≤ v.heap.size → w.heap.size + 1 < v.heap.size → w.heap.size + 1 ≤ v.heap.size → w.heap.size + 1 + 1 < v.heap.size → w.heap.size + 1 + 1 ≤ v.heap.size → w.heap.size + 1 + 1 + 1 < v.heap.size → w.heap.size + 1 + 1 + 1 ≤ v.heap.size → w.heap.size + 1 + 1 + 1 + 1 < v.heap.size → w.heap.size + 1 + 1 + 1 + 1 ≤ v.heap.size → w.heap.size + 1 + 1 + 1 + 1 + 1 < v.heap.size → w.heap.size + 1 + 1 + 1 + 1 + 1 ≤ v.heap.size → C) : C := c (by omega) (by omega) (by omega) (by omega) (by omega) (by omega) (by omega) (by omega) (by omega) (by omega) (by omega) (by omega)
theorem zw7 {C : Prop} (w v : World) (h : w.heap.size + 1 + 1 + 1 + 1 + 1 + 1 < v.heap.size) (c : w.heap.size < v.heap.size → w.heap.size ≤ v.heap.size → w.heap.size + 1 < v.heap.size → w.heap.size + 1 ≤ v.heap.size → w.heap.size + 1 + 1 < v.heap.size → w.heap.size + 1 + 1 ≤ v.heap.size → w.heap.size + 1 + 1 + 1 < v.heap.size → w.heap.size + 1 + 1 + 1 ≤ v.heap.size → w.heap.size + 1 + 1 + 1 + 1 < v.heap.size → w.heap.size + 1 + 1 + 1 + 1 ≤ v.heap.size → w.heap.size + 1 + 1 + 1 + 1 + 1 < v.heap.size → w.heap.size + 1 + 1 + 1 + 1 + 1 ≤ v.heap.size → w.heap.size + 1 + 1 + 1 + 1 + 1 + 1 < v.heap.size → w.heap.size + 1 + 1 + 1 + 1 + 1 + 1 ≤ v.heap.size → C) : C := c (by omega) (by omega) (by omega) (by omega) (by omega) (by omega) (by omega) (by omega) (by omega) (by omega) (by omega) (by omega) (by omega) (by omega)
theorem zw8 {C : Prop} (w v : World) (h : w.heap.size + 1 + 1 + 1 + 1 + 1 + 1 + 1 < v.heap.size) (c : w.heap.size < v.heap.size → w.heap.size ≤ v.heap.size → w.heap.size + 1 < v.heap.size → w.heap.size + 1 ≤ v.heap.size → w.heap.size + 1 + 1 < v.heap.size → w.heap.size + 1 + 1 ≤ v.heap.size → w.heap.size + 1 + 1 + 1 < v.heap.size → w.heap.size + 1 + 1 + 1 ≤ v.heap.size → w.heap.size + 1 + 1 + 1 + 1 < v.heap.size → w.heap.size + 1 + 1 + 1 + 1 ≤ v.heap.size → w.heap.size + 1 + 1 + 1 + 1 + 1 < v.heap.size → w.heap.size + 1 + 1 + 1 + 1 + 1 ≤ v.heap.size → w.heap.size + 1 + 1 + 1 + 1 + 1 + 1 < v.heap.size → w.heap.size + 1 + 1 + 1 + 1 + 1 + 1 ≤ v.heap.size → w.heap.size + 1 + 1 + 1 + 1 + 1 + 1 + 1 < v.heap.size → w.heap.size + 1 + 1 + 1 + 1 + 1 + 1 + 1 ≤ v.heap.size → C) : C := c (by omega) (by omega) (by omega) (by omega) (by omega) (by omega) (by omega) (by omega) (by omega) (by omega) (by omega) (by omega) (by omega) (by omega) (by omega) (by omega)
theorem zce (w : World) (b k : Nat) (v : Value) (h : w.cell? ⟨b, k, none⟩ = some v) : w.cell? ⟨b, k, none⟩ = some v := h
theorem zci (w : World) (b k : Nat) (v : Int) (h : w.cell? ⟨b, k, none⟩ = some (.int .i64 v)) : w.cell? ⟨b, k, none⟩ = some (.int .i64 v) := h
theorem zcu (w : World) (b k : Nat) (v : Int) (h : w.cell? ⟨b, k, none⟩ = some (.int .u64 v)) : w.cell? ⟨b, k, none⟩ = some (.int .u64 v) := h
theorem zfe (w : World) (b k : Nat) (h : w.frozen? ⟨b, k, none⟩ = false) : w.frozen? ⟨b, k, none⟩ = false := h
theorem zb {C : Prop} (b : Nat) (v : World) (h : b < v.heap.size) (c : b < v.heap.size → b ≤ v.heap.size → C) : C := c (by omega) (by omega)
theorem bth {n m : Nat} {a b c : World} (hb : Below m b c) (hn : n ≤ m) (h : Below n a b) : Below n a c := h.trans (hb.mono hn)
theorem blw_ {n : Nat} {w w' : World} (h : Below n w w' := by repeat (first | with_reducible exact Below.refl _ _ | with_reducible refine bdrew ?_ | ((with_reducible first | refine bset ?_ ?_ | refine ball ?_ ?_ | refine bth (by assumption) ?_ ?_); first | omega | (simp <;> omega)))) : Below n w w' := h
def vB (lo hi : Int) : Bool := decide (-9223372036854775807 ≤ lo ∧ lo ≤ hi)
theorem vB_tt {lo hi : Int} (h : vB lo hi = true) : -9223372036854775807 ≤ lo ∧ lo ≤ hi := of_decide_eq_true h
theorem vB_ff {lo hi : Int} (h : vB lo hi = false) : lo < -9223372036854775807 ∨ hi < lo := by have := of_decide_eq_false h; omega
def withinB (al ah bl bh : Int) : Bool := vB al ah && vB bl bh && decide (bl ≤ al) && decide (ah ≤ bh)
def chkI (lo hi : Int) : Int := if vB lo hi then 0 else 2
def I64 (x : Int) : Prop := -9223372036854775808 ≤ x ∧ x ≤ 9223372036854775807
theorem i64_of_wf {x : Int} (h : (Lit.int .i64 x).wf = true) : I64 x := by
 simp [Lit.wf, IntKind.min, IntKind.max, IntKind.signed, IntKind.bits] at h
 exact ⟨by omega, by omega⟩
end
section
open Go.RowKit

theorem check_yes (lo hi : Int) (h : vB lo hi = true) (w : World) :
  Calls Try.prog 58 #[.agg #[.int .i64 (lo), .int .i64 (hi)]] w fun e w' => e = .returned (.int .i64 0) ∧ Below w.heap.size w w' := by
 obtain ⟨h1, h2⟩ := vB_tt h
 have g1 : (lo == -9223372036854775808) = false := by simp; omega
 have g2 : ¬ hi < lo := by omega
 clear h
 go_enter Try.func58, Try.ntmps58
 go_wp2
 go_ret
 exact ⟨rfl, (Below.refl _ _).alloc (Nat.le_refl _) _⟩

theorem check_no (lo hi : Int) (h0 : -9223372036854775808 ≤ lo) (h : vB lo hi = false) (w : World) :
  Calls Try.prog 58 #[.agg #[.int .i64 (lo), .int .i64 (hi)]] w fun e w' => e = .returned (.int .i64 2) ∧ Below w.heap.size w w' := by
 have h := vB_ff h
 by_cases g : lo = -9223372036854775808
 ·have g1 : (lo == -9223372036854775808) = true := by simpa using g
  clear h g
  go_enter Try.func58, Try.ntmps58
  go_wp2
  go_ret
  exact ⟨rfl, (Below.refl _ _).alloc (Nat.le_refl _) _⟩
 ·have g1 : (lo == -9223372036854775808) = false := by simpa using g
  have g2 : hi < lo := by omega
  clear h g
  go_enter Try.func58, Try.ntmps58
  go_wp2
  go_ret
  exact ⟨rfl, (Below.refl _ _).alloc (Nat.le_refl _) _⟩

theorem check_any (lo hi : Int) (h0 : -9223372036854775808 ≤ lo) (w : World) :
  Calls Try.prog 58 #[.agg #[.int .i64 (lo), .int .i64 (hi)]] w fun e w' => e = .returned (.int .i64 (chkI lo hi)) ∧ Below w.heap.size w w' := by
 unfold chkI
 cases h : vB lo hi
 ·exact check_no lo hi h0 h w
 ·exact check_yes lo hi h w

theorem invalid_no (L H : Nat → Int) (n b off cap : Nat) (hn : n ≤ 1000000) (w : World) (hV : ∀ i, i < n → vB (L i) (H i) = true)
  (hc : ∀ i, i < n → w.cell? ⟨b, off + i * 2, none⟩ = some (.int .i64 (L i)) ∧ w.cell? ⟨b, off + i * 2 + 1, none⟩ = some (.int .i64 (H i))) (hb : n = 0 ∨ b < w.heap.size) :
  Calls Try.prog 73 #[.slice (some ⟨b, off, none⟩) n cap] w fun e w' => e = .returned (.bool false) ∧ Below w.heap.size w w' := by
 have HC := hide hc
 have HV := hide hV
 have HB := hide hb
 clear hc hV hb
 go_enter Try.func73, Try.ntmps73
 go_wp2
 go_loopw [7] (fun i wr => ∃ k : Nat, k ≤ n ∧ i = .int .i64 k ∧ Below w.heap.size w wr) (fun i _ => n - (intOf i).toNat)
 case atStart => exact ⟨0, Nat.zero_le _, rfl, Below.refl _ _⟩
 case round =>
  obtain ⟨k, hk, rfl, hB⟩ := hrel
  by_cases hlt : k < n
  ·obtain ⟨c1, c2⟩ := HC.out k hlt
   have HV1 := hide (HV.out k hlt)
   have hbw : b < w.heap.size := by have := HB.out; omega
   have c1' := (hB.cell (p := ⟨b, off + k * 2, none⟩) hbw).trans c1
   have c2' := (hB.cell (p := ⟨b, off + k * 2 + 1, none⟩) hbw).trans c2
   clear c1 c2
   go_wp2_with (go_at_call 58; refine (check_yes _ _ HV1.out _).mono ?_; rintro e w1 ⟨rfl, hb1⟩)
   go_roundw
   case rel => exact ⟨k + 1, by omega, by go_num, hB.trans (((Below.refl _ _).alloc (by have := hB.size; omega) _).trans (hb1.mono (by have := hB.size; simp; omega)))⟩
   case measure => simp [intOf]; omega
  ·go_wp2
   go_ret
   exact ⟨rfl, hB⟩

theorem invalid_yes (L H : Nat → Int) (n m b off cap : Nat) (hn : n ≤ 1000000) (w : World) (hm : m < n) (hV : ∀ i, i < m → vB (L i) (H i) = true) (hM : vB (L m) (H m) = false) (hL : ∀ i, i < n → -9223372036854775808 ≤ L i)
  (hc : ∀ i, i < n → w.cell? ⟨b, off + i * 2, none⟩ = some (.int .i64 (L i)) ∧ w.cell? ⟨b, off + i * 2 + 1, none⟩ = some (.int .i64 (H i))) (hb : b < w.heap.size) :
  Calls Try.prog 73 #[.slice (some ⟨b, off, none⟩) n cap] w fun e w' => e = .returned (.bool true) ∧ Below w.heap.size w w' := by
 have HC := hide hc
 have HV := hide hV
 have HM := hide hM
 have HL := hide hL
 clear hc hV hM hL
 go_enter Try.func73, Try.ntmps73
 go_wp2
 go_loopw [7] (fun i wr => ∃ k : Nat, k ≤ m ∧ i = .int .i64 k ∧ Below w.heap.size w wr) (fun i _ => n - (intOf i).toNat)
 case atStart => exact ⟨0, Nat.zero_le _, rfl, Below.refl _ _⟩
 case round =>
  obtain ⟨k, hk, rfl, hB⟩ := hrel
  have hlt : k < n := by omega
  obtain ⟨c1, c2⟩ := HC.out k hlt
  have c1' := (hB.cell (p := ⟨b, off + k * 2, none⟩) hb).trans c1
  have c2' := (hB.cell (p := ⟨b, off + k * 2 + 1, none⟩) hb).trans c2
  clear c1 c2
  by_cases hkm : k < m
  ·have HV1 := hide (HV.out k hkm)
   go_wp2_with (go_at_call 58; refine (check_yes _ _ HV1.out _).mono ?_; rintro e w1 ⟨rfl, hb1⟩)
   go_roundw
   case rel => exact ⟨k + 1, by omega, by go_num, hB.trans (((Below.refl _ _).alloc (by have := hB.size; omega) _).trans (hb1.mono (by have := hB.size; simp; omega)))⟩
   case measure => simp [intOf]; omega
  ·obtain rfl : k = m := by omega
   have HL1 := hide (HL.out k hlt)
   go_wp2_with (go_at_call 58; refine (check_no _ _ HL1.out HM.out _).mono ?_; rintro e w1 ⟨rfl, hb1⟩)
   go_ret
   exact ⟨rfl, hB.trans (((Below.refl _ _).alloc (by have := hB.size; omega) _).trans (hb1.mono (by have := hB.size; simp; omega)))⟩


def pick2 (a b : Int) : Nat → Int
 | 0 => a
 | _ => b
theorem invalid2 (al ah bl bh : Int) (b cap : Nat) (w : World) (h0 : -9223372036854775808 ≤ al) (h1 : -9223372036854775808 ≤ bl) (hc0 : w.cell? ⟨b, 0, none⟩ = some (.int .i64 al)) (hc1 : w.cell? ⟨b, 1, none⟩ = some (.int .i64 ah))
  (hc2 : w.cell? ⟨b, 2, none⟩ = some (.int .i64 bl)) (hc3 : w.cell? ⟨b, 3, none⟩ = some (.int .i64 bh)) (hb : b < w.heap.size) (r : Bool) (hr : (vB al ah && vB bl bh) = !r) :
  Calls Try.prog 73 #[.slice (some ⟨b, 0, none⟩) 2 cap] w fun e w' => e = .returned (.bool r) ∧ Below w.heap.size w w' := by
 have hcs : ∀ i, i < 2 → w.cell? ⟨b, 0 + i * 2, none⟩ = some (.int .i64 (pick2 al bl i)) ∧ w.cell? ⟨b, 0 + i * 2 + 1, none⟩ = some (.int .i64 (pick2 ah bh i)) := by
  intro i hi
  match i, hi with
  | 0, _ => exact ⟨hc0, hc1⟩
  | 1, _ => exact ⟨hc2, hc3⟩
 cases r
 ·have hr : vB al ah = true ∧ vB bl bh = true := by simpa using hr
  refine invalid_no (pick2 al bl) (pick2 ah bh) 2 b 0 cap (by omega) w (fun i hi => ?_) hcs (.inr hb)
  match i, hi with
  | 0, _ => exact hr.1
  | 1, _ => exact hr.2
 ·have hL : ∀ i, i < 2 → -9223372036854775808 ≤ pick2 al bl i := fun i hi => by
   match i, hi with
   | 0, _ => exact h0
   | 1, _ => exact h1
  cases ha : vB al ah
  ·exact invalid_yes (pick2 al bl) (pick2 ah bh) 2 0 b 0 cap (by omega) w (by omega) (fun i hi => by omega) ha hL hcs hb
  ·have hb' : vB bl bh = false := by simpa [ha] using hr
   exact invalid_yes (pick2 al bl) (pick2 ah bh) 2 1 b 0 cap (by omega) w (by omega) (fun i hi => by (have h0i : i = 0 := by omega); subst h0i; exact ha) hb' hL hcs hb
end
section
open Go.RowKit

theorem within_any (al ah bl bh : Int) (h0 : -9223372036854775808 ≤ al) (h1 : -9223372036854775808 ≤ bl) (w : World) :
  Calls Try.prog 69 #[.agg #[.int .i64 (al), .int .i64 (ah)], .agg #[.int .i64 (bl), .int .i64 (bh)]] w fun e w' => e = .returned (.bool (withinB al ah bl bh)) ∧ Below w.heap.size w w' := by
 by_cases hv : (vB al ah && vB bl bh) = true
 ·have HV := hide hv
  by_cases g1 : bl ≤ al
  ·by_cases g2 : ah ≤ bh
   ·have HR := hide (show withinB al ah bl bh = true by simp [withinB, g1, g2]; simpa using hv)
    clear hv
    go_enter Try.func69, Try.ntmps69
    go_wp2_with (go_at_call 73; refine (invalid2 al ah bl bh _ _ _ h0 h1 (by go_simp) (by go_simp) (by go_simp) (by go_simp) (by go_simp) false (by simpa using HV.out)).mono ?_; rintro e w1 ⟨rfl, hb1⟩; obtain ⟨hc1, hf1⟩ := bcell hb1; have hz1 := hb1.size; try simp only [World.size_alloc] at hz1)
    go_ret
    exact ⟨by rw [HR.out]; first | rfl | (simp; omega), blw_⟩
   ·have HR := hide (show withinB al ah bl bh = false by simp [withinB, g1, g2])
    clear hv
    go_enter Try.func69, Try.ntmps69
    go_wp2_with (go_at_call 73; refine (invalid2 al ah bl bh _ _ _ h0 h1 (by go_simp) (by go_simp) (by go_simp) (by go_simp) (by go_simp) false (by simpa using HV.out)).mono ?_; rintro e w1 ⟨rfl, hb1⟩; obtain ⟨hc1, hf1⟩ := bcell hb1; have hz1 := hb1.size; try simp only [World.size_alloc] at hz1)
    go_ret
    exact ⟨by rw [HR.out]; first | rfl | (simp; omega), blw_⟩
  ·have HR := hide (show withinB al ah bl bh = false by simp [withinB, g1])
   have g1' : al < bl := by omega
   clear hv g1
   go_enter Try.func69, Try.ntmps69
   go_wp2_with (go_at_call 73; refine (invalid2 al ah bl bh _ _ _ h0 h1 (by go_simp) (by go_simp) (by go_simp) (by go_simp) (by go_simp) false (by simpa using HV.out)).mono ?_; rintro e w1 ⟨rfl, hb1⟩; obtain ⟨hc1, hf1⟩ := bcell hb1; have hz1 := hb1.size; try simp only [World.size_alloc] at hz1)
   go_ret
   exact ⟨by rw [HR.out]; first | rfl | (simp; omega), blw_⟩
 ·have hv : (vB al ah && vB bl bh) = false := by simpa using hv
  have HV := hide hv
  have HR := hide (show withinB al ah bl bh = false by simp [withinB, hv])
  clear hv
  go_enter Try.func69, Try.ntmps69
  go_wp2_with (go_at_call 73; refine (invalid2 al ah bl bh _ _ _ h0 h1 (by go_simp) (by go_simp) (by go_simp) (by go_simp) (by go_simp) true (by simpa using HV.out)).mono ?_; rintro e w1 ⟨rfl, hb1⟩; obtain ⟨hc1, hf1⟩ := bcell hb1; have hz1 := hb1.size; try simp only [World.size_alloc] at hz1)
  go_ret
  exact ⟨by rw [HR.out]; rfl, blw_⟩
end
section
open Go.RowKit

theorem u64w (n : Int) : IntKind.u64.wrap n = n % 18446744073709551616 := IntKind.wrap_u64 n
end
section
open Go.RowKit
def fits (lo hi : Int) : Bool := decide (-9223372036854775807 ≤ lo ∧ lo ≤ 9223372036854775807 ∧ -9223372036854775807 ≤ hi ∧ hi ≤ 9223372036854775807)
def oLo (lo hi : Int) : Int := if fits lo hi then lo else 0
def oHi (lo hi : Int) : Int := if fits lo hi then hi else 0
def oE (lo hi : Int) : Int := if fits lo hi then 0 else 4
def okI (v : Bool) (x : Int) : Int := if v then x else 0
def errE (v : Bool) (e : Int) : Int := if v then e else 2
theorem out_t {lo hi : Int} (h : fits lo hi = true) : oLo lo hi = lo ∧ oHi lo hi = hi ∧ oE lo hi = 0 := by simp [oLo, oHi, oE, h]
theorem out_f {lo hi : Int} (h : fits lo hi = false) : oLo lo hi = 0 ∧ oHi lo hi = 0 ∧ oE lo hi = 4 := by simp [oLo, oHi, oE, h]
theorem ok_t (x : Int) : okI true x = x := rfl
theorem ok_f (x : Int) : okI false x = 0 := rfl
theorem err_t (x : Int) : errE true x = x := rfl
theorem err_f (x : Int) : errE false x = 2 := rfl
end
section
open Go.RowKit
theorem plus_yes (x y : Int) (h : -9223372036854775807 ≤ x + y ∧ x + y ≤ 9223372036854775807) (w : World) :
  Calls Try.prog 78 #[.int .i64 x, .int .i64 y] w fun e w' => e = .returned (.tuple #[.int .i64 (x + y), .bool true]) ∧ Below w.heap.size w w' := by
 obtain ⟨h0, h1⟩ := h
 have g1 : (x + y != -9223372036854775808) = true := by rw [bne_iff_ne]; omega
 have g2 : (decide (x + y < x) == decide (y < 0)) = true := by rw [beq_iff_eq, decide_eq_decide]; omega
 go_enter Try.func78, Try.ntmps78
 go_wp2
 go_ret2
 exact ⟨rfl, Below.refl _ _⟩
theorem plus_no (x y : Int) (hx : I64 x) (hy : I64 y) (h : ¬ (-9223372036854775807 ≤ x + y ∧ x + y ≤ 9223372036854775807)) (w : World) :
  Calls Try.prog 78 #[.int .i64 x, .int .i64 y] w fun e w' => e = .returned (.tuple #[.int .i64 (wrap64 (x + y)), .bool false]) ∧ Below w.heap.size w w' := by
 obtain ⟨x0, x1⟩ := hx; obtain ⟨y0, y1⟩ := hy
 have HX := hide (And.intro (And.intro x0 x1) (And.intro y0 y1))
 by_cases g : wrap64 (x + y) = -9223372036854775808
 ·have g1 : (wrap64 (x + y) != -9223372036854775808) = false := by rw [g]; rfl
  clear g h x0 x1 y0 y1
  go_enter Try.func78, Try.ntmps78
  go_wp2
  go_ret2
  exact ⟨rfl, Below.refl _ _⟩
 ·have g1 : (wrap64 (x + y) != -9223372036854775808) = true := by rw [bne_iff_ne]; exact g
  have g2 : (decide (wrap64 (x + y) < x) == decide (y < 0)) = false := by
   rw [beq_eq_false_iff_ne, ne_eq, decide_eq_decide]
   unfold wrap64 at *; omega
  clear g h x0 x1 y0 y1
  go_enter Try.func78, Try.ntmps78
  go_wp2
  go_ret2
  exact ⟨rfl, Below.refl _ _⟩
theorem fits_t {lo hi : Int} (h1 : -9223372036854775807 ≤ lo ∧ lo ≤ 9223372036854775807) (h2 : -9223372036854775807 ≤ hi ∧ hi ≤ 9223372036854775807) : fits lo hi = true := decide_eq_true ⟨h1.1, h1.2, h2.1, h2.2⟩
theorem fits_f {lo hi : Int} (h : ¬ ((-9223372036854775807 ≤ lo ∧ lo ≤ 9223372036854775807) ∧ (-9223372036854775807 ≤ hi ∧ hi ≤ 9223372036854775807))) : fits lo hi = false := decide_eq_false (by omega)

theorem add_any (al ah bl bh : Int) (i0 : I64 al) (i1 : I64 ah) (i2 : I64 bl) (i3 : I64 bh) (w : World) :
  Calls Try.prog 63 #[.agg #[.int .i64 (al), .int .i64 (ah)], .agg #[.int .i64 (bl), .int .i64 (bh)]] w fun e w' => e = .returned (.tuple #[.agg #[.int .i64 (okI (vB al ah && vB bl bh) (oLo (al + bl) (ah + bh))), .int .i64 (okI (vB al ah && vB bl bh) (oHi (al + bl) (ah + bh)))], .int .i64 (errE (vB al ah && vB bl bh) (oE (al + bl) (ah + bh)))]) ∧ Below w.heap.size w w' := by
 have h0 := i0.1
 have h1 := i2.1
 have I0 := hide i0
 have I1 := hide i1
 have I2 := hide i2
 have I3 := hide i3
 clear i0 i1 i2 i3
 cases hv : (vB al ah && vB bl bh)
 ·rw [ok_f, ok_f, err_f]
  have HV := hide hv
  clear hv
  go_enter Try.func63, Try.ntmps63
  go_wp2_with (go_at_call 73; refine (invalid2 al ah bl bh _ _ _ h0 h1 (by go_simp) (by go_simp) (by go_simp) (by go_simp) (by go_simp) true (by simpa using HV.out)).mono ?_; rintro e w1 ⟨rfl, hb1⟩; obtain ⟨hc1, hf1⟩ := bcell hb1; have hz1 := hb1.size; try simp only [World.size_alloc] at hz1)
  refine bodyPost_ret (v := .tuple #[.agg #[.int .i64 (0), .int .i64 (0)], .int .i64 2]) (by simp only [results, Try.results63]; go_simp) rfl ⟨rfl, blw_⟩
 ·rw [ok_t, ok_t, err_t]
  have HV := hide hv
  clear hv
  by_cases c1 : -9223372036854775807 ≤ al + bl ∧ al + bl ≤ 9223372036854775807
  ·by_cases c2 : -9223372036854775807 ≤ ah + bh ∧ ah + bh ≤ 9223372036854775807
   ·have E := hide (out_t (fits_t c1 c2))
    have C1 := hide c1
    have C2 := hide c2
    clear c1 c2
    go_enter Try.func63, Try.ntmps63
    go_wp2_with fail
    go_at_call 73
    refine (invalid2 al ah bl bh _ _ _ h0 h1 (by go_simp) (by go_simp) (by go_simp) (by go_simp) (by go_simp) false (by simpa using HV.out)).mono ?_
    rintro e w1 ⟨rfl, hb1⟩
    obtain ⟨hc1, hf1⟩ := bcell hb1
    have hz1 := hb1.size
    try simp only [World.size_alloc, World.size_setCell] at hz1
    try refine zw4 w w1 (by omega) fun _ _ _ _ _ _ _ _ => ?_
    go_wp2_with fail
    refine (plus_yes al bl C1.out _).mono ?_
    rintro e w2 ⟨rfl, hb2⟩
    obtain ⟨hc2, hf2⟩ := bcell hb2
    have hz2 := hb2.size
    try simp only [World.size_alloc, World.size_setCell] at hz2
    try refine zw4 w w2 (by omega) fun _ _ _ _ _ _ _ _ => ?_
    try have : w1.heap.size < w2.heap.size := by omega
    try have : w1.heap.size ≤ w2.heap.size := by omega
    go_wp2_with fail
    refine (plus_yes ah bh C2.out _).mono ?_
    rintro e w3 ⟨rfl, hb3⟩
    obtain ⟨hc3, hf3⟩ := bcell hb3
    have hz3 := hb3.size
    try simp only [World.size_alloc, World.size_setCell] at hz3
    try refine zw4 w w3 (by omega) fun _ _ _ _ _ _ _ _ => ?_
    try have : w1.heap.size < w3.heap.size := by omega
    try have : w1.heap.size ≤ w3.heap.size := by omega
    try have : w2.heap.size < w3.heap.size := by omega
    try have : w2.heap.size ≤ w3.heap.size := by omega
    go_wp2
    rw [E.out.1, E.out.2.1, E.out.2.2]
    refine bodyPost_ret (v := .tuple #[.agg #[.int .i64 (al + bl), .int .i64 (ah + bh)], .int .i64 0]) (by simp only [results, Try.results63]; go_simp) rfl ⟨rfl, blw_⟩
   ·have E := hide (out_f (lo := al + bl) (hi := ah + bh) (fits_f (by omega)))
    have C1 := hide c1
    have C2 := hide c2
    clear c1 c2
    go_enter Try.func63, Try.ntmps63
    go_wp2_with fail
    go_at_call 73
    refine (invalid2 al ah bl bh _ _ _ h0 h1 (by go_simp) (by go_simp) (by go_simp) (by go_simp) (by go_simp) false (by simpa using HV.out)).mono ?_
    rintro e w1 ⟨rfl, hb1⟩
    obtain ⟨hc1, hf1⟩ := bcell hb1
    have hz1 := hb1.size
    try simp only [World.size_alloc, World.size_setCell] at hz1
    try refine zw4 w w1 (by omega) fun _ _ _ _ _ _ _ _ => ?_
    go_wp2_with fail
    refine (plus_yes al bl C1.out _).mono ?_
    rintro e w2 ⟨rfl, hb2⟩
    obtain ⟨hc2, hf2⟩ := bcell hb2
    have hz2 := hb2.size
    try simp only [World.size_alloc, World.size_setCell] at hz2
    try refine zw4 w w2 (by omega) fun _ _ _ _ _ _ _ _ => ?_
    try have : w1.heap.size < w2.heap.size := by omega
    try have : w1.heap.size ≤ w2.heap.size := by omega
    go_wp2_with fail
    refine (plus_no ah bh I1.out I3.out C2.out _).mono ?_
    rintro e w3 ⟨rfl, hb3⟩
    obtain ⟨hc3, hf3⟩ := bcell hb3
    have hz3 := hb3.size
    try simp only [World.size_alloc, World.size_setCell] at hz3
    try refine zw4 w w3 (by omega) fun _ _ _ _ _ _ _ _ => ?_
    try have : w1.heap.size < w3.heap.size := by omega
    try have : w1.heap.size ≤ w3.heap.size := by omega
    try have : w2.heap.size < w3.heap.size := by omega
    try have : w2.heap.size ≤ w3.heap.size := by omega
    go_wp2
    rw [E.out.1, E.out.2.1, E.out.2.2]
    refine bodyPost_ret (v := .tuple #[.agg #[.int .i64 (0), .int .i64 (0)], .int .i64 4]) (by simp only [results, Try.results63]; go_simp) rfl ⟨rfl, blw_⟩
  ·have E := hide (out_f (lo := al + bl) (hi := ah + bh) (fits_f (by omega)))
   by_cases c2 : -9223372036854775807 ≤ ah + bh ∧ ah + bh ≤ 9223372036854775807
   ·have C1 := hide c1
    have C2 := hide c2
    clear c1 c2
    go_enter Try.func63, Try.ntmps63
    go_wp2_with fail
    go_at_call 73
    refine (invalid2 al ah bl bh _ _ _ h0 h1 (by go_simp) (by go_simp) (by go_simp) (by go_simp) (by go_simp) false (by simpa using HV.out)).mono ?_
    rintro e w1 ⟨rfl, hb1⟩
    obtain ⟨hc1, hf1⟩ := bcell hb1
    have hz1 := hb1.size
    try simp only [World.size_alloc, World.size_setCell] at hz1
    try refine zw4 w w1 (by omega) fun _ _ _ _ _ _ _ _ => ?_
    go_wp2_with fail
    refine (plus_no al bl I0.out I2.out C1.out _).mono ?_
    rintro e w2 ⟨rfl, hb2⟩
    obtain ⟨hc2, hf2⟩ := bcell hb2
    have hz2 := hb2.size
    try simp only [World.size_alloc, World.size_setCell] at hz2
    try refine zw4 w w2 (by omega) fun _ _ _ _ _ _ _ _ => ?_
    try have : w1.heap.size < w2.heap.size := by omega
    try have : w1.heap.size ≤ w2.heap.size := by omega
    go_wp2_with fail
    refine (plus_yes ah bh C2.out _).mono ?_
    rintro e w3 ⟨rfl, hb3⟩
    obtain ⟨hc3, hf3⟩ := bcell hb3
    have hz3 := hb3.size
    try simp only [World.size_alloc, World.size_setCell] at hz3
    try refine zw4 w w3 (by omega) fun _ _ _ _ _ _ _ _ => ?_
    try have : w1.heap.size < w3.heap.size := by omega
    try have : w1.heap.size ≤ w3.heap.size := by omega
    try have : w2.heap.size < w3.heap.size := by omega
    try have : w2.heap.size ≤ w3.heap.size := by omega
    go_wp2
    rw [E.out.1, E.out.2.1, E.out.2.2]
    refine bodyPost_ret (v := .tuple #[.agg #[.int .i64 (0), .int .i64 (0)], .int .i64 4]) (by simp only [results, Try.results63]; go_simp) rfl ⟨rfl, blw_⟩
   ·have C1 := hide c1
    have C2 := hide c2
    clear c1 c2
    go_enter Try.func63, Try.ntmps63
    go_wp2_with fail
    go_at_call 73
    refine (invalid2 al ah bl bh _ _ _ h0 h1 (by go_simp) (by go_simp) (by go_simp) (by go_simp) (by go_simp) false (by simpa using HV.out)).mono ?_
    rintro e w1 ⟨rfl, hb1⟩
    obtain ⟨hc1, hf1⟩ := bcell hb1
    have hz1 := hb1.size
    try simp only [World.size_alloc, World.size_setCell] at hz1
    try refine zw4 w w1 (by omega) fun _ _ _ _ _ _ _ _ => ?_
    go_wp2_with fail
    refine (plus_no al bl I0.out I2.out C1.out _).mono ?_
    rintro e w2 ⟨rfl, hb2⟩
    obtain ⟨hc2, hf2⟩ := bcell hb2
    have hz2 := hb2.size
    try simp only [World.size_alloc, World.size_setCell] at hz2
    try refine zw4 w w2 (by omega) fun _ _ _ _ _ _ _ _ => ?_
    try have : w1.heap.size < w2.heap.size := by omega
    try have : w1.heap.size ≤ w2.heap.size := by omega
    go_wp2_with fail
    refine (plus_no ah bh I1.out I3.out C2.out _).mono ?_
    rintro e w3 ⟨rfl, hb3⟩
    obtain ⟨hc3, hf3⟩ := bcell hb3
    have hz3 := hb3.size
    try simp only [World.size_alloc, World.size_setCell] at hz3
    try refine zw4 w w3 (by omega) fun _ _ _ _ _ _ _ _ => ?_
    try have : w1.heap.size < w3.heap.size := by omega
    try have : w1.heap.size ≤ w3.heap.size := by omega
    try have : w2.heap.size < w3.heap.size := by omega
    try have : w2.heap.size ≤ w3.heap.size := by omega
    go_wp2
    rw [E.out.1, E.out.2.1, E.out.2.2]
    refine bodyPost_ret (v := .tuple #[.agg #[.int .i64 (0), .int .i64 (0)], .int .i64 4]) (by simp only [results, Try.results63]; go_simp) rfl ⟨rfl, blw_⟩
end
section
open Go.RowKit
end
section
open Go.RowKit
theorem quo_u64 {a b : Int} (ha : 0 ≤ a ∧ a < 18446744073709551616) (hb : 0 < b) : IntKind.u64.wrap (a.tdiv b) = a / b ∧ a.tmod b = a % b := by
 have h1 := Int.ediv_nonneg ha.1 (Int.le_of_lt hb)
 have h2 := Int.ediv_le_self b ha.1
 have h3 := Int.emod_nonneg a (show b ≠ 0 by omega)
 have h4 : a % b ≤ a := by
  have := Int.emod_add_mul_ediv a b
  have := Int.mul_nonneg (Int.le_of_lt hb) h1
  omega
 rw [Int.tdiv_eq_ediv_of_nonneg ha.1, Int.tmod_eq_emod_of_nonneg ha.1, u64w]
 generalize a / b = x at *
 exact ⟨by omega, rfl⟩
end
section
open Go.RowKit
end
section
open Go.RowKit
end
section
open Go.RowKit
def mi (x y : Int) : Int := if y < x then y else x
def mx (x y : Int) : Int := if x < y then y else x
theorem mi_eq (x y : Int) : (if y < x then y else x) = mi x y := rfl
theorem mx_eq (x y : Int) : (if x < y then y else x) = mx x y := rfl
theorem sboth (al ah bl bh : Int) (w : World) :
  Calls Try.prog 81 #[.agg #[.int .i64 (al), .int .i64 (ah)], .agg #[.int .i64 (bl), .int .i64 (bh)]] w fun e w' => e = .returned (.agg #[.int .i64 (mi al bl), .int .i64 (mx ah bh)]) ∧ Below w.heap.size w w' := by
 have m1 := mi_eq al bl
 have m2 := mx_eq ah bh
 go_enter Try.func81, Try.ntmps81
 go_wp2
 refine bodyPost_ret (v := .agg #[.int .i64 (mi al bl), .int .i64 (mx ah bh)]) (by simp only [results, Try.results81]; go_simp) rfl ⟨rfl, blw_⟩
end
section
namespace QF
section
variable {P : Program} {ops : Array Oper} {md : Region.Mode} {D : Option Value → World → Prop}








end
open Go.RowKit
end QF
end
end Go.Proofs.Ytfgfnjckklldbaa
