/- Packed: Base Ask Ask2 Wide Out Sum Bits Div. -/
import Derived.Test.YtacpahebbnnckaaProg
import Derived.WalkKit
import Derived.WalkSpells
import Derived.WalkLawsBesides
import Derived.RowKit3
import Derived.Below
import Derived.Deep.QuietTactic
import Derived.BigQuiet
import Derived.KernelRfl
import Derived.Test.YtacpahebbnnckaaP4
set_option linter.unusedVariables false
set_option linter.unusedSimpArgs false
namespace Go.Proofs.Ytacpahebbnnckaa
section
open Go.RowKit
theorem hide {p : Prop} (h : p) : Hid p := h
theorem bcell {W w1 : World} (hb : Below W.heap.size W w1) : (∀ b o, b < W.heap.size → w1.cell? ⟨b, o, none⟩ = W.cell? ⟨b, o, none⟩) ∧ (∀ b o, b < W.heap.size → w1.frozen? ⟨b, o, none⟩ = W.frozen? ⟨b, o, none⟩) :=
 ⟨fun b o h => hb.cell (p := ⟨b, o, none⟩) h, fun b o h => hb.frozen (p := ⟨b, o, none⟩) h⟩
theorem bcellB {B : Nat} {W w1 : World} (hb : Below B W w1) : (∀ b o, b < B → w1.cell? ⟨b, o, none⟩ = W.cell? ⟨b, o, none⟩) ∧ (∀ b o, b < B → w1.frozen? ⟨b, o, none⟩ = W.frozen? ⟨b, o, none⟩) :=
 ⟨fun b o h => hb.cell (p := ⟨b, o, none⟩) h, fun b o h => hb.frozen (p := ⟨b, o, none⟩) h⟩
theorem qtrans {B : Nat} {W w1 w2 : World} (hBW : B ≤ W.heap.size) (hC : Below B W w1) (hb : Below w1.heap.size w1 w2) : Below B W w2 := hC.trans (hb.mono (Nat.le_trans hBW hC.size))
theorem bdrew {n : Nat} {w w' : World} (h : Below n w w') : Below n w w'.drew := h.drew
theorem bset {n : Nat} {w w' : World} {p : Addr} {v : Value} (hp : n ≤ p.block) (h : Below n w w') : Below n w (w'.setCell p v) := h.setCell hp v
theorem ball {n : Nat} {w w' : World} {o : Obj} (hs : n ≤ w'.heap.size) (h : Below n w w') : Below n w (w'.alloc o) := h.alloc hs o
theorem zw1 {C : Prop} (w v : World) (h : w.heap.size < v.heap.size) (c : w.heap.size < v.heap.size → w.heap.size ≤ v.heap.size → C) : C := c (by omega) (by omega)
theorem zw2 {C : Prop} (w v : World) (h : w.heap.size + 1 < v.heap.size) (c : w.heap.size < v.heap.size → w.heap.size ≤ v.heap.size → w.heap.size + 1 < v.heap.size → w.heap.size + 1 ≤ v.heap.size → C) : C := c (by omega) (by omega) (by omega) (by omega)
theorem zw3 {C : Prop} (w v : World) (h : w.heap.size + 1 + 1 < v.heap.size) (c : w.heap.size < v.heap.size → w.heap.size ≤ v.heap.size → w.heap.size + 1 < v.heap.size → w.heap.size + 1 ≤ v.heap.size → w.heap.size + 1 + 1 < v.heap.size → w.heap.size + 1 + 1 ≤ v.heap.size → C) : C := c (by omega) (by omega) (by omega) (by omega) (by omega) (by omega)
theorem zw4 {C : Prop} (w v : World) (h : w.heap.size + 1 + 1 + 1 < v.heap.size) (c : w.heap.size < v.heap.size → w.heap.size ≤ v.heap.size → w.heap.size + 1 < v.heap.size → w.heap.size + 1 ≤ v.heap.size → w.heap.size + 1 + 1 < v.heap.size → w.heap.size + 1 + 1 ≤ v.heap.size → w.heap.size + 1 + 1 + 1 < v.heap.size → w.heap.size + 1 + 1 + 1 ≤ v.heap.size → C) : C := c (by omega) (by omega) (by omega) (by omega) (by omega) (by omega) (by omega) (by omega)
theorem zw5 {C : Prop} (w v : World) (h : w.heap.size + 1 + 1 + 1 + 1 < v.heap.size) (c : w.heap.size < v.heap.size → w.heap.size ≤ v.heap.size → w.heap.size + 1 < v.heap.size → w.heap.size + 1 ≤ v.heap.size → w.heap.size + 1 + 1 < v.heap.size → w.heap.size + 1 + 1 ≤ v.heap.size → w.heap.size + 1 + 1 + 1 < v.heap.size → w.heap.size + 1 + 1 + 1 ≤ v.heap.size → w.heap.size + 1 + 1 + 1 + 1 < v.heap.size → w.heap.size + 1 + 1 + 1 + 1 ≤ v.heap.size → C) : C := c (by omega) (by omega) (by omega) (by omega) (by omega) (by omega) (by omega) (by omega) (by omega) (by omega)
theorem zw6 {C : Prop} (w v : World) (h : w.heap.size + 1 + 1 + 1 + 1 + 1 < v.heap.size) (c : w.heap.size < v.heap.size → w.heap.size ≤ v.heap.size → w.heap.size + 1 < v.heap.size → w.heap.size + 1 ≤ v.heap.size → w.heap.size + 1 + 1 < v.heap.size → w.heap.size + 1 + 1 ≤ v.heap.size → w.heap.size + 1 + 1 + 1 < v.heap.size → w.heap.size + 1 + 1 + 1 ≤ v.heap.size → w.heap.size + 1 + 1 + 1 + 1 < v.heap.size → w.heap.size + 1 + 1 + 1 + 1 ≤ v.heap.size → w.heap.size + 1 + 1 + 1 + 1 + 1 < v.heap.size → w.heap.size + 1 + 1 + 1 + 1 + 1 ≤ v.heap.size → C) : C := c (by omega) (by omega) (by omega) (by omega) (by omega) (by omega) (by omega) (by omega) (by omega) (by omega) (by omega) (by omega)
theorem zw7 {C : Prop} (w v : World) (h : w.heap.size + 1 + 1 + 1 + 1 + 1 + 1 < v.heap.size) (c : w.heap.size < v.heap.size → w.heap.size ≤ v.heap.size → w.heap.size + 1 < v.heap.size → w.heap.size + 1 ≤ v.heap.size → w.heap.size + 1 + 1 < v.heap.size → w.heap.size + 1 + 1 ≤ v.heap.size → w.heap.size + 1 + 1 + 1 < v.heap.size → w.heap.size + 1 + 1 + 1 ≤ v.heap.size → w.heap.size + 1 + 1 + 1 + 1 < v.heap.size → w.heap.size + 1 + 1 + 1 + 1 ≤ v.heap.size → w.heap.size + 1 + 1 + 1 + 1 + 1 < v.heap.size → w.heap.size + 1 + 1 + 1 + 1 + 1 ≤ v.heap.size → w.heap.size + 1 + 1 + 1 + 1 + 1 + 1 < v.heap.size → w.heap.size + 1 + 1 + 1 + 1 + 1 + 1 ≤ v.heap.size → C) : C := c (by omega) (by omega) (by omega) (by omega) (by omega) (by omega) (by omega) (by omega) (by omega) (by omega) (by omega) (by omega) (by omega) (by omega)
theorem zw8 {C : Prop} (w v : World) (h : w.heap.size + 1 + 1 + 1 + 1 + 1 + 1 + 1 < v.heap.size) (c : w.heap.size < v.heap.size → w.heap.size ≤ v.heap.size → w.heap.size + 1 < v.heap.size → w.heap.size + 1 ≤ v.heap.size → w.heap.size + 1 + 1 < v.heap.size → w.heap.size + 1 + 1 ≤ v.heap.size → w.heap.size + 1 + 1 + 1 < v.heap.size → w.heap.size + 1 + 1 + 1 ≤ v.heap.size → w.heap.size + 1 + 1 + 1 + 1 < v.heap.size → w.heap.size + 1 + 1 + 1 + 1 ≤ v.heap.size → w.heap.size + 1 + 1 + 1 + 1 + 1 < v.heap.size → w.heap.size + 1 + 1 + 1 + 1 + 1 ≤ v.heap.size → w.heap.size + 1 + 1 + 1 + 1 + 1 + 1 < v.heap.size → w.heap.size + 1 + 1 + 1 + 1 + 1 + 1 ≤ v.heap.size → w.heap.size + 1 + 1 + 1 + 1 + 1 + 1 + 1 < v.heap.size → w.heap.size + 1 + 1 + 1 + 1 + 1 + 1 + 1 ≤ v.heap.size → C) : C := c (by omega) (by omega) (by omega) (by omega) (by omega) (by omega) (by omega) (by omega) (by omega) (by omega) (by omega) (by omega) (by omega) (by omega) (by omega) (by omega)
theorem zce (w : World) (b k : Nat) (v : Value) (h : w.cell? ⟨b, k, none⟩ = some v) : w.cell? ⟨b, k, none⟩ = some v := h
theorem zci (w : World) (b k : Nat) (v : Int) (h : w.cell? ⟨b, k, none⟩ = some (.int .i64 v)) : w.cell? ⟨b, k, none⟩ = some (.int .i64 v) := h
theorem zcu (w : World) (b k : Nat) (v : Int) (h : w.cell? ⟨b, k, none⟩ = some (.int .u64 v)) : w.cell? ⟨b, k, none⟩ = some (.int .u64 v) := h
theorem zfe (w : World) (b k : Nat) (h : w.frozen? ⟨b, k, none⟩ = false) : w.frozen? ⟨b, k, none⟩ = false := h
theorem zb {C : Prop} (b : Nat) (v : World) (h : b < v.heap.size) (c : b < v.heap.size → b ≤ v.heap.size → C) : C := c (by omega) (by omega)
theorem bth {n m : Nat} {a b c : World} (hb : Below m b c) (hn : n ≤ m) (h : Below n a b) : Below n a c := h.trans (hb.mono hn)
theorem blw_ {n : Nat} {w w' : World} (h : Below n w w' := by repeat (first | with_reducible exact Below.refl _ _ | with_reducible refine bdrew ?_ | ((with_reducible first | refine bset ?_ ?_ | refine ball ?_ ?_ | refine bth (by assumption) ?_ ?_); first | omega | (simp <;> omega)))) : Below n w w' := h
def vB (lo hi : Int) : Bool := decide (-9223372036854775807 ≤ lo ∧ lo ≤ hi)
theorem vB_t {lo hi : Int} (h1 : -9223372036854775807 ≤ lo) (h2 : lo ≤ hi) : vB lo hi = true := decide_eq_true ⟨h1, h2⟩
theorem vB_f {lo hi : Int} (h : lo < -9223372036854775807 ∨ hi < lo) : vB lo hi = false := decide_eq_false (by omega)
theorem vB_tt {lo hi : Int} (h : vB lo hi = true) : -9223372036854775807 ≤ lo ∧ lo ≤ hi := of_decide_eq_true h
theorem vB_ff {lo hi : Int} (h : vB lo hi = false) : lo < -9223372036854775807 ∨ hi < lo := by have := of_decide_eq_false h; omega
def orderI (al ah bl bh : Int) : Int := if vB al ah && vB bl bh then (if ah < bl then -1 else if bh < al then 1 else 0) else 0
def chkI (lo hi : Int) : Int := if vB lo hi then 0 else 2
def I64 (x : Int) : Prop := -9223372036854775808 ≤ x ∧ x ≤ 9223372036854775807
theorem i64_of_wf {x : Int} (h : (Lit.int .i64 x).wf = true) : I64 x := by
 simp [Lit.wf, IntKind.min, IntKind.max, IntKind.signed, IntKind.bits] at h
 exact ⟨by omega, by omega⟩
end
section
open Go.RowKit

theorem check_yes (lo hi : Int) (h : vB lo hi = true) (w : World) :
  Calls Try.prog 103 #[.agg #[.int .i64 (lo), .int .i64 (hi)]] w fun e w' => e = .returned (.int .i64 0) ∧ Below w.heap.size w w' := by
 obtain ⟨h1, h2⟩ := vB_tt h
 have g1 : (lo == -9223372036854775808) = false := by simp; omega
 have g2 : ¬ hi < lo := by omega
 clear h
 go_enter Try.func103, Try.ntmps103
 go_wp2
 go_ret
 exact ⟨rfl, (Below.refl _ _).alloc (Nat.le_refl _) _⟩

theorem check_no (lo hi : Int) (h0 : -9223372036854775808 ≤ lo) (h : vB lo hi = false) (w : World) :
  Calls Try.prog 103 #[.agg #[.int .i64 (lo), .int .i64 (hi)]] w fun e w' => e = .returned (.int .i64 2) ∧ Below w.heap.size w w' := by
 have h := vB_ff h
 by_cases g : lo = -9223372036854775808
 ·have g1 : (lo == -9223372036854775808) = true := by simpa using g
  clear h g
  go_enter Try.func103, Try.ntmps103
  go_wp2
  go_ret
  exact ⟨rfl, (Below.refl _ _).alloc (Nat.le_refl _) _⟩
 ·have g1 : (lo == -9223372036854775808) = false := by simpa using g
  have g2 : hi < lo := by omega
  clear h g
  go_enter Try.func103, Try.ntmps103
  go_wp2
  go_ret
  exact ⟨rfl, (Below.refl _ _).alloc (Nat.le_refl _) _⟩


theorem invalid_no (L H : Nat → Int) (n b off cap : Nat) (hn : n ≤ 1000000) (w : World) (hV : ∀ i, i < n → vB (L i) (H i) = true)
  (hc : ∀ i, i < n → w.cell? ⟨b, off + i * 2, none⟩ = some (.int .i64 (L i)) ∧ w.cell? ⟨b, off + i * 2 + 1, none⟩ = some (.int .i64 (H i))) (hb : n = 0 ∨ b < w.heap.size) :
  Calls Try.prog 116 #[.slice (some ⟨b, off, none⟩) n cap] w fun e w' => e = .returned (.bool false) ∧ Below w.heap.size w w' := by
 have HC := hide hc
 have HV := hide hV
 have HB := hide hb
 clear hc hV hb
 go_enter Try.func116, Try.ntmps116
 go_wp2
 go_loopw [7] (fun i wr => ∃ k : Nat, k ≤ n ∧ i = .int .i64 k ∧ Below w.heap.size w wr) (fun i _ => n - (intOf i).toNat)
 case atStart => exact ⟨0, Nat.zero_le _, rfl, Below.refl _ _⟩
 case round =>
  obtain ⟨k, hk, rfl, hB⟩ := hrel
  by_cases hlt : k < n
  ·obtain ⟨c1, c2⟩ := HC.out k hlt
   have HV1 := hide (HV.out k hlt)
   have hbw : b < w.heap.size := by have := HB.out; omega
   have c1' := (hB.cell (p := ⟨b, off + k * 2, none⟩) hbw).trans c1
   have c2' := (hB.cell (p := ⟨b, off + k * 2 + 1, none⟩) hbw).trans c2
   clear c1 c2
   go_wp2_with (go_at_call 103; refine (check_yes _ _ HV1.out _).mono ?_; rintro e w1 ⟨rfl, hb1⟩)
   go_roundw
   case rel => exact ⟨k + 1, by omega, by go_num, hB.trans (((Below.refl _ _).alloc (by have := hB.size; omega) _).trans (hb1.mono (by have := hB.size; simp; omega)))⟩
   case measure => simp [intOf]; omega
  ·go_wp2
   go_ret
   exact ⟨rfl, hB⟩

theorem invalid_yes (L H : Nat → Int) (n m b off cap : Nat) (hn : n ≤ 1000000) (w : World) (hm : m < n) (hV : ∀ i, i < m → vB (L i) (H i) = true) (hM : vB (L m) (H m) = false) (hL : ∀ i, i < n → -9223372036854775808 ≤ L i)
  (hc : ∀ i, i < n → w.cell? ⟨b, off + i * 2, none⟩ = some (.int .i64 (L i)) ∧ w.cell? ⟨b, off + i * 2 + 1, none⟩ = some (.int .i64 (H i))) (hb : b < w.heap.size) :
  Calls Try.prog 116 #[.slice (some ⟨b, off, none⟩) n cap] w fun e w' => e = .returned (.bool true) ∧ Below w.heap.size w w' := by
 have HC := hide hc
 have HV := hide hV
 have HM := hide hM
 have HL := hide hL
 clear hc hV hM hL
 go_enter Try.func116, Try.ntmps116
 go_wp2
 go_loopw [7] (fun i wr => ∃ k : Nat, k ≤ m ∧ i = .int .i64 k ∧ Below w.heap.size w wr) (fun i _ => n - (intOf i).toNat)
 case atStart => exact ⟨0, Nat.zero_le _, rfl, Below.refl _ _⟩
 case round =>
  obtain ⟨k, hk, rfl, hB⟩ := hrel
  have hlt : k < n := by omega
  obtain ⟨c1, c2⟩ := HC.out k hlt
  have c1' := (hB.cell (p := ⟨b, off + k * 2, none⟩) hb).trans c1
  have c2' := (hB.cell (p := ⟨b, off + k * 2 + 1, none⟩) hb).trans c2
  clear c1 c2
  by_cases hkm : k < m
  ·have HV1 := hide (HV.out k hkm)
   go_wp2_with (go_at_call 103; refine (check_yes _ _ HV1.out _).mono ?_; rintro e w1 ⟨rfl, hb1⟩)
   go_roundw
   case rel => exact ⟨k + 1, by omega, by go_num, hB.trans (((Below.refl _ _).alloc (by have := hB.size; omega) _).trans (hb1.mono (by have := hB.size; simp; omega)))⟩
   case measure => simp [intOf]; omega
  ·obtain rfl : k = m := by omega
   have HL1 := hide (HL.out k hlt)
   go_wp2_with (go_at_call 103; refine (check_no _ _ HL1.out HM.out _).mono ?_; rintro e w1 ⟨rfl, hb1⟩)
   go_ret
   exact ⟨rfl, hB.trans (((Below.refl _ _).alloc (by have := hB.size; omega) _).trans (hb1.mono (by have := hB.size; simp; omega)))⟩

theorem invalid1 (lo hi : Int) (b cap : Nat) (w : World) (h0 : -9223372036854775808 ≤ lo) (hc0 : w.cell? ⟨b, 0, none⟩ = some (.int .i64 lo)) (hc1 : w.cell? ⟨b, 1, none⟩ = some (.int .i64 hi)) (hb : b < w.heap.size) (r : Bool) (hr : vB lo hi = !r) :
  Calls Try.prog 116 #[.slice (some ⟨b, 0, none⟩) 1 cap] w fun e w' => e = .returned (.bool r) ∧ Below w.heap.size w w' := by
 cases r
 ·exact invalid_no (fun _ => lo) (fun _ => hi) 1 b 0 cap (by omega) w (fun _ _ => by simpa using hr) (fun i hi => by (have h0i : i = 0 := by omega); subst h0i; exact ⟨hc0, hc1⟩) (.inr hb)
 ·exact invalid_yes (fun _ => lo) (fun _ => hi) 1 0 b 0 cap (by omega) w (by omega) (fun i hi => by omega) (by simpa using hr) (fun _ _ => h0) (fun i hi => by (have h0i : i = 0 := by omega); subst h0i; exact ⟨hc0, hc1⟩) hb

def pick2 (a b : Int) : Nat → Int
 | 0 => a
 | _ => b
theorem invalid2 (al ah bl bh : Int) (b cap : Nat) (w : World) (h0 : -9223372036854775808 ≤ al) (h1 : -9223372036854775808 ≤ bl) (hc0 : w.cell? ⟨b, 0, none⟩ = some (.int .i64 al)) (hc1 : w.cell? ⟨b, 1, none⟩ = some (.int .i64 ah))
  (hc2 : w.cell? ⟨b, 2, none⟩ = some (.int .i64 bl)) (hc3 : w.cell? ⟨b, 3, none⟩ = some (.int .i64 bh)) (hb : b < w.heap.size) (r : Bool) (hr : (vB al ah && vB bl bh) = !r) :
  Calls Try.prog 116 #[.slice (some ⟨b, 0, none⟩) 2 cap] w fun e w' => e = .returned (.bool r) ∧ Below w.heap.size w w' := by
 have hcs : ∀ i, i < 2 → w.cell? ⟨b, 0 + i * 2, none⟩ = some (.int .i64 (pick2 al bl i)) ∧ w.cell? ⟨b, 0 + i * 2 + 1, none⟩ = some (.int .i64 (pick2 ah bh i)) := by
  intro i hi
  match i, hi with
  | 0, _ => exact ⟨hc0, hc1⟩
  | 1, _ => exact ⟨hc2, hc3⟩
 cases r
 ·have hr : vB al ah = true ∧ vB bl bh = true := by simpa using hr
  refine invalid_no (pick2 al bl) (pick2 ah bh) 2 b 0 cap (by omega) w (fun i hi => ?_) hcs (.inr hb)
  match i, hi with
  | 0, _ => exact hr.1
  | 1, _ => exact hr.2
 ·have hL : ∀ i, i < 2 → -9223372036854775808 ≤ pick2 al bl i := fun i hi => by
   match i, hi with
   | 0, _ => exact h0
   | 1, _ => exact h1
  cases ha : vB al ah
  ·exact invalid_yes (pick2 al bl) (pick2 ah bh) 2 0 b 0 cap (by omega) w (by omega) (fun i hi => by omega) ha hL hcs hb
  ·have hb' : vB bl bh = false := by simpa [ha] using hr
   exact invalid_yes (pick2 al bl) (pick2 ah bh) 2 1 b 0 cap (by omega) w (by omega) (fun i hi => by (have h0i : i = 0 := by omega); subst h0i; exact ha) hb' hL hcs hb
end
section
open Go.RowKit

theorem rnumber (n : Int) (r : Bool) (hr : decide (-9223372036854775807 ≤ n) = r) (w : World) :
  Calls Try.prog 29 #[.int .i64 n] w fun e w' => e = .returned (.bool r) ∧ Below w.heap.size w w' := by
 have HR := hide hr
 clear hr
 go_enter Try.func29, Try.ntmps29
 go_wp2
 go_ret
 exact ⟨by rw [← HR.out]; rfl, blw_⟩

theorem rcheck (lo hi : Int) (r : Int) (hr : chkI lo hi = r) (w : World) :
  Calls Try.prog 67 #[.agg #[.int .i64 (lo), .int .i64 (hi)]] w fun e w' => e = .returned (.int .i64 r) ∧ Below w.heap.size w w' := by
 subst hr
 by_cases g1 : -9223372036854775807 ≤ lo
 ·by_cases g2 : hi < -9223372036854775807
  ·have HR := hide (show chkI lo hi = 2 by rw [chkI, vB_f (by omega)]; rfl)
   go_enter Try.func67, Try.ntmps67
   go_wp2_with fail; refine (rnumber lo true (by simpa using g1) _).mono ?_; rintro e w1 ⟨rfl, hb1⟩; obtain ⟨hc1, hf1⟩ := bcell hb1; have hz1 := hb1.size; try simp only [World.size_alloc] at hz1
   go_wp2_with fail; refine (rnumber hi false (by simpa using g2) _).mono ?_; rintro e w1 ⟨rfl, hb2⟩; have hb3 := hb1.trans (hb2.mono hb1.size); clear hc1 hf1 hz1 hb1 hb2; have hb1 := hb3; clear hb3; obtain ⟨hc1, hf1⟩ := bcell hb1; have hz1 := hb1.size; try simp only [World.size_alloc] at hz1
   go_wp2
   go_ret
   exact ⟨by rw [HR.out]; rfl, blw_⟩
  ·by_cases g3 : hi < lo
   ·have HR := hide (show chkI lo hi = 2 by rw [chkI, vB_f (by omega)]; rfl)
    go_enter Try.func67, Try.ntmps67
    go_wp2_with fail; refine (rnumber lo true (by simpa using g1) _).mono ?_; rintro e w1 ⟨rfl, hb1⟩; obtain ⟨hc1, hf1⟩ := bcell hb1; have hz1 := hb1.size; try simp only [World.size_alloc] at hz1
    go_wp2_with fail; refine (rnumber hi true (by simp; omega) _).mono ?_; rintro e w1 ⟨rfl, hb2⟩; have hb3 := hb1.trans (hb2.mono hb1.size); clear hc1 hf1 hz1 hb1 hb2; have hb1 := hb3; clear hb3; obtain ⟨hc1, hf1⟩ := bcell hb1; have hz1 := hb1.size; try simp only [World.size_alloc] at hz1
    go_wp2
    go_ret
    exact ⟨by rw [HR.out]; rfl, blw_⟩
   ·have HR := hide (show chkI lo hi = 0 by rw [chkI, vB_t (by omega) (by omega)]; rfl)
    go_enter Try.func67, Try.ntmps67
    go_wp2_with fail; refine (rnumber lo true (by simpa using g1) _).mono ?_; rintro e w1 ⟨rfl, hb1⟩; obtain ⟨hc1, hf1⟩ := bcell hb1; have hz1 := hb1.size; try simp only [World.size_alloc] at hz1
    go_wp2_with fail; refine (rnumber hi true (by simp; omega) _).mono ?_; rintro e w1 ⟨rfl, hb2⟩; have hb3 := hb1.trans (hb2.mono hb1.size); clear hc1 hf1 hz1 hb1 hb2; have hb1 := hb3; clear hb3; obtain ⟨hc1, hf1⟩ := bcell hb1; have hz1 := hb1.size; try simp only [World.size_alloc] at hz1
    go_wp2
    go_ret
    exact ⟨by rw [HR.out]; rfl, blw_⟩
 ·have HR := hide (show chkI lo hi = 2 by rw [chkI, vB_f (by omega)]; rfl)
  go_enter Try.func67, Try.ntmps67
  go_wp2_with fail; refine (rnumber lo false (by simp; omega) _).mono ?_; rintro e w1 ⟨rfl, hb1⟩; obtain ⟨hc1, hf1⟩ := bcell hb1; have hz1 := hb1.size; try simp only [World.size_alloc] at hz1
  go_wp2_with fail; refine (rnumber hi _ rfl _).mono ?_; rintro e w1 ⟨rfl, hb2⟩; have hb3 := hb1.trans (hb2.mono hb1.size); clear hc1 hf1 hz1 hb1 hb2; have hb1 := hb3; clear hb3; obtain ⟨hc1, hf1⟩ := bcell hb1; have hz1 := hb1.size; try simp only [World.size_alloc] at hz1
  go_wp2
  go_ret
  exact ⟨by rw [HR.out]; rfl, blw_⟩
theorem rboth_aux (al ah bl bh x y r : Int) (hx : chkI al ah = x) (hy : chkI bl bh = y) (hm : (if x < y then y else x) = r) (w : World) :
  Calls Try.prog 102 #[.agg #[.int .i64 (al), .int .i64 (ah)], .agg #[.int .i64 (bl), .int .i64 (bh)]] w fun e w' => e = .returned (.int .i64 r) ∧ Below w.heap.size w w' := by
 have HX := hide hx
 have HY := hide hy
 clear hx hy
 go_enter Try.func102, Try.ntmps102
 go_wp2_with fail
 refine QT.quiet_b (by kernel_rfl) (by kernel_rfl) ?_
 repeat (first
  | go_big_quiet_skip
  | (go_big_quiet_want; go_big_quiet_op; first
   | go_big_quiet_on
   | (apply Exists.intro
      refine ⟨fun _ => ?_, ?_⟩
      ·first
       | rfl
       | (intro hC; obtain ⟨hcq, hfq⟩ := bcellB hC; go_simp; done)
       | (intro hC; obtain ⟨hcq, hfq⟩ := bcellB hC; go_simp; rfl)
       | (intro hC; have hcq := bcellG hC; go_simp; done)
       | (intro hC; have hcq := bcellG hC; go_simp; rfl)
       | (intro hC; go_at_call 67; (first | (with_reducible refine (rcheck al ah x HX.out _).mono ?_) | (with_reducible refine (rcheck bl bh y HY.out _).mono ?_)); (intro e w2 hw; exact ⟨hw.1, qtrans (by simp) hC hw.2⟩))
      go_big_quiet_on)))
 refine wpQuiet_nil ?_
 intro w9 hC9
 obtain ⟨hc9, hf9⟩ := bcellB hC9
 have hz9 := hC9.size
 go_wp2
 go_ret
 exact ⟨rfl, blw_⟩
theorem rboth (al ah bl bh : Int) (r : Int) (hr : (if vB al ah && vB bl bh then 0 else 2) = r) (w : World) :
  Calls Try.prog 102 #[.agg #[.int .i64 (al), .int .i64 (ah)], .agg #[.int .i64 (bl), .int .i64 (bh)]] w fun e w' => e = .returned (.int .i64 r) ∧ Below w.heap.size w w' := by
 refine rboth_aux al ah bl bh _ _ r rfl rfl ?_ w
 subst hr
 unfold chkI
 cases vB al ah <;> cases vB bl bh <;> simp

theorem order_any (al ah bl bh : Int) (h0 : -9223372036854775808 ≤ al) (h1 : -9223372036854775808 ≤ bl) (w : World) :
  Calls Try.prog 76 #[.agg #[.int .i64 (al), .int .i64 (ah)], .agg #[.int .i64 (bl), .int .i64 (bh)]] w fun e w' => e = .returned (.int .i64 (orderI al ah bl bh)) ∧ Below w.heap.size w w' := by
 by_cases hv : (vB al ah && vB bl bh) = true
 ·have HV := hide hv
  by_cases g1 : ah < bl
  ·have HR := hide (show orderI al ah bl bh = -1 by rw [orderI, if_pos hv, if_pos g1])
   clear hv
   go_enter Try.func76, Try.ntmps76
   go_wp2_with (go_at_call 116; refine (invalid2 al ah bl bh _ _ _ h0 h1 (by go_simp) (by go_simp) (by go_simp) (by go_simp) (by go_simp) false (by simpa using HV.out)).mono ?_; rintro e w1 ⟨rfl, hb1⟩; obtain ⟨hc1, hf1⟩ := bcell hb1; have hz1 := hb1.size; try simp only [World.size_alloc] at hz1)
   go_ret
   exact ⟨by rw [HR.out]; rfl, blw_⟩
  ·by_cases g2 : bh < al
   ·have HR := hide (show orderI al ah bl bh = 1 by rw [orderI, if_pos hv, if_neg g1, if_pos g2])
    clear hv
    go_enter Try.func76, Try.ntmps76
    go_wp2_with (go_at_call 116; refine (invalid2 al ah bl bh _ _ _ h0 h1 (by go_simp) (by go_simp) (by go_simp) (by go_simp) (by go_simp) false (by simpa using HV.out)).mono ?_; rintro e w1 ⟨rfl, hb1⟩; obtain ⟨hc1, hf1⟩ := bcell hb1; have hz1 := hb1.size; try simp only [World.size_alloc] at hz1)
    go_ret
    exact ⟨by rw [HR.out]; rfl, blw_⟩
   ·have HR := hide (show orderI al ah bl bh = 0 by rw [orderI, if_pos hv, if_neg g1, if_neg g2])
    clear hv
    go_enter Try.func76, Try.ntmps76
    go_wp2_with (go_at_call 116; refine (invalid2 al ah bl bh _ _ _ h0 h1 (by go_simp) (by go_simp) (by go_simp) (by go_simp) (by go_simp) false (by simpa using HV.out)).mono ?_; rintro e w1 ⟨rfl, hb1⟩; obtain ⟨hc1, hf1⟩ := bcell hb1; have hz1 := hb1.size; try simp only [World.size_alloc] at hz1)
    go_ret
    exact ⟨by rw [HR.out]; rfl, blw_⟩
 ·have HR := hide (show orderI al ah bl bh = 0 by rw [orderI, if_neg hv])
  have hv : (vB al ah && vB bl bh) = false := by simpa using hv
  have HV := hide hv
  clear hv
  go_enter Try.func76, Try.ntmps76
  go_wp2_with (go_at_call 116; refine (invalid2 al ah bl bh _ _ _ h0 h1 (by go_simp) (by go_simp) (by go_simp) (by go_simp) (by go_simp) true (by simpa using HV.out)).mono ?_; rintro e w1 ⟨rfl, hb1⟩; obtain ⟨hc1, hf1⟩ := bcell hb1; have hz1 := hb1.size; try simp only [World.size_alloc] at hz1)
  go_ret
  exact ⟨by rw [HR.out]; rfl, blw_⟩
end
section
open Go.RowKit
def wH (x : Int) : Int := x / 18446744073709551616
def wL (x : Int) : Int := x % 18446744073709551616
def R127 (x : Int) : Prop := -170141183460469231731687303715884105728 ≤ x ∧ x < 170141183460469231731687303715884105728
def R126 (x : Int) : Prop := -85070591730234615865843651857942052864 ≤ x ∧ x ≤ 85070591730234615865843651857942052864

theorem u64w (n : Int) : IntKind.u64.wrap n = n % 18446744073709551616 := IntKind.wrap_u64 n
theorem rof (n : Int) (hn : I64 n) (w : World) :
  Calls Try.prog 80 #[.int .i64 n] w fun e w' => e = .returned (.agg #[.int .i64 (wH (n)), .int .u64 (wL (n))]) ∧ Below w.heap.size w w' := by
 obtain ⟨h0, h1⟩ := hn
 by_cases g : n < 0
 ·have e1 := hide (show (-1 : Int) = wH n by unfold wH; omega)
  have e2 := hide (show IntKind.u64.wrap n = wL n by rw [u64w]; rfl)
  go_enter Try.func80, Try.ntmps80
  go_wp2
  refine bodyPost_ret (v := .agg #[.int .i64 (wH (n)), .int .u64 (wL (n))]) ?_ rfl ⟨rfl, blw_⟩
  rw [← e1.out, ← e2.out]
  simp [results, Try.results80, go_sem]
 ·have e1 := hide (show (0 : Int) = wH n by unfold wH; omega)
  have e2 := hide (show n = wL n by unfold wL; omega)
  go_enter Try.func80, Try.ntmps80
  go_wp2
  refine bodyPost_ret (v := .agg #[.int .i64 (wH (n)), .int .u64 (wL (n))]) ?_ rfl ⟨rfl, blw_⟩
  rw [← e1.out, ← e2.out]
  simp [results, Try.results80, go_sem]
theorem wadd_c {x y : Int} (hx : R127 x) (hy : R127 y) (hs : R127 (x + y)) (c : IntKind.u64.wrap (wL x + wL y) < wL x) :
  wrap64 (wrap64 (wH x + wH y) + 1) = wH (x + y) ∧ IntKind.u64.wrap (wL x + wL y) = wL (x + y) := by
 obtain ⟨_, _⟩ := hx; obtain ⟨_, _⟩ := hy; obtain ⟨_, _⟩ := hs
 rw [u64w] at *
 unfold wrap64 wH wL at *
 constructor <;> omega
theorem wadd_n {x y : Int} (hx : R127 x) (hy : R127 y) (hs : R127 (x + y)) (c : ¬ IntKind.u64.wrap (wL x + wL y) < wL x) :
  wrap64 (wH x + wH y) = wH (x + y) ∧ IntKind.u64.wrap (wL x + wL y) = wL (x + y) := by
 obtain ⟨_, _⟩ := hx; obtain ⟨_, _⟩ := hy; obtain ⟨_, _⟩ := hs
 rw [u64w] at *
 unfold wrap64 wH wL at *
 constructor <;> omega
theorem rplus (x y : Int) (hx : R127 x) (hy : R127 y) (hs : R127 (x + y)) (w : World) :
  Calls Try.prog 78 #[.agg #[.int .i64 (wH (x)), .int .u64 (wL (x))], .agg #[.int .i64 (wH (y)), .int .u64 (wL (y))]] w fun e w' => e = .returned (.agg #[.int .i64 (wH (x + y)), .int .u64 (wL (x + y))]) ∧ Below w.heap.size w w' := by
 by_cases c : IntKind.u64.wrap (wL x + wL y) < wL x
 ·have E := hide (wadd_c hx hy hs c)
  clear hx hy hs
  go_enter Try.func78, Try.ntmps78
  go_wp2
  refine bodyPost_ret (v := .agg #[.int .i64 (wH (x + y)), .int .u64 (wL (x + y))]) ?_ rfl ⟨rfl, blw_⟩
  rw [← E.out.1, ← E.out.2]
  simp [results, Try.results78, go_sem]
 ·have E := hide (wadd_n hx hy hs c)
  clear hx hy hs
  go_enter Try.func78, Try.ntmps78
  go_wp2
  refine bodyPost_ret (v := .agg #[.int .i64 (wH (x + y)), .int .u64 (wL (x + y))]) ?_ rfl ⟨rfl, blw_⟩
  rw [← E.out.1, ← E.out.2]
  simp [results, Try.results78, go_sem]
theorem rless (x y : Int) (w : World) :
  Calls Try.prog 113 #[.agg #[.int .i64 (wH (x)), .int .u64 (wL (x))], .agg #[.int .i64 (wH (y)), .int .u64 (wL (y))]] w fun e w' => e = .returned (.bool (decide (x < y))) ∧ Below w.heap.size w w' := by
 by_cases g1 : wH x < wH y
 ·have e1 := hide (show decide (x < y) = true by rw [decide_eq_true_eq]; unfold wH at g1; omega)
  go_enter Try.func113, Try.ntmps113
  go_wp2
  go_ret
  exact ⟨by rw [e1.out]; rfl, blw_⟩
 ·by_cases g2 : wH x = wH y
  ·by_cases g3 : wL x < wL y
   ·have e1 := hide (show decide (x < y) = true by rw [decide_eq_true_eq]; unfold wH wL at *; omega)
    have g4 : (wH x == wH y) = true := by simpa using g2
    clear g2
    go_enter Try.func113, Try.ntmps113
    go_wp2
    go_ret
    exact ⟨by rw [e1.out]; first | rfl | (simp; omega), blw_⟩
   ·have e1 := hide (show decide (x < y) = false by rw [decide_eq_false_iff_not]; unfold wH wL at *; omega)
    have g4 : (wH x == wH y) = true := by simpa using g2
    have g5 := hide g3
    clear g2
    go_enter Try.func113, Try.ntmps113
    go_wp2
    go_ret
    exact ⟨by rw [e1.out]; have := g5.out; first | rfl | (simp; omega), blw_⟩
  ·have e1 := hide (show decide (x < y) = false by rw [decide_eq_false_iff_not]; unfold wH at *; omega)
   have g4 : (wH x == wH y) = false := by simpa using g2
   have g5 := hide g1
   clear g2
   go_enter Try.func113, Try.ntmps113
   go_wp2
   go_ret
   exact ⟨by rw [e1.out]; have := g5.out; first | rfl | (simp; omega), blw_⟩
theorem not64 (n : Int) (h : I64 n) : bits .xor .i64 (-1) n = -n - 1 := by
 obtain ⟨h0, h1⟩ := h
 show IntKind.i64.wrap ((BitVec.ofInt 64 (-1) ^^^ BitVec.ofInt 64 n).toNat : Int) = _
 have e : BitVec.ofInt 64 (-1) = BitVec.allOnes 64 := by decide
 have e2 : (BitVec.allOnes 64 ^^^ BitVec.ofInt 64 n) = ~~~ BitVec.ofInt 64 n := BitVec.allOnes_xor
 rw [e, e2, BitVec.toNat_not, BitVec.toNat_ofInt, IntKind.wrap_i64]
 omega
theorem notu64 (n : Int) (h0 : 0 ≤ n) (h1 : n < 18446744073709551616) : bits .xor .u64 IntKind.u64.max n = 18446744073709551615 - n := by
 show IntKind.u64.wrap ((BitVec.ofInt 64 IntKind.u64.max ^^^ BitVec.ofInt 64 n).toNat : Int) = _
 have e : BitVec.ofInt 64 IntKind.u64.max = BitVec.allOnes 64 := by decide
 have e2 : (BitVec.allOnes 64 ^^^ BitVec.ofInt 64 n) = ~~~ BitVec.ofInt 64 n := BitVec.allOnes_xor
 rw [e, e2, BitVec.toNat_not, BitVec.toNat_ofInt, u64w]
 omega
theorem rminus (x : Int) (hx : R126 x) (w : World) :
  Calls Try.prog 111 #[.agg #[.int .i64 (wH (x)), .int .u64 (wL (x))]] w fun e w' => e = .returned (.agg #[.int .i64 (wH (-x)), .int .u64 (wL (-x))]) ∧ Below w.heap.size w w' := by
 have s1 : IntKind.i64.signed = true := rfl
 have s2 : IntKind.u64.signed = false := rfl
 have e1 : bits .xor .i64 (-1) (wH x) = wH (-x - 1) := by
  obtain ⟨_, _⟩ := hx
  rw [not64 _ (by unfold wH I64; omega)]
  unfold wH; omega
 have e2 : bits .xor .u64 IntKind.u64.max (wL x) = wL (-x - 1) := by
  rw [notu64 _ (by unfold wL; omega) (by unfold wL; omega)]
  unfold wL; omega
 have e3 : (0 : Int) = wH 1 := by decide
 have e4 : (1 : Int) = wL 1 := by decide
 have E3 := hide e3
 have E4 := hide e4
 have E5 := hide (show -x - 1 + 1 = -x by omega)
 have HX := hide hx
 clear e3 e4 hx
 go_enter Try.func111, Try.ntmps111
 go_wp2_with fail
 have hp := rplus (-x - 1) 1 (by obtain ⟨_, _⟩ := HX.out; constructor <;> omega) (by constructor <;> omega) (by obtain ⟨_, _⟩ := HX.out; constructor <;> omega)
 rw [← E3.out, ← E4.out, E5.out] at hp
 refine (hp _).mono ?_
 rintro e w1 ⟨rfl, hb1⟩
 obtain ⟨hc1, hf1⟩ := bcell hb1
 have hz1 := hb1.size
 go_wp2
 refine bodyPost_ret (v := .agg #[.int .i64 (wH (-x)), .int .u64 (wL (-x))]) (by simp only [results, Try.results111]; go_simp) rfl ⟨rfl, blw_⟩
theorem rtwice (x : Int) (hx : R127 x) (hs : R127 (x + x)) (w : World) :
  Calls Try.prog 146 #[.agg #[.int .i64 (wH (x)), .int .u64 (wL (x))]] w fun e w' => e = .returned (.agg #[.int .i64 (wH (x + x)), .int .u64 (wL (x + x))]) ∧ Below w.heap.size w w' := by
 go_enter Try.func146, Try.ntmps146
 go_wp2_with (go_at_call 78; refine (rplus x x hx hx hs _).mono ?_; rintro e w1 ⟨rfl, hb1⟩; obtain ⟨hc1, hf1⟩ := bcell hb1; have hz1 := hb1.size; try simp only [World.size_alloc] at hz1)
 refine bodyPost_ret (v := .agg #[.int .i64 (wH (x + x)), .int .u64 (wL (x + x))]) (by simp only [results, Try.results146]; go_simp) rfl ⟨rfl, blw_⟩
theorem rwide (n : Int) (hn : I64 n) (w : World) :
  Calls Try.prog 79 #[.int .i64 n] w fun e w' => e = .returned (.agg #[.int .i64 (wH (n)), .int .u64 (wL (n))]) ∧ Below w.heap.size w w' := by
 go_enter Try.func79, Try.ntmps79
 go_wp2_with (go_at_call 80; refine (rof n hn _).mono ?_; rintro e w1 ⟨rfl, hb1⟩; obtain ⟨hc1, hf1⟩ := bcell hb1; have hz1 := hb1.size; try simp only [World.size_alloc] at hz1)
 refine bodyPost_ret (v := .agg #[.int .i64 (wH (n)), .int .u64 (wL (n))]) (by simp only [results, Try.results79]; go_simp) rfl ⟨rfl, blw_⟩
theorem rsame (x y : Int) (w : World) :
  Calls Try.prog 135 #[.agg #[.int .i64 (wH (x)), .int .u64 (wL (x))], .agg #[.int .i64 (wH (y)), .int .u64 (wL (y))]] w fun e w' => e = .returned (.bool (decide (x = y))) ∧ Below w.heap.size w w' := by
 by_cases g1 : wH x = wH y
 ·by_cases g2 : wL x = wL y
  ·have e1 := hide (show decide (x = y) = true by rw [decide_eq_true_eq]; unfold wH wL at *; omega)
   have g3 : (wH x == wH y) = true := by simpa using g1
   have g4 : (wL x == wL y) = true := by simpa using g2
   clear g1 g2
   go_enter Try.func135, Try.ntmps135
   go_wp2
   go_ret
   exact ⟨by rw [e1.out]; rfl, blw_⟩
  ·have e1 := hide (show decide (x = y) = false by rw [decide_eq_false_iff_not]; unfold wH wL at *; omega)
   have g3 : (wH x == wH y) = true := by simpa using g1
   have g4 : (wL x == wL y) = false := by simpa using g2
   clear g1 g2
   go_enter Try.func135, Try.ntmps135
   go_wp2
   go_ret
   exact ⟨by rw [e1.out]; rfl, blw_⟩
 ·have e1 := hide (show decide (x = y) = false by rw [decide_eq_false_iff_not]; unfold wH at *; omega)
  have g3 : (wH x == wH y) = false := by simpa using g1
  clear g1
  go_enter Try.func135, Try.ntmps135
  go_wp2
  go_ret
  exact ⟨by rw [e1.out]; rfl, blw_⟩
end
section
open Go.RowKit
def fits (lo hi : Int) : Bool := decide (-9223372036854775807 ≤ lo ∧ lo ≤ 9223372036854775807 ∧ -9223372036854775807 ≤ hi ∧ hi ≤ 9223372036854775807)
def oLo (lo hi : Int) : Int := if fits lo hi then lo else 0
def oHi (lo hi : Int) : Int := if fits lo hi then hi else 0
def oE (lo hi : Int) : Int := if fits lo hi then 0 else 4
def okI (v : Bool) (x : Int) : Int := if v then x else 0
def errE (v : Bool) (e : Int) : Int := if v then e else 2
theorem out_t {lo hi : Int} (h : fits lo hi = true) : oLo lo hi = lo ∧ oHi lo hi = hi ∧ oE lo hi = 0 := by simp [oLo, oHi, oE, h]
theorem out_f {lo hi : Int} (h : fits lo hi = false) : oLo lo hi = 0 ∧ oHi lo hi = 0 ∧ oE lo hi = 4 := by simp [oLo, oHi, oE, h]
theorem ok_t (x : Int) : okI true x = x := rfl
theorem ok_f (x : Int) : okI false x = 0 := rfl
theorem err_t (x : Int) : errE true x = x := rfl
theorem err_f (x : Int) : errE false x = 2 := rfl

theorem i64_lo : I64 (-9223372036854775807) := by constructor <;> omega
theorem i64_hi : I64 9223372036854775807 := by constructor <;> omega
theorem rless_r (x y : Int) (r : Bool) (hr : decide (x < y) = r) (w : World) :
  Calls Try.prog 113 #[.agg #[.int .i64 (wH (x)), .int .u64 (wL (x))], .agg #[.int .i64 (wH (y)), .int .u64 (wL (y))]] w fun e w' => e = .returned (.bool r) ∧ Below w.heap.size w w' := by
 subst hr; exact rless x y w
theorem w64L {x : Int} (h : I64 x) : wrap64 (wL x) = x := by obtain ⟨_, _⟩ := h; unfold wrap64 wL; omega

theorem rout (lo hi : Int) (w : World) :
  Calls Try.prog 70 #[.agg #[.int .i64 (wH (lo)), .int .u64 (wL (lo))], .agg #[.int .i64 (wH (hi)), .int .u64 (wL (hi))]] w fun e w' => e = .returned (.tuple #[.agg #[.int .i64 (oLo lo hi), .int .i64 (oHi lo hi)], .int .i64 (oE lo hi)]) ∧ Below w.heap.size w w' := by
 by_cases c1 : lo < -9223372036854775807
 ·have E := hide (out_f (lo := lo) (hi := hi) (decide_eq_false (by omega)))
  have k1 : decide (lo < -9223372036854775807) = true := decide_eq_true c1
  go_enter Try.func70, Try.ntmps70
  go_wp2_with fail
  refine QT.quiet_b (by kernel_rfl) (by kernel_rfl) ?_
  repeat (first
   | go_big_quiet_skip
   | (go_big_quiet_want; go_big_quiet_op; first
    | go_big_quiet_on
    | (apply Exists.intro
       refine ⟨fun _ => ?_, ?_⟩
       ·first
        | rfl
        | (intro hC; obtain ⟨hcq, hfq⟩ := bcellB hC; go_simp; done)
        | (intro hC; obtain ⟨hcq, hfq⟩ := bcellB hC; go_simp; rfl)
        | (intro hC; have hcq := bcellG hC; go_simp; done)
        | (intro hC; have hcq := bcellG hC; go_simp; rfl)
        | (intro hC; go_at_call 80; (first | (with_reducible refine (rof (-9223372036854775807) i64_lo _).mono ?_) | (with_reducible refine (rof 9223372036854775807 i64_hi _).mono ?_)); (intro e w2 hw; exact ⟨hw.1, qtrans (by simp) hC hw.2⟩))
        | (intro hC; go_at_call 113; (first | (with_reducible refine (rless_r lo (-9223372036854775807) true k1 _).mono ?_)); (intro e w2 hw; exact ⟨hw.1, qtrans (by simp) hC hw.2⟩))
       go_big_quiet_on)))
  refine wpQuiet_nil ?_
  intro w9 hC9
  obtain ⟨hc9, hf9⟩ := bcellB hC9
  have hz9 := hC9.size
  go_wp2
  rw [E.out.1, E.out.2.1, E.out.2.2]
  refine bodyPost_ret (v := .tuple #[.agg #[.int .i64 (0), .int .i64 (0)], .int .i64 4]) (by simp only [results, Try.results70]; go_simp) rfl ⟨rfl, blw_⟩
 by_cases c2 : 9223372036854775807 < lo
 ·have E := hide (out_f (lo := lo) (hi := hi) (decide_eq_false (by omega)))
  have k1 : decide (lo < -9223372036854775807) = false := decide_eq_false c1
  have k2 : decide (9223372036854775807 < lo) = true := decide_eq_true c2
  go_enter Try.func70, Try.ntmps70
  go_wp2_with fail
  refine QT.quiet_b (by kernel_rfl) (by kernel_rfl) ?_
  repeat (first
   | go_big_quiet_skip
   | (go_big_quiet_want; go_big_quiet_op; first
    | go_big_quiet_on
    | (apply Exists.intro
       refine ⟨fun _ => ?_, ?_⟩
       ·first
        | rfl
        | (intro hC; obtain ⟨hcq, hfq⟩ := bcellB hC; go_simp; done)
        | (intro hC; obtain ⟨hcq, hfq⟩ := bcellB hC; go_simp; rfl)
        | (intro hC; have hcq := bcellG hC; go_simp; done)
        | (intro hC; have hcq := bcellG hC; go_simp; rfl)
        | (intro hC; go_at_call 80; (first | (with_reducible refine (rof (-9223372036854775807) i64_lo _).mono ?_) | (with_reducible refine (rof 9223372036854775807 i64_hi _).mono ?_)); (intro e w2 hw; exact ⟨hw.1, qtrans (by simp) hC hw.2⟩))
        | (intro hC; go_at_call 113; (first | (with_reducible refine (rless_r lo (-9223372036854775807) false k1 _).mono ?_) | (with_reducible refine (rless_r 9223372036854775807 lo true k2 _).mono ?_)); (intro e w2 hw; exact ⟨hw.1, qtrans (by simp) hC hw.2⟩))
       go_big_quiet_on)))
  refine wpQuiet_nil ?_
  intro w9 hC9
  obtain ⟨hc9, hf9⟩ := bcellB hC9
  have hz9 := hC9.size
  go_wp2
  rw [E.out.1, E.out.2.1, E.out.2.2]
  refine bodyPost_ret (v := .tuple #[.agg #[.int .i64 (0), .int .i64 (0)], .int .i64 4]) (by simp only [results, Try.results70]; go_simp) rfl ⟨rfl, blw_⟩
 by_cases c3 : hi < -9223372036854775807
 ·have E := hide (out_f (lo := lo) (hi := hi) (decide_eq_false (by omega)))
  have k1 : decide (lo < -9223372036854775807) = false := decide_eq_false c1
  have k2 : decide (9223372036854775807 < lo) = false := decide_eq_false c2
  have k3 : decide (hi < -9223372036854775807) = true := decide_eq_true c3
  go_enter Try.func70, Try.ntmps70
  go_wp2_with fail
  refine QT.quiet_b (by kernel_rfl) (by kernel_rfl) ?_
  repeat (first
   | go_big_quiet_skip
   | (go_big_quiet_want; go_big_quiet_op; first
    | go_big_quiet_on
    | (apply Exists.intro
       refine ⟨fun _ => ?_, ?_⟩
       ·first
        | rfl
        | (intro hC; obtain ⟨hcq, hfq⟩ := bcellB hC; go_simp; done)
        | (intro hC; obtain ⟨hcq, hfq⟩ := bcellB hC; go_simp; rfl)
        | (intro hC; have hcq := bcellG hC; go_simp; done)
        | (intro hC; have hcq := bcellG hC; go_simp; rfl)
        | (intro hC; go_at_call 80; (first | (with_reducible refine (rof (-9223372036854775807) i64_lo _).mono ?_) | (with_reducible refine (rof 9223372036854775807 i64_hi _).mono ?_)); (intro e w2 hw; exact ⟨hw.1, qtrans (by simp) hC hw.2⟩))
        | (intro hC; go_at_call 113; (first | (with_reducible refine (rless_r lo (-9223372036854775807) false k1 _).mono ?_) | (with_reducible refine (rless_r 9223372036854775807 lo false k2 _).mono ?_) | (with_reducible refine (rless_r hi (-9223372036854775807) true k3 _).mono ?_)); (intro e w2 hw; exact ⟨hw.1, qtrans (by simp) hC hw.2⟩))
       go_big_quiet_on)))
  refine wpQuiet_nil ?_
  intro w9 hC9
  obtain ⟨hc9, hf9⟩ := bcellB hC9
  have hz9 := hC9.size
  go_wp2
  rw [E.out.1, E.out.2.1, E.out.2.2]
  refine bodyPost_ret (v := .tuple #[.agg #[.int .i64 (0), .int .i64 (0)], .int .i64 4]) (by simp only [results, Try.results70]; go_simp) rfl ⟨rfl, blw_⟩
 by_cases c4 : 9223372036854775807 < hi
 ·have E := hide (out_f (lo := lo) (hi := hi) (decide_eq_false (by omega)))
  have k1 : decide (lo < -9223372036854775807) = false := decide_eq_false c1
  have k2 : decide (9223372036854775807 < lo) = false := decide_eq_false c2
  have k3 : decide (hi < -9223372036854775807) = false := decide_eq_false c3
  have k4 : decide (9223372036854775807 < hi) = true := decide_eq_true c4
  go_enter Try.func70, Try.ntmps70
  go_wp2_with fail
  refine QT.quiet_b (by kernel_rfl) (by kernel_rfl) ?_
  repeat (first
   | go_big_quiet_skip
   | (go_big_quiet_want; go_big_quiet_op; first
    | go_big_quiet_on
    | (apply Exists.intro
       refine ⟨fun _ => ?_, ?_⟩
       ·first
        | rfl
        | (intro hC; obtain ⟨hcq, hfq⟩ := bcellB hC; go_simp; done)
        | (intro hC; obtain ⟨hcq, hfq⟩ := bcellB hC; go_simp; rfl)
        | (intro hC; have hcq := bcellG hC; go_simp; done)
        | (intro hC; have hcq := bcellG hC; go_simp; rfl)
        | (intro hC; go_at_call 80; (first | (with_reducible refine (rof (-9223372036854775807) i64_lo _).mono ?_) | (with_reducible refine (rof 9223372036854775807 i64_hi _).mono ?_)); (intro e w2 hw; exact ⟨hw.1, qtrans (by simp) hC hw.2⟩))
        | (intro hC; go_at_call 113; (first | (with_reducible refine (rless_r lo (-9223372036854775807) false k1 _).mono ?_) | (with_reducible refine (rless_r 9223372036854775807 lo false k2 _).mono ?_) | (with_reducible refine (rless_r hi (-9223372036854775807) false k3 _).mono ?_) | (with_reducible refine (rless_r 9223372036854775807 hi true k4 _).mono ?_)); (intro e w2 hw; exact ⟨hw.1, qtrans (by simp) hC hw.2⟩))
       go_big_quiet_on)))
  refine wpQuiet_nil ?_
  intro w9 hC9
  obtain ⟨hc9, hf9⟩ := bcellB hC9
  have hz9 := hC9.size
  go_wp2
  rw [E.out.1, E.out.2.1, E.out.2.2]
  refine bodyPost_ret (v := .tuple #[.agg #[.int .i64 (0), .int .i64 (0)], .int .i64 4]) (by simp only [results, Try.results70]; go_simp) rfl ⟨rfl, blw_⟩
 ·have E := hide (out_t (lo := lo) (hi := hi) (decide_eq_true (by omega)))
  have e1 : wrap64 (wL lo) = lo := w64L (by constructor <;> omega)
  have e2 : wrap64 (wL hi) = hi := w64L (by constructor <;> omega)
  have k1 : decide (lo < -9223372036854775807) = false := decide_eq_false c1
  have k2 : decide (9223372036854775807 < lo) = false := decide_eq_false c2
  have k3 : decide (hi < -9223372036854775807) = false := decide_eq_false c3
  have k4 : decide (9223372036854775807 < hi) = false := decide_eq_false c4
  go_enter Try.func70, Try.ntmps70
  go_wp2_with fail
  refine QT.quiet_b (by kernel_rfl) (by kernel_rfl) ?_
  repeat (first
   | go_big_quiet_skip
   | (go_big_quiet_want; go_big_quiet_op; first
    | go_big_quiet_on
    | (apply Exists.intro
       refine ⟨fun _ => ?_, ?_⟩
       ·first
        | rfl
        | (intro hC; obtain ⟨hcq, hfq⟩ := bcellB hC; go_simp; done)
        | (intro hC; obtain ⟨hcq, hfq⟩ := bcellB hC; go_simp; rfl)
        | (intro hC; have hcq := bcellG hC; go_simp; done)
        | (intro hC; have hcq := bcellG hC; go_simp; rfl)
        | (intro hC; go_at_call 80; (first | (with_reducible refine (rof (-9223372036854775807) i64_lo _).mono ?_) | (with_reducible refine (rof 9223372036854775807 i64_hi _).mono ?_)); (intro e w2 hw; exact ⟨hw.1, qtrans (by simp) hC hw.2⟩))
        | (intro hC; go_at_call 113; (first | (with_reducible refine (rless_r lo (-9223372036854775807) false k1 _).mono ?_) | (with_reducible refine (rless_r 9223372036854775807 lo false k2 _).mono ?_) | (with_reducible refine (rless_r hi (-9223372036854775807) false k3 _).mono ?_) | (with_reducible refine (rless_r 9223372036854775807 hi false k4 _).mono ?_)); (intro e w2 hw; exact ⟨hw.1, qtrans (by simp) hC hw.2⟩))
       go_big_quiet_on)))
  refine wpQuiet_nil ?_
  intro w9 hC9
  obtain ⟨hc9, hf9⟩ := bcellB hC9
  have hz9 := hC9.size
  go_wp2
  rw [E.out.1, E.out.2.1, E.out.2.2]
  refine bodyPost_ret (v := .tuple #[.agg #[.int .i64 (lo), .int .i64 (hi)], .int .i64 0]) (by simp only [results, Try.results70]; go_simp) rfl ⟨rfl, blw_⟩
end
section
open Go.RowKit
theorem plus_yes (x y : Int) (h : -9223372036854775807 ≤ x + y ∧ x + y ≤ 9223372036854775807) (w : World) :
  Calls Try.prog 121 #[.int .i64 x, .int .i64 y] w fun e w' => e = .returned (.tuple #[.int .i64 (x + y), .bool true]) ∧ Below w.heap.size w w' := by
 obtain ⟨h0, h1⟩ := h
 have g1 : (x + y != -9223372036854775808) = true := by rw [bne_iff_ne]; omega
 have g2 : (decide (x + y < x) == decide (y < 0)) = true := by rw [beq_iff_eq, decide_eq_decide]; omega
 go_enter Try.func121, Try.ntmps121
 go_wp2
 go_ret2
 exact ⟨rfl, Below.refl _ _⟩
theorem plus_no (x y : Int) (hx : I64 x) (hy : I64 y) (h : ¬ (-9223372036854775807 ≤ x + y ∧ x + y ≤ 9223372036854775807)) (w : World) :
  Calls Try.prog 121 #[.int .i64 x, .int .i64 y] w fun e w' => e = .returned (.tuple #[.int .i64 (wrap64 (x + y)), .bool false]) ∧ Below w.heap.size w w' := by
 obtain ⟨x0, x1⟩ := hx; obtain ⟨y0, y1⟩ := hy
 have HX := hide (And.intro (And.intro x0 x1) (And.intro y0 y1))
 by_cases g : wrap64 (x + y) = -9223372036854775808
 ·have g1 : (wrap64 (x + y) != -9223372036854775808) = false := by rw [g]; rfl
  clear g h x0 x1 y0 y1
  go_enter Try.func121, Try.ntmps121
  go_wp2
  go_ret2
  exact ⟨rfl, Below.refl _ _⟩
 ·have g1 : (wrap64 (x + y) != -9223372036854775808) = true := by rw [bne_iff_ne]; exact g
  have g2 : (decide (wrap64 (x + y) < x) == decide (y < 0)) = false := by
   rw [beq_eq_false_iff_ne, ne_eq, decide_eq_decide]
   unfold wrap64 at *; omega
  clear g h x0 x1 y0 y1
  go_enter Try.func121, Try.ntmps121
  go_wp2
  go_ret2
  exact ⟨rfl, Below.refl _ _⟩
theorem fits_t {lo hi : Int} (h1 : -9223372036854775807 ≤ lo ∧ lo ≤ 9223372036854775807) (h2 : -9223372036854775807 ≤ hi ∧ hi ≤ 9223372036854775807) : fits lo hi = true := decide_eq_true ⟨h1.1, h1.2, h2.1, h2.2⟩
theorem fits_f {lo hi : Int} (h : ¬ ((-9223372036854775807 ≤ lo ∧ lo ≤ 9223372036854775807) ∧ (-9223372036854775807 ≤ hi ∧ hi ≤ 9223372036854775807))) : fits lo hi = false := decide_eq_false (by omega)

theorem add_any (al ah bl bh : Int) (i0 : I64 al) (i1 : I64 ah) (i2 : I64 bl) (i3 : I64 bh) (w : World) :
  Calls Try.prog 94 #[.agg #[.int .i64 (al), .int .i64 (ah)], .agg #[.int .i64 (bl), .int .i64 (bh)]] w fun e w' => e = .returned (.tuple #[.agg #[.int .i64 (okI (vB al ah && vB bl bh) (oLo (al + bl) (ah + bh))), .int .i64 (okI (vB al ah && vB bl bh) (oHi (al + bl) (ah + bh)))], .int .i64 (errE (vB al ah && vB bl bh) (oE (al + bl) (ah + bh)))]) ∧ Below w.heap.size w w' := by
 have h0 := i0.1
 have h1 := i2.1
 have I0 := hide i0
 have I1 := hide i1
 have I2 := hide i2
 have I3 := hide i3
 clear i0 i1 i2 i3
 cases hv : (vB al ah && vB bl bh)
 ·rw [ok_f, ok_f, err_f]
  have HV := hide hv
  clear hv
  go_enter Try.func94, Try.ntmps94
  go_wp2_with (go_at_call 116; refine (invalid2 al ah bl bh _ _ _ h0 h1 (by go_simp) (by go_simp) (by go_simp) (by go_simp) (by go_simp) true (by simpa using HV.out)).mono ?_; rintro e w1 ⟨rfl, hb1⟩; obtain ⟨hc1, hf1⟩ := bcell hb1; have hz1 := hb1.size; try simp only [World.size_alloc] at hz1)
  refine bodyPost_ret (v := .tuple #[.agg #[.int .i64 (0), .int .i64 (0)], .int .i64 2]) (by simp only [results, Try.results94]; go_simp) rfl ⟨rfl, blw_⟩
 ·rw [ok_t, ok_t, err_t]
  have HV := hide hv
  clear hv
  by_cases c1 : -9223372036854775807 ≤ al + bl ∧ al + bl ≤ 9223372036854775807
  ·by_cases c2 : -9223372036854775807 ≤ ah + bh ∧ ah + bh ≤ 9223372036854775807
   ·have E := hide (out_t (fits_t c1 c2))
    have C1 := hide c1
    have C2 := hide c2
    clear c1 c2
    go_enter Try.func94, Try.ntmps94
    go_wp2_with fail
    go_at_call 116
    refine (invalid2 al ah bl bh _ _ _ h0 h1 (by go_simp) (by go_simp) (by go_simp) (by go_simp) (by go_simp) false (by simpa using HV.out)).mono ?_
    rintro e w1 ⟨rfl, hb1⟩
    obtain ⟨hc1, hf1⟩ := bcell hb1
    have hz1 := hb1.size
    try simp only [World.size_alloc, World.size_setCell] at hz1
    try refine zw4 w w1 (by omega) fun _ _ _ _ _ _ _ _ => ?_
    go_wp2_with fail
    refine (plus_yes al bl C1.out _).mono ?_
    rintro e w2 ⟨rfl, hb2⟩
    obtain ⟨hc2, hf2⟩ := bcell hb2
    have hz2 := hb2.size
    try simp only [World.size_alloc, World.size_setCell] at hz2
    try refine zw4 w w2 (by omega) fun _ _ _ _ _ _ _ _ => ?_
    try have : w1.heap.size < w2.heap.size := by omega
    try have : w1.heap.size ≤ w2.heap.size := by omega
    go_wp2_with fail
    refine (plus_yes ah bh C2.out _).mono ?_
    rintro e w3 ⟨rfl, hb3⟩
    obtain ⟨hc3, hf3⟩ := bcell hb3
    have hz3 := hb3.size
    try simp only [World.size_alloc, World.size_setCell] at hz3
    try refine zw4 w w3 (by omega) fun _ _ _ _ _ _ _ _ => ?_
    try have : w1.heap.size < w3.heap.size := by omega
    try have : w1.heap.size ≤ w3.heap.size := by omega
    try have : w2.heap.size < w3.heap.size := by omega
    try have : w2.heap.size ≤ w3.heap.size := by omega
    go_wp2
    rw [E.out.1, E.out.2.1, E.out.2.2]
    refine bodyPost_ret (v := .tuple #[.agg #[.int .i64 (al + bl), .int .i64 (ah + bh)], .int .i64 0]) (by simp only [results, Try.results94]; go_simp) rfl ⟨rfl, blw_⟩
   ·have E := hide (out_f (lo := al + bl) (hi := ah + bh) (fits_f (by omega)))
    have C1 := hide c1
    have C2 := hide c2
    clear c1 c2
    go_enter Try.func94, Try.ntmps94
    go_wp2_with fail
    go_at_call 116
    refine (invalid2 al ah bl bh _ _ _ h0 h1 (by go_simp) (by go_simp) (by go_simp) (by go_simp) (by go_simp) false (by simpa using HV.out)).mono ?_
    rintro e w1 ⟨rfl, hb1⟩
    obtain ⟨hc1, hf1⟩ := bcell hb1
    have hz1 := hb1.size
    try simp only [World.size_alloc, World.size_setCell] at hz1
    try refine zw4 w w1 (by omega) fun _ _ _ _ _ _ _ _ => ?_
    go_wp2_with fail
    refine (plus_yes al bl C1.out _).mono ?_
    rintro e w2 ⟨rfl, hb2⟩
    obtain ⟨hc2, hf2⟩ := bcell hb2
    have hz2 := hb2.size
    try simp only [World.size_alloc, World.size_setCell] at hz2
    try refine zw4 w w2 (by omega) fun _ _ _ _ _ _ _ _ => ?_
    try have : w1.heap.size < w2.heap.size := by omega
    try have : w1.heap.size ≤ w2.heap.size := by omega
    go_wp2_with fail
    refine (plus_no ah bh I1.out I3.out C2.out _).mono ?_
    rintro e w3 ⟨rfl, hb3⟩
    obtain ⟨hc3, hf3⟩ := bcell hb3
    have hz3 := hb3.size
    try simp only [World.size_alloc, World.size_setCell] at hz3
    try refine zw4 w w3 (by omega) fun _ _ _ _ _ _ _ _ => ?_
    try have : w1.heap.size < w3.heap.size := by omega
    try have : w1.heap.size ≤ w3.heap.size := by omega
    try have : w2.heap.size < w3.heap.size := by omega
    try have : w2.heap.size ≤ w3.heap.size := by omega
    go_wp2
    rw [E.out.1, E.out.2.1, E.out.2.2]
    refine bodyPost_ret (v := .tuple #[.agg #[.int .i64 (0), .int .i64 (0)], .int .i64 4]) (by simp only [results, Try.results94]; go_simp) rfl ⟨rfl, blw_⟩
  ·have E := hide (out_f (lo := al + bl) (hi := ah + bh) (fits_f (by omega)))
   by_cases c2 : -9223372036854775807 ≤ ah + bh ∧ ah + bh ≤ 9223372036854775807
   ·have C1 := hide c1
    have C2 := hide c2
    clear c1 c2
    go_enter Try.func94, Try.ntmps94
    go_wp2_with fail
    go_at_call 116
    refine (invalid2 al ah bl bh _ _ _ h0 h1 (by go_simp) (by go_simp) (by go_simp) (by go_simp) (by go_simp) false (by simpa using HV.out)).mono ?_
    rintro e w1 ⟨rfl, hb1⟩
    obtain ⟨hc1, hf1⟩ := bcell hb1
    have hz1 := hb1.size
    try simp only [World.size_alloc, World.size_setCell] at hz1
    try refine zw4 w w1 (by omega) fun _ _ _ _ _ _ _ _ => ?_
    go_wp2_with fail
    refine (plus_no al bl I0.out I2.out C1.out _).mono ?_
    rintro e w2 ⟨rfl, hb2⟩
    obtain ⟨hc2, hf2⟩ := bcell hb2
    have hz2 := hb2.size
    try simp only [World.size_alloc, World.size_setCell] at hz2
    try refine zw4 w w2 (by omega) fun _ _ _ _ _ _ _ _ => ?_
    try have : w1.heap.size < w2.heap.size := by omega
    try have : w1.heap.size ≤ w2.heap.size := by omega
    go_wp2_with fail
    refine (plus_yes ah bh C2.out _).mono ?_
    rintro e w3 ⟨rfl, hb3⟩
    obtain ⟨hc3, hf3⟩ := bcell hb3
    have hz3 := hb3.size
    try simp only [World.size_alloc, World.size_setCell] at hz3
    try refine zw4 w w3 (by omega) fun _ _ _ _ _ _ _ _ => ?_
    try have : w1.heap.size < w3.heap.size := by omega
    try have : w1.heap.size ≤ w3.heap.size := by omega
    try have : w2.heap.size < w3.heap.size := by omega
    try have : w2.heap.size ≤ w3.heap.size := by omega
    go_wp2
    rw [E.out.1, E.out.2.1, E.out.2.2]
    refine bodyPost_ret (v := .tuple #[.agg #[.int .i64 (0), .int .i64 (0)], .int .i64 4]) (by simp only [results, Try.results94]; go_simp) rfl ⟨rfl, blw_⟩
   ·have C1 := hide c1
    have C2 := hide c2
    clear c1 c2
    go_enter Try.func94, Try.ntmps94
    go_wp2_with fail
    go_at_call 116
    refine (invalid2 al ah bl bh _ _ _ h0 h1 (by go_simp) (by go_simp) (by go_simp) (by go_simp) (by go_simp) false (by simpa using HV.out)).mono ?_
    rintro e w1 ⟨rfl, hb1⟩
    obtain ⟨hc1, hf1⟩ := bcell hb1
    have hz1 := hb1.size
    try simp only [World.size_alloc, World.size_setCell] at hz1
    try refine zw4 w w1 (by omega) fun _ _ _ _ _ _ _ _ => ?_
    go_wp2_with fail
    refine (plus_no al bl I0.out I2.out C1.out _).mono ?_
    rintro e w2 ⟨rfl, hb2⟩
    obtain ⟨hc2, hf2⟩ := bcell hb2
    have hz2 := hb2.size
    try simp only [World.size_alloc, World.size_setCell] at hz2
    try refine zw4 w w2 (by omega) fun _ _ _ _ _ _ _ _ => ?_
    try have : w1.heap.size < w2.heap.size := by omega
    try have : w1.heap.size ≤ w2.heap.size := by omega
    go_wp2_with fail
    refine (plus_no ah bh I1.out I3.out C2.out _).mono ?_
    rintro e w3 ⟨rfl, hb3⟩
    obtain ⟨hc3, hf3⟩ := bcell hb3
    have hz3 := hb3.size
    try simp only [World.size_alloc, World.size_setCell] at hz3
    try refine zw4 w w3 (by omega) fun _ _ _ _ _ _ _ _ => ?_
    try have : w1.heap.size < w3.heap.size := by omega
    try have : w1.heap.size ≤ w3.heap.size := by omega
    try have : w2.heap.size < w3.heap.size := by omega
    try have : w2.heap.size ≤ w3.heap.size := by omega
    go_wp2
    rw [E.out.1, E.out.2.1, E.out.2.2]
    refine bodyPost_ret (v := .tuple #[.agg #[.int .i64 (0), .int .i64 (0)], .int .i64 4]) (by simp only [results, Try.results94]; go_simp) rfl ⟨rfl, blw_⟩

theorem neg_any (al ah : Int) (i0 : I64 al) (i1 : I64 ah) (w : World) :
  Calls Try.prog 130 #[.agg #[.int .i64 (al), .int .i64 (ah)]] w fun e w' => e = .returned (.tuple #[.agg #[.int .i64 (okI (vB al ah) (-ah)), .int .i64 (okI (vB al ah) (-al))], .int .i64 (errE (vB al ah) 0)]) ∧ Below w.heap.size w w' := by
 have h0 := i0.1
 have b1 := i1.2
 clear i0 i1
 cases hv : vB al ah
 ·rw [ok_f, ok_f, err_f]
  have HV := hide hv
  clear hv
  go_enter Try.func130, Try.ntmps130
  go_wp2_with fail
  go_at_call 116
  refine (invalid1 al ah _ _ _ h0 (by go_simp) (by go_simp) (by go_simp) true (by simpa using HV.out)).mono ?_
  rintro e w1 ⟨rfl, hb1⟩
  obtain ⟨hc1, hf1⟩ := bcell hb1
  have hz1 := hb1.size
  try simp only [World.size_alloc, World.size_setCell] at hz1
  try refine zw3 w w1 (by omega) fun _ _ _ _ _ _ => ?_
  go_wp2
  refine bodyPost_ret (v := .tuple #[.agg #[.int .i64 (0), .int .i64 (0)], .int .i64 2]) (by simp only [results, Try.results130]; go_simp) rfl ⟨rfl, blw_⟩
 ·rw [ok_t, ok_t, err_t]
  have HV := hide hv
  obtain ⟨v1, v2⟩ := vB_tt hv
  clear hv
  go_enter Try.func130, Try.ntmps130
  go_wp2_with fail
  go_at_call 116
  refine (invalid1 al ah _ _ _ h0 (by go_simp) (by go_simp) (by go_simp) false (by simpa using HV.out)).mono ?_
  rintro e w1 ⟨rfl, hb1⟩
  obtain ⟨hc1, hf1⟩ := bcell hb1
  have hz1 := hb1.size
  try simp only [World.size_alloc, World.size_setCell] at hz1
  try refine zw3 w w1 (by omega) fun _ _ _ _ _ _ => ?_
  go_wp2
  refine bodyPost_ret (v := .tuple #[.agg #[.int .i64 (-ah), .int .i64 (-al)], .int .i64 0]) (by simp only [results, Try.results130]; go_simp) rfl ⟨rfl, blw_⟩
theorem rneg_any (al ah : Int) (i0 : I64 al) (i1 : I64 ah) (w : World) :
  Calls Try.prog 108 #[.agg #[.int .i64 (al), .int .i64 (ah)]] w fun e w' => e = .returned (.tuple #[.agg #[.int .i64 (okI (vB al ah) (-ah)), .int .i64 (okI (vB al ah) (-al))], .int .i64 (errE (vB al ah) 0)]) ∧ Below w.heap.size w w' := by
 have h0 := i0.1
 have b1 := i1.2
 clear i0 i1
 cases hv : vB al ah
 ·rw [ok_f, ok_f, err_f]
  have HV := hide (show chkI al ah = 2 by simp [chkI, hv])
  clear hv
  go_enter Try.func108, Try.ntmps108
  go_wp2_with fail
  refine (rcheck al ah 2 HV.out _).mono ?_
  rintro e w1 ⟨rfl, hb1⟩
  obtain ⟨hc1, hf1⟩ := bcell hb1
  have hz1 := hb1.size
  try simp only [World.size_alloc, World.size_setCell] at hz1
  try refine zw2 w w1 (by omega) fun _ _ _ _ => ?_
  go_wp2
  refine bodyPost_ret (v := .tuple #[.agg #[.int .i64 (0), .int .i64 (0)], .int .i64 2]) (by simp only [results, Try.results108]; go_simp) rfl ⟨rfl, blw_⟩
 ·rw [ok_t, ok_t, err_t]
  have HV := hide (show chkI al ah = 0 by simp [chkI, hv])
  obtain ⟨v1, v2⟩ := vB_tt hv
  clear hv
  go_enter Try.func108, Try.ntmps108
  go_wp2_with fail
  refine (rcheck al ah 0 HV.out _).mono ?_
  rintro e w1 ⟨rfl, hb1⟩
  obtain ⟨hc1, hf1⟩ := bcell hb1
  have hz1 := hb1.size
  try simp only [World.size_alloc, World.size_setCell] at hz1
  try refine zw2 w w1 (by omega) fun _ _ _ _ => ?_
  go_wp2
  refine bodyPost_ret (v := .tuple #[.agg #[.int .i64 (-ah), .int .i64 (-al)], .int .i64 0]) (by simp only [results, Try.results108]; go_simp) rfl ⟨rfl, blw_⟩
theorem vneg {al ah : Int} (h1 : -9223372036854775807 ≤ al) (h2 : al ≤ ah) (h3 : ah ≤ 9223372036854775807) : vB (-ah) (-al) = true := vB_t (by omega) (by omega)
theorem I64.neg {x : Int} (h1 : -9223372036854775807 ≤ x) (h : x ≤ 9223372036854775807) : I64 (-x) := ⟨by omega, by omega⟩
theorem sub_any (al ah bl bh : Int) (i0 : I64 al) (i1 : I64 ah) (i2 : I64 bl) (i3 : I64 bh) (w : World) :
  Calls Try.prog 99 #[.agg #[.int .i64 (al), .int .i64 (ah)], .agg #[.int .i64 (bl), .int .i64 (bh)]] w fun e w' => e = .returned (.tuple #[.agg #[.int .i64 (okI (vB al ah && vB bl bh) (oLo (al - bh) (ah - bl))), .int .i64 (okI (vB al ah && vB bl bh) (oHi (al - bh) (ah - bl)))], .int .i64 (errE (vB al ah && vB bl bh) (oE (al - bh) (ah - bl)))]) ∧ Below w.heap.size w w' := by
 have h0 := i0.1
 have h1 := i2.1
 have b3 := i3.2
 have I0 := hide i0
 have I1 := hide i1
 clear i0 i1 i2 i3
 cases hv : (vB al ah && vB bl bh)
 ·rw [ok_f, ok_f, err_f]
  have HV := hide hv
  clear hv
  go_enter Try.func99, Try.ntmps99
  go_wp2_with fail
  go_at_call 116
  refine (invalid2 al ah bl bh _ _ _ h0 h1 (by go_simp) (by go_simp) (by go_simp) (by go_simp) (by go_simp) true (by simpa using HV.out)).mono ?_
  rintro e w1 ⟨rfl, hb1⟩
  obtain ⟨hc1, hf1⟩ := bcell hb1
  have hz1 := hb1.size
  try simp only [World.size_alloc, World.size_setCell] at hz1
  try refine zw4 w w1 (by omega) fun _ _ _ _ _ _ _ _ => ?_
  go_wp2
  refine bodyPost_ret (v := .tuple #[.agg #[.int .i64 (0), .int .i64 (0)], .int .i64 2]) (by simp only [results, Try.results99]; go_simp) rfl ⟨rfl, blw_⟩
 ·rw [ok_t, ok_t, err_t]
  have HV := hide hv
  simp only [Bool.and_eq_true] at hv
  obtain ⟨hva, hvb⟩ := hv
  obtain ⟨v1, v2⟩ := vB_tt hvb
  have hc := add_any al ah (-bh) (-bl) I0.out I1.out (I64.neg (by omega) (by omega)) (I64.neg (by omega) (by omega))
  rw [hva, vneg v1 v2 b3, Bool.and_true, ok_t, ok_t, err_t, show al + -bh = al - bh by omega, show ah + -bl = ah - bl by omega] at hc
  have HA := hide hc
  clear hc hva hvb
  go_enter Try.func99, Try.ntmps99
  go_wp2_with fail
  go_at_call 116
  refine (invalid2 al ah bl bh _ _ _ h0 h1 (by go_simp) (by go_simp) (by go_simp) (by go_simp) (by go_simp) false (by simpa using HV.out)).mono ?_
  rintro e w1 ⟨rfl, hb1⟩
  obtain ⟨hc1, hf1⟩ := bcell hb1
  have hz1 := hb1.size
  try simp only [World.size_alloc, World.size_setCell] at hz1
  try refine zw4 w w1 (by omega) fun _ _ _ _ _ _ _ _ => ?_
  go_wp2_with fail
  refine (HA.out _).mono ?_
  rintro e w2 ⟨rfl, hb2⟩
  obtain ⟨hc2, hf2⟩ := bcell hb2
  have hz2 := hb2.size
  try simp only [World.size_alloc, World.size_setCell] at hz2
  try refine zw4 w w2 (by omega) fun _ _ _ _ _ _ _ _ => ?_
  try have : w1.heap.size < w2.heap.size := by omega
  try have : w1.heap.size ≤ w2.heap.size := by omega
  go_wp2
  refine bodyPost_ret (v := .tuple #[.agg #[.int .i64 (oLo (al - bh) (ah - bl)), .int .i64 (oHi (al - bh) (ah - bl))], .int .i64 (oE (al - bh) (ah - bl))]) (by simp only [results, Try.results99]; go_simp) rfl ⟨rfl, blw_⟩
theorem R127.of64 {x : Int} (h : I64 x) : R127 x := by obtain ⟨_, _⟩ := h; constructor <;> omega
theorem R127.add {x y : Int} (h : I64 x) (k : I64 y) : R127 (x + y) := by obtain ⟨_, _⟩ := h; obtain ⟨_, _⟩ := k; constructor <;> omega
theorem both0 {al ah bl bh : Int} (h : (vB al ah && vB bl bh) = true) : (if vB al ah && vB bl bh then (0 : Int) else 2) = 0 := by rw [if_pos h]
theorem both2 {al ah bl bh : Int} (h : (vB al ah && vB bl bh) = false) : (if vB al ah && vB bl bh then (0 : Int) else 2) = 2 := by rw [if_neg (by simp [h])]
theorem radd_any (al ah bl bh : Int) (i0 : I64 al) (i1 : I64 ah) (i2 : I64 bl) (i3 : I64 bh) (w : World) :
  Calls Try.prog 71 #[.agg #[.int .i64 (al), .int .i64 (ah)], .agg #[.int .i64 (bl), .int .i64 (bh)]] w fun e w' => e = .returned (.tuple #[.agg #[.int .i64 (okI (vB al ah && vB bl bh) (oLo (al + bl) (ah + bh))), .int .i64 (okI (vB al ah && vB bl bh) (oHi (al + bl) (ah + bh)))], .int .i64 (errE (vB al ah && vB bl bh) (oE (al + bl) (ah + bh)))]) ∧ Below w.heap.size w w' := by
 cases hv : (vB al ah && vB bl bh)
 ·rw [ok_f, ok_f, err_f]
  have HV := hide (both2 hv)
  clear hv i0 i1 i2 i3
  go_enter Try.func71, Try.ntmps71
  go_wp2_with fail
  refine (rboth al ah bl bh 2 HV.out _).mono ?_
  rintro e w1 ⟨rfl, hb1⟩
  obtain ⟨hc1, hf1⟩ := bcell hb1
  have hz1 := hb1.size
  try simp only [World.size_alloc, World.size_setCell] at hz1
  try refine zw3 w w1 (by omega) fun _ _ _ _ _ _ => ?_
  go_wp2
  refine bodyPost_ret (v := .tuple #[.agg #[.int .i64 (0), .int .i64 (0)], .int .i64 2]) (by simp only [results, Try.results71]; go_simp) rfl ⟨rfl, blw_⟩
 ·rw [ok_t, ok_t, err_t]
  have HV := hide (both0 hv)
  clear hv
  go_enter Try.func71, Try.ntmps71
  go_wp2_with fail
  refine (rboth al ah bl bh 0 HV.out _).mono ?_
  rintro e w1 ⟨rfl, hb1⟩
  obtain ⟨hc1, hf1⟩ := bcell hb1
  have hz1 := hb1.size
  try simp only [World.size_alloc, World.size_setCell] at hz1
  try refine zw3 w w1 (by omega) fun _ _ _ _ _ _ => ?_
  go_wp2_with fail
  refine QT.tail_c 17 hb1 (by kernel_rfl) (by kernel_rfl) ?_
  simp only [List.take_succ_cons, List.take_zero, List.drop_succ_cons, List.drop_zero]
  repeat (first
   | go_big_quiet_skip
   | (go_big_quiet_want; go_big_quiet_op; first
    | go_big_quiet_on
    | (apply Exists.intro
       refine ⟨fun _ => ?_, ?_⟩
       ·first
        | rfl
        | (intro hC; obtain ⟨hcq, hfq⟩ := bcellB hC; go_simp; done)
        | (intro hC; obtain ⟨hcq, hfq⟩ := bcellB hC; go_simp; rfl)
        | (intro hC; have hcq := bcellG hC; go_simp; done)
        | (intro hC; have hcq := bcellG hC; go_simp; rfl)
        | (intro hC; go_at_call 79; (first | (with_reducible refine (rwide al i0 _).mono ?_) | (with_reducible refine (rwide ah i1 _).mono ?_) | (with_reducible refine (rwide bl i2 _).mono ?_) | (with_reducible refine (rwide bh i3 _).mono ?_)); (intro e w2 hw; exact ⟨hw.1, qtrans (by simp) hC hw.2⟩))
        | (intro hC; go_at_call 78; (first | (with_reducible refine (rplus al bl (R127.of64 i0) (R127.of64 i2) (R127.add i0 i2) _).mono ?_) | (with_reducible refine (rplus ah bh (R127.of64 i1) (R127.of64 i3) (R127.add i1 i3) _).mono ?_)); (intro e w2 hw; exact ⟨hw.1, qtrans (by simp) hC hw.2⟩))
        | (intro hC; go_at_call 70; (first | (with_reducible refine (rout (al + bl) (ah + bh) _).mono ?_)); (intro e w2 hw; exact ⟨hw.1, qtrans (by simp) hC hw.2⟩))
       go_big_quiet_on)))
  refine wpQuiet_nil ?_
  intro w9 hC9
  obtain ⟨hc9, hf9⟩ := bcellB hC9
  have hz9 := hC9.size
  go_wp2
  refine bodyPost_ret (v := .tuple #[.agg #[.int .i64 (oLo (al + bl) (ah + bh)), .int .i64 (oHi (al + bl) (ah + bh))], .int .i64 (oE (al + bl) (ah + bh))]) (by simp only [results, Try.results71]; go_simp) rfl ⟨rfl, blw_⟩
theorem rsub_any (al ah bl bh : Int) (i0 : I64 al) (i1 : I64 ah) (i2 : I64 bl) (i3 : I64 bh) (w : World) :
  Calls Try.prog 74 #[.agg #[.int .i64 (al), .int .i64 (ah)], .agg #[.int .i64 (bl), .int .i64 (bh)]] w fun e w' => e = .returned (.tuple #[.agg #[.int .i64 (okI (vB al ah && vB bl bh) (oLo (al - bh) (ah - bl))), .int .i64 (okI (vB al ah && vB bl bh) (oHi (al - bh) (ah - bl)))], .int .i64 (errE (vB al ah && vB bl bh) (oE (al - bh) (ah - bl)))]) ∧ Below w.heap.size w w' := by
 cases hvb : vB bl bh
 ·rw [Bool.and_false, ok_f, ok_f, err_f]
  have hn := rneg_any bl bh i2 i3
  rw [hvb, ok_f, ok_f, err_f] at hn
  have HN := hide hn
  clear hvb i0 i1 i2 i3 hn
  go_enter Try.func74, Try.ntmps74
  go_wp2_with fail
  refine (HN.out _).mono ?_
  rintro e w1 ⟨rfl, hb1⟩
  obtain ⟨hc1, hf1⟩ := bcell hb1
  have hz1 := hb1.size
  try simp only [World.size_alloc, World.size_setCell] at hz1
  try refine zw3 w w1 (by omega) fun _ _ _ _ _ _ => ?_
  go_wp2
  refine bodyPost_ret (v := .tuple #[.agg #[.int .i64 (0), .int .i64 (0)], .int .i64 2]) (by simp only [results, Try.results74]; go_simp) rfl ⟨rfl, blw_⟩
 ·rw [Bool.and_true]
  have hn := rneg_any bl bh i2 i3
  rw [hvb, ok_t, ok_t, err_t] at hn
  have HN := hide hn
  obtain ⟨v1, v2⟩ := vB_tt hvb
  have b3 := i3.2
  have hc := radd_any al ah (-bh) (-bl) i0 i1 (I64.neg (by omega) (by omega)) (I64.neg (by omega) (by omega))
  rw [vneg v1 v2 b3, Bool.and_true, show al + -bh = al - bh by omega, show ah + -bl = ah - bl by omega] at hc
  have HA := hide hc
  clear hc hvb hn i0 i1 i2 i3
  go_enter Try.func74, Try.ntmps74
  go_wp2_with fail
  refine (HN.out _).mono ?_
  rintro e w1 ⟨rfl, hb1⟩
  obtain ⟨hc1, hf1⟩ := bcell hb1
  have hz1 := hb1.size
  try simp only [World.size_alloc, World.size_setCell] at hz1
  try refine zw3 w w1 (by omega) fun _ _ _ _ _ _ => ?_
  go_wp2_with fail
  refine (HA.out _).mono ?_
  rintro e w2 ⟨rfl, hb2⟩
  obtain ⟨hc2, hf2⟩ := bcell hb2
  have hz2 := hb2.size
  try simp only [World.size_alloc, World.size_setCell] at hz2
  try refine zw3 w w2 (by omega) fun _ _ _ _ _ _ => ?_
  try have : w1.heap.size < w2.heap.size := by omega
  try have : w1.heap.size ≤ w2.heap.size := by omega
  go_wp2
  refine bodyPost_ret (v := .tuple #[.agg #[.int .i64 (okI (vB al ah) (oLo (al - bh) (ah - bl))), .int .i64 (okI (vB al ah) (oHi (al - bh) (ah - bl)))], .int .i64 (errE (vB al ah) (oE (al - bh) (ah - bl)))]) (by simp only [results, Try.results74]; go_simp) rfl ⟨rfl, blw_⟩
end
section
open Go.RowKit
theorem rup32 (x : Int) (h : -39614081257132168796771975168 ≤ x ∧ x < 39614081257132168796771975168) (w : World) :
  Calls Try.prog 110 #[.agg #[.int .i64 (wH (x)), .int .u64 (wL (x))], .int .i64 32] w fun e w' => e = .returned (.agg #[.int .i64 (wH (x * 4294967296)), .int .u64 (wL (x * 4294967296))]) ∧ Below w.heap.size w w' := by
 have e1 := hide (show wrap64 (wrap64 (wH x * 4294967296) + wrap64 (wL x / 4294967296)) = wH (x * 4294967296) by unfold wrap64 wH wL; omega)
 have e2 := hide (show IntKind.u64.wrap (wL x * 4294967296) = wL (x * 4294967296) by rw [u64w]; unfold wL; omega)
 clear h
 go_enter Try.func110, Try.ntmps110
 go_wp2_with fail
 refine QT.tail_b 16 (by kernel_rfl) (by kernel_rfl) ?_
 simp only [List.take_succ_cons, List.take_zero, List.drop_succ_cons, List.drop_zero]
 repeat (first
  | go_big_quiet_skip
  | (go_big_quiet_want; go_big_quiet_op; first
   | go_big_quiet_on
   | (apply Exists.intro
      refine ⟨fun _ => ?_, ?_⟩
      ·first
       | rfl
       | (intro hC; obtain ⟨hcq, hfq⟩ := bcellB hC; go_simp; done)
       | (intro hC; obtain ⟨hcq, hfq⟩ := bcellB hC; go_simp; rfl)
       | (intro hC; have hcq := bcellG hC; go_simp; done)
       | (intro hC; have hcq := bcellG hC; go_simp; rfl)
      go_big_quiet_on)))
 refine wpQuiet_nil ?_
 intro w9 hC9
 obtain ⟨hc9, hf9⟩ := bcellB hC9
 have hz9 := hC9.size
 go_wp2
 rw [← e1.out, ← e2.out]
 refine bodyPost_ret (v := .agg #[.int .i64 (wrap64 (wrap64 (wH x * 4294967296) + wrap64 (wL x / 4294967296))), .int .u64 (IntKind.u64.wrap (wL x * 4294967296))]) (by simp only [results, Try.results110]; go_simp) rfl ⟨rfl, blw_⟩
theorem rup65 (x : Int) (h : -4611686018427387904 ≤ x ∧ x < 4611686018427387904) (w : World) :
  Calls Try.prog 110 #[.agg #[.int .i64 (wH (x)), .int .u64 (wL (x))], .int .i64 65] w fun e w' => e = .returned (.agg #[.int .i64 (wH (x * 36893488147419103232)), .int .u64 (wL (x * 36893488147419103232))]) ∧ Below w.heap.size w w' := by
 have e1 := hide (show wrap64 (IntKind.u64.wrap (wL x * 2)) = wH (x * 36893488147419103232) by rw [u64w]; unfold wrap64 wH wL; omega)
 have e2 := hide (show (0 : Int) = wL (x * 36893488147419103232) by unfold wL; omega)
 clear h
 go_enter Try.func110, Try.ntmps110
 go_wp2
 rw [← e1.out, ← e2.out]
 refine bodyPost_ret (v := .agg #[.int .i64 (wrap64 (IntKind.u64.wrap (wL x * 2))), .int .u64 0]) (by simp only [results, Try.results110]; go_simp) rfl ⟨rfl, blw_⟩
theorem down_n {h l : Int} (c : h.tmod 4294967296 < 0) (hh : I64 h) (hl : 0 ≤ l ∧ l < 18446744073709551616) :
  wrap64 (wrap64 (h.tdiv 4294967296) - 1) = h / 4294967296 ∧
  IntKind.u64.wrap (IntKind.u64.wrap (IntKind.u64.wrap (wrap64 (h - wrap64 (wrap64 (wrap64 (h.tdiv 4294967296) - 1) * 4294967296))) * 4294967296) + IntKind.u64.wrap (l.tdiv 4294967296)) = (h % 4294967296) * 4294967296 + l / 4294967296 := by
 obtain ⟨_, _⟩ := hh
 have e0 : l.tdiv 4294967296 = l / 4294967296 := Int.tdiv_eq_ediv_of_nonneg hl.1
 have hneg : h < 0 := by
  by_cases hp : 0 ≤ h
  ·have := Int.tmod_nonneg 4294967296 hp; omega
  ·omega
 have e1 : h.tdiv 4294967296 = -((-h) / 4294967296) := by
  have h2 := Int.neg_tdiv (a := -h) (b := 4294967296)
  rw [Int.neg_neg] at h2
  rw [h2, Int.tdiv_eq_ediv_of_nonneg (by omega)]
 have e2 : h.tmod 4294967296 = -((-h) % 4294967296) := by
  have h2 := Int.neg_tmod (a := -h) (b := 4294967296)
  rw [Int.neg_neg] at h2
  rw [h2, Int.tmod_eq_emod_of_nonneg (by omega)]
 rw [e2] at c
 rw [e0, e1]
 simp only [u64w]
 unfold wrap64
 constructor <;> omega
theorem down_p {h l : Int} (c : 0 ≤ h.tmod 4294967296) (hh : I64 h) (hl : 0 ≤ l ∧ l < 18446744073709551616) :
  wrap64 (h.tdiv 4294967296) = h / 4294967296 ∧
  IntKind.u64.wrap (IntKind.u64.wrap (IntKind.u64.wrap (wrap64 (h - wrap64 (wrap64 (h.tdiv 4294967296) * 4294967296))) * 4294967296) + IntKind.u64.wrap (l.tdiv 4294967296)) = (h % 4294967296) * 4294967296 + l / 4294967296 := by
 obtain ⟨_, _⟩ := hh
 have e0 : l.tdiv 4294967296 = l / 4294967296 := Int.tdiv_eq_ediv_of_nonneg hl.1
 have e1 : h.tdiv 4294967296 = h / 4294967296 := by
  by_cases hp : 0 ≤ h
  ·exact Int.tdiv_eq_ediv_of_nonneg hp
  ·have h2 := Int.neg_tdiv (a := -h) (b := 4294967296)
   have h3 := Int.neg_tmod (a := -h) (b := 4294967296)
   rw [Int.neg_neg] at h2 h3
   rw [h3, Int.tmod_eq_emod_of_nonneg (by omega)] at c
   rw [h2, Int.tdiv_eq_ediv_of_nonneg (by omega)]
   omega
 rw [e0, e1]
 simp only [u64w]
 unfold wrap64
 constructor <;> omega
theorem R127.H {x : Int} (h : R127 x) : I64 (wH x) := by obtain ⟨_, _⟩ := h; unfold wH I64; omega
theorem wL_bd (x : Int) : 0 ≤ wL x ∧ wL x < 18446744073709551616 := by unfold wL; omega
theorem down_e (x : Int) : wH x / 4294967296 = wH (x / 4294967296) ∧ (wH x % 4294967296) * 4294967296 + wL x / 4294967296 = wL (x / 4294967296) := by unfold wH wL; constructor <;> omega
theorem rdown (x : Int) (h : R127 x) (w : World) :
  Calls Try.prog 115 #[.agg #[.int .i64 (wH (x)), .int .u64 (wL (x))]] w fun e w' => e = .returned (.agg #[.int .i64 (wH (x / 4294967296)), .int .u64 (wL (x / 4294967296))]) ∧ Below w.heap.size w w' := by
 have D := down_e x
 by_cases c : (wH x).tmod 4294967296 < 0
 ·have E := hide (down_n c h.H (wL_bd x))
  rw [← D.1, ← D.2, ← E.out.1, ← E.out.2]
  clear h D
  go_enter Try.func115, Try.ntmps115
  go_wp2
  refine bodyPost_ret (v := .agg #[.int .i64 (wrap64 (wrap64 ((wH x).tdiv 4294967296) - 1)), .int .u64 (IntKind.u64.wrap (IntKind.u64.wrap (IntKind.u64.wrap (wrap64 (wH x - wrap64 (wrap64 (wrap64 ((wH x).tdiv 4294967296) - 1) * 4294967296))) * 4294967296) + IntKind.u64.wrap ((wL x).tdiv 4294967296)))]) (by simp only [results, Try.results115]; go_simp) rfl ⟨rfl, blw_⟩
 ·have E := hide (down_p (Int.not_lt.1 c) h.H (wL_bd x))
  rw [← D.1, ← D.2, ← E.out.1, ← E.out.2]
  clear h D
  go_enter Try.func115, Try.ntmps115
  go_wp2
  refine bodyPost_ret (v := .agg #[.int .i64 (wrap64 ((wH x).tdiv 4294967296)), .int .u64 (IntKind.u64.wrap (IntKind.u64.wrap (IntKind.u64.wrap (wrap64 (wH x - wrap64 (wrap64 ((wH x).tdiv 4294967296) * 4294967296))) * 4294967296) + IntKind.u64.wrap ((wL x).tdiv 4294967296)))]) (by simp only [results, Try.results115]; go_simp) rfl ⟨rfl, blw_⟩
theorem and1_u64 (y : Int) (h0 : 0 ≤ y) (h1 : y < 18446744073709551616) : bits .and .u64 y 1 = y % 2 := by
 show IntKind.u64.wrap ((BitVec.ofInt 64 y &&& BitVec.ofInt 64 1).toNat : Int) = _
 rw [BitVec.toNat_and, BitVec.toNat_ofInt, show (BitVec.ofInt 64 1).toNat = 1 from by decide, Nat.and_one_is_mod, u64w]
 omega
theorem and1_i64 (y : Int) (h0 : 0 ≤ y) (h1 : y < 9223372036854775808) : bits .and .i64 y 1 = y % 2 := by
 show IntKind.i64.wrap ((BitVec.ofInt 64 y &&& BitVec.ofInt 64 1).toNat : Int) = _
 rw [BitVec.toNat_and, BitVec.toNat_ofInt, show (BitVec.ofInt 64 1).toNat = 1 from by decide, Nat.and_one_is_mod, IntKind.wrap_i64]
 omega
def bitB (n k : Nat) : Bool := n.testBit k
theorem bit_low (n k : Nat) (hk : k < 64) : (bits .and .u64 (wL (n : Int) / 2 ^ k) 1 == 1) = bitB n k := by
 have e : wL (n : Int) / 2 ^ k = ((n % 2 ^ 64 / 2 ^ k : Nat) : Int) := by simp [wL]
 have hb : n % 2 ^ 64 / 2 ^ k < 2 ^ 64 := Nat.lt_of_le_of_lt (Nat.div_le_self _ _) (Nat.mod_lt _ (by decide))
 rw [e]
 generalize hm : n % 2 ^ 64 / 2 ^ k = m at *
 rw [and1_u64 _ (by omega) (by omega)]
 have h := Nat.testBit_mod_two_pow n 64 k
 rw [decide_eq_true hk, Bool.true_and, Nat.testBit_eq_decide_div_mod_eq] at h
 unfold bitB
 rw [← h, hm, Bool.eq_iff_iff, beq_iff_eq, decide_eq_true_eq]
 omega
theorem bit_high (n k : Nat) (hn : n < 2 ^ 127) (hk : 64 ≤ k) : (bits .and .i64 (wH (n : Int) / 2 ^ (k - 64)) 1 == 1) = bitB n k := by
 have e : wH (n : Int) / 2 ^ (k - 64) = ((n / 2 ^ k : Nat) : Int) := by
  have h2 : 2 ^ k = 2 ^ 64 * 2 ^ (k - 64) := by rw [← Nat.pow_add]; congr 1; omega
  rw [h2, ← Nat.div_div_eq_div_mul]
  simp [wH]
 have hb : n / 2 ^ k < 2 ^ 63 := by
  refine Nat.lt_of_le_of_lt (Nat.div_le_div_left (Nat.pow_le_pow_right (by decide) hk) (by decide)) ?_
  omega
 unfold bitB
 rw [e, Nat.testBit_eq_decide_div_mod_eq]
 generalize n / 2 ^ k = m at *
 rw [and1_i64 _ (by omega) (by omega), Bool.eq_iff_iff, beq_iff_eq, decide_eq_true_eq]
 omega
theorem rbit (n k : Nat) (hn : n < 2 ^ 127) (hk : k < 128) (r : Bool) (hr : bitB n k = r) (w : World) :
  Calls Try.prog 145 #[.agg #[.int .i64 (wH ((n : Int))), .int .u64 (wL ((n : Int)))], .int .i64 k] w fun e w' => e = .returned (.bool r) ∧ Below w.heap.size w w' := by
 by_cases c : k < 64
 ·have E := bit_low n k c
  rw [hr] at E
  have c2 : (k : Int) < 64 := by omega
  clear hn hr
  go_enter Try.func145, Try.ntmps145
  go_wp2
  go_ret
  exact ⟨rfl, blw_⟩
 ·have E := bit_high n k hn (by omega)
  rw [hr] at E
  have c2 : (64 : Int) ≤ (k : Int) := by omega
  have c3 : ((k : Int) - 64).toNat = k - 64 := by omega
  clear hn hr c
  go_enter Try.func145, Try.ntmps145
  go_wp2
  go_ret
  exact ⟨rfl, blw_⟩
end
section
open Go.RowKit
theorem quo_u64 {a b : Int} (ha : 0 ≤ a ∧ a < 18446744073709551616) (hb : 0 < b) : IntKind.u64.wrap (a.tdiv b) = a / b ∧ a.tmod b = a % b := by
 have h1 := Int.ediv_nonneg ha.1 (Int.le_of_lt hb)
 have h2 := Int.ediv_le_self b ha.1
 have h3 := Int.emod_nonneg a (show b ≠ 0 by omega)
 have h4 : a % b ≤ a := by
  have := Int.emod_add_mul_ediv a b
  have := Int.mul_nonneg (Int.le_of_lt hb) h1
  omega
 rw [Int.tdiv_eq_ediv_of_nonneg ha.1, Int.tmod_eq_emod_of_nonneg ha.1, u64w]
 generalize a / b = x at *
 exact ⟨by omega, rfl⟩
theorem wsmall {n : Int} (h : 0 ≤ n) (h2 : n < 18446744073709551616) : wH n = 0 ∧ wL n = n := by unfold wH wL; omega
theorem rdivide_small (n d : Int) (hn0 : 0 ≤ n) (hn : n < 18446744073709551616) (hd0 : 0 < d) (hd : d < 18446744073709551616) (w : World) :
  Calls Try.prog 134 #[.agg #[.int .i64 (wH (n)), .int .u64 (wL (n))], .agg #[.int .i64 (wH (d)), .int .u64 (wL (d))]] w fun e w' => e = .returned (.tuple #[.agg #[.int .i64 (wH (n / d)), .int .u64 (wL (n / d))], .agg #[.int .i64 (wH (n % d)), .int .u64 (wL (n % d))]]) ∧ Below w.heap.size w w' := by
 obtain ⟨a1, a2⟩ := wsmall hn0 hn
 obtain ⟨b1, b2⟩ := wsmall (Int.le_of_lt hd0) hd
 have q1 := Int.ediv_nonneg hn0 (Int.le_of_lt hd0)
 have q2 := Int.ediv_le_self d hn0
 have q3 := Int.emod_nonneg n (show d ≠ 0 by omega)
 have q4 := Int.emod_lt_of_pos n hd0
 obtain ⟨c1, c2⟩ := wsmall (n := n / d) q1 (by omega)
 obtain ⟨d1, d2⟩ := wsmall (n := n % d) q3 (by omega)
 obtain ⟨e1, e2⟩ := quo_u64 (a := n) (b := d) ⟨hn0, hn⟩ hd0
 rw [a1, a2, b1, b2, c1, c2, d1, d2]
 have hz : ¬ d = 0 := by omega
 clear a1 a2 b1 b2 c1 c2 d1 d2 q1 q2 q3 q4 hn0 hn hd0 hd
 have E1 := hide e1
 have E2 := hide e2
 clear e1 e2
 go_enter Try.func134, Try.ntmps134
 go_wp2_with fail
 go_region
 all_goals go_wp2
 all_goals rw [← E1.out, ← E2.out]
 all_goals refine bodyPost_ret (v := .tuple #[.agg #[.int .i64 0, .int .u64 (IntKind.u64.wrap (n.tdiv d))], .agg #[.int .i64 0, .int .u64 (n.tmod d)]]) (by simp only [results, Try.results134]; go_simp) rfl ⟨rfl, blw_⟩
structure DivInv (w wr : World) (n d : Int) : Prop where
 below : Below w.heap.size w wr
 size : w.heap.size + 1 + 1 + 1 < wr.heap.size
 n0 : wr.cell? ⟨w.heap.size, 0, none⟩ = some (.int .i64 (wH n))
 n1 : wr.cell? ⟨w.heap.size, 1, none⟩ = some (.int .u64 (wL n))
 d0 : wr.cell? ⟨w.heap.size + 1, 0, none⟩ = some (.int .i64 (wH d))
 d1 : wr.cell? ⟨w.heap.size + 1, 1, none⟩ = some (.int .u64 (wL d))
 q0 : wr.cell? ⟨w.heap.size + 1 + 1, 0, none⟩ = some (.int .i64 0)
 q1 : wr.cell? ⟨w.heap.size + 1 + 1, 1, none⟩ = some (.int .u64 0)
 r0 : wr.cell? ⟨w.heap.size + 1 + 1 + 1, 0, none⟩ = some (.int .i64 0)
 r1 : wr.cell? ⟨w.heap.size + 1 + 1 + 1, 1, none⟩ = some (.int .u64 0)
 qf0 : wr.frozen? ⟨w.heap.size + 1 + 1, 0, none⟩ = false
 qf1 : wr.frozen? ⟨w.heap.size + 1 + 1, 1, none⟩ = false
 rf0 : wr.frozen? ⟨w.heap.size + 1 + 1 + 1, 0, none⟩ = false
 rf1 : wr.frozen? ⟨w.heap.size + 1 + 1 + 1, 1, none⟩ = false
theorem DivInv.next {w wr w' : World} {n d : Int} (h : DivInv w wr n d) (hb : Below (w.heap.size + 1 + 1 + 1 + 1) wr w') : DivInv w w' n d := by
 have hs := hb.size
 have c : ∀ b o, b < w.heap.size + 1 + 1 + 1 + 1 → w'.cell? ⟨b, o, none⟩ = wr.cell? ⟨b, o, none⟩ := fun b o hlt => hb.cell (p := ⟨b, o, none⟩) hlt
 have f : ∀ b o, b < w.heap.size + 1 + 1 + 1 + 1 → w'.frozen? ⟨b, o, none⟩ = wr.frozen? ⟨b, o, none⟩ := fun b o hlt => hb.frozen (p := ⟨b, o, none⟩) hlt
 exact ⟨h.below.trans (hb.mono (by omega)), by have := h.size; omega, (c _ _ (by omega)).trans h.n0, (c _ _ (by omega)).trans h.n1, (c _ _ (by omega)).trans h.d0, (c _ _ (by omega)).trans h.d1,
  (c _ _ (by omega)).trans h.q0, (c _ _ (by omega)).trans h.q1, (c _ _ (by omega)).trans h.r0, (c _ _ (by omega)).trans h.r1,
  (f _ _ (by omega)).trans h.qf0, (f _ _ (by omega)).trans h.qf1, (f _ _ (by omega)).trans h.rf0, (f _ _ (by omega)).trans h.rf1⟩
theorem tb_step (n t : Nat) (h : n < 2 ^ (t + 1)) (hb : bitB n t = false) : n < 2 ^ t := by
 unfold bitB at hb
 rw [Nat.testBit_eq_decide_div_mod_eq, decide_eq_false_iff_not] at hb
 have h1 : n / 2 ^ t < 2 := by rw [Nat.div_lt_iff_lt_mul (Nat.two_pow_pos t)]; rw [Nat.pow_succ] at h; omega
 have h2 : n / 2 ^ t = 0 := by generalize n / 2 ^ t = m at *; omega
 exact (Nat.div_eq_zero_iff_lt (Nat.two_pow_pos t)).1 h2
structure Div2 (w wr : World) (n d : Int) (bq br : Nat) (q r : Int) : Prop where
 inv : DivInv w wr n d
 lo : w.heap.size + 1 + 1 + 1 < bq
 lt : bq < br
 sz : br < wr.heap.size
 q0 : wr.cell? ⟨bq, 0, none⟩ = some (.int .i64 (wH q))
 q1 : wr.cell? ⟨bq, 1, none⟩ = some (.int .u64 (wL q))
 r0 : wr.cell? ⟨br, 0, none⟩ = some (.int .i64 (wH r))
 r1 : wr.cell? ⟨br, 1, none⟩ = some (.int .u64 (wL r))
 qf0 : wr.frozen? ⟨bq, 0, none⟩ = false
 qf1 : wr.frozen? ⟨bq, 1, none⟩ = false
 rf0 : wr.frozen? ⟨br, 0, none⟩ = false
 rf1 : wr.frozen? ⟨br, 1, none⟩ = false
theorem rbit_i (n : Nat) (m : Int) (hn : n < 2 ^ 127) (hm : 0 ≤ m ∧ m < 128) (r : Bool) (hr : bitB n m.toNat = r) (w : World) :
  Calls Try.prog 145 #[.agg #[.int .i64 (wH ((n : Int))), .int .u64 (wL ((n : Int)))], .int .i64 m] w fun e w' => e = .returned (.bool r) ∧ Below w.heap.size w w' := by
 obtain ⟨k, rfl⟩ := Int.eq_ofNat_of_zero_le hm.1
 exact rbit n k hn (by omega) r hr w
theorem rplus1 (x : Int) (h : R127 x) (h2 : R127 (x + 1)) (w : World) :
  Calls Try.prog 78 #[.agg #[.int .i64 (wH (x)), .int .u64 (wL (x))], .agg #[.int .i64 0, .int .u64 1]] w fun e w' => e = .returned (.agg #[.int .i64 (wH (x + 1)), .int .u64 (wL (x + 1))]) ∧ Below w.heap.size w w' :=
 rplus x 1 h (by constructor <;> omega) h2 w
theorem bit_split (n k : Nat) : n / 2 ^ k = 2 * (n / 2 ^ (k + 1)) + (if bitB n k then 1 else 0) := by
 have h1 : n / 2 ^ (k + 1) = n / 2 ^ k / 2 := by rw [Nat.pow_succ, Nat.div_div_eq_div_mul]
 unfold bitB
 rw [h1, Nat.testBit_eq_decide_div_mod_eq]
 generalize n / 2 ^ k = m
 by_cases h : m % 2 = 1
 ·simp [h]; omega
 ·simp [h]; omega
def DivEq (n : Nat) (d : Int) (m q r : Int) : Prop := ((n / 2 ^ (m + 1).toNat : Nat) : Int) = q * d + r
theorem div_top {n : Nat} {d : Int} {t : Nat} (h : n < 2 ^ (t + 1)) : DivEq n d t 0 0 := by
 unfold DivEq
 rw [show ((t : Int) + 1).toNat = t + 1 by omega, Nat.div_eq_of_lt h]
 simp
theorem div_low {n : Nat} {d m q r : Int} (hm : 0 ≤ m) (h : DivEq n d m q r) : ((n / 2 ^ (m - 1 + 1).toNat : Nat) : Int) = 2 * (q * d + r) + (if bitB n m.toNat then 1 else 0) := by
 unfold DivEq at h
 rw [show (m - 1 + 1).toNat = m.toNat by omega, bit_split, ← h, show (m + 1).toNat = m.toNat + 1 by omega]
 split <;> simp
theorem div_same {n : Nat} {d m q r : Int} (b : Int) (hm : 0 ≤ m) (h : DivEq n d m q r) (hb : (if bitB n m.toNat then (1 : Int) else 0) = b) : DivEq n d (m - 1) (q + q) (r + r + b) := by
 unfold DivEq
 have := div_low hm h
 rw [hb] at this
 rw [this, Int.add_mul]
 generalize q * d = x
 omega
theorem div_sub {n : Nat} {d m q r : Int} (b : Int) (hm : 0 ≤ m) (h : DivEq n d m q r) (hb : (if bitB n m.toNat then (1 : Int) else 0) = b) : DivEq n d (m - 1) (q + q + 1) (r + r + b + -d) := by
 unfold DivEq
 have := div_low hm h
 rw [hb] at this
 rw [this, Int.add_mul, Int.add_mul, Int.one_mul]
 generalize q * d = x
 omega
theorem div_bd {n : Nat} {d m q r : Int} (h : DivEq n d m q r) (hn : n < 2 ^ 127) (hd : 0 < d) (hq : 0 ≤ q) (hr : 0 ≤ r) : q < 170141183460469231731687303715884105728 := by
 unfold DivEq at h
 have h1 : n / 2 ^ (m + 1).toNat ≤ n := Nat.div_le_self _ _
 generalize n / 2 ^ (m + 1).toNat = A at *
 have h2 : q ≤ q * d := by
  have := Int.mul_le_mul_of_nonneg_left (show (1 : Int) ≤ d by omega) hq
  rw [Int.mul_one] at this
  exact this
 generalize q * d = x at *
 omega
theorem div_end {n : Nat} {d q r : Int} (h : DivEq n d (-1) q r) (h0 : 0 ≤ r) (h1 : r < d) : (n : Int) / d = q ∧ (n : Int) % d = r := by
 have h : (n : Int) = q * d + r := by unfold DivEq at h; simpa using h
 have hd : 0 < d := by omega
 rw [Int.ediv_emod_unique hd]
 refine ⟨?_, h0, h1⟩
 rw [h, Int.mul_comm]; omega
theorem ite_t {b : Bool} (h : b = true) : (if b then (1 : Int) else 0) = 1 := by simp [h]
theorem ite_f {b : Bool} (h : b = false) : (if b then (1 : Int) else 0) = 0 := by simp [h]
end
end Go.Proofs.Ytacpahebbnnckaa
