/- The questions of layer 1: Check, In, Within, Sign, Order: what the program's functions and the document's answer. -/
import Derived.Test.YtfknnnlbfdeomaaBase
set_option linter.unusedVariables false
set_option linter.unusedSimpArgs false
namespace Go.Proofs.Ytfknnnlbfdeomaa
open Go.RowKit

theorem check_yes (lo hi : Int) (h : vB lo hi = true) (w : World) :
    Calls Try.prog 49 #[.agg #[.int .i64 (lo), .int .i64 (hi)]] w fun e w' => e = .returned (.int .i64 0) ∧ Below w.heap.size w w' := by
  obtain ⟨h1, h2⟩ := vB_tt h
  have g1 : (lo == -9223372036854775808) = false := by simp; omega
  have g2 : ¬ hi < lo := by omega
  clear h
  go_enter Try.func49, Try.ntmps49
  go_wp2
  go_ret
  exact ⟨rfl, (Below.refl _ _).alloc (Nat.le_refl _) _⟩

theorem check_no (lo hi : Int) (h0 : -9223372036854775808 ≤ lo) (h : vB lo hi = false) (w : World) :
    Calls Try.prog 49 #[.agg #[.int .i64 (lo), .int .i64 (hi)]] w fun e w' => e = .returned (.int .i64 2) ∧ Below w.heap.size w w' := by
  have h := vB_ff h
  by_cases g : lo = -9223372036854775808
  · have g1 : (lo == -9223372036854775808) = true := by simpa using g
    clear h g
    go_enter Try.func49, Try.ntmps49
    go_wp2
    go_ret
    exact ⟨rfl, (Below.refl _ _).alloc (Nat.le_refl _) _⟩
  · have g1 : (lo == -9223372036854775808) = false := by simpa using g
    have g2 : hi < lo := by omega
    clear h g
    go_enter Try.func49, Try.ntmps49
    go_wp2
    go_ret
    exact ⟨rfl, (Below.refl _ _).alloc (Nat.le_refl _) _⟩

theorem check_any (lo hi : Int) (h0 : -9223372036854775808 ≤ lo) (w : World) :
    Calls Try.prog 49 #[.agg #[.int .i64 (lo), .int .i64 (hi)]] w fun e w' => e = .returned (.int .i64 (chkI lo hi)) ∧ Below w.heap.size w w' := by
  unfold chkI
  cases h : vB lo hi
  · exact check_no lo hi h0 h w
  · exact check_yes lo hi h w

theorem invalid_no (L H : Nat → Int) (n b off cap : Nat) (hn : n ≤ 1000000) (w : World) (hV : ∀ i, i < n → vB (L i) (H i) = true)
    (hc : ∀ i, i < n → w.cell? ⟨b, off + i * 2, none⟩ = some (.int .i64 (L i)) ∧ w.cell? ⟨b, off + i * 2 + 1, none⟩ = some (.int .i64 (H i))) (hb : n = 0 ∨ b < w.heap.size) :
    Calls Try.prog 48 #[.slice (some ⟨b, off, none⟩) n cap] w fun e w' => e = .returned (.bool false) ∧ Below w.heap.size w w' := by
  have HC := hide hc
  have HV := hide hV
  have HB := hide hb
  clear hc hV hb
  go_enter Try.func48, Try.ntmps48
  go_wp2
  go_loopw [7] (fun i wr => ∃ k : Nat, k ≤ n ∧ i = .int .i64 k ∧ Below w.heap.size w wr) (fun i _ => n - (intOf i).toNat)
  case atStart => exact ⟨0, Nat.zero_le _, rfl, Below.refl _ _⟩
  case round =>
    obtain ⟨k, hk, rfl, hB⟩ := hrel
    by_cases hlt : k < n
    · obtain ⟨c1, c2⟩ := HC.out k hlt
      have HV1 := hide (HV.out k hlt)
      have hbw : b < w.heap.size := by have := HB.out; omega
      have c1' := (hB.cell (p := ⟨b, off + k * 2, none⟩) hbw).trans c1
      have c2' := (hB.cell (p := ⟨b, off + k * 2 + 1, none⟩) hbw).trans c2
      clear c1 c2
      go_wp2_with (go_at_call 49; refine (check_yes _ _ HV1.out _).mono ?_; rintro e w1 ⟨rfl, hb1⟩)
      go_roundw
      case rel => exact ⟨k + 1, by omega, by go_num, hB.trans (((Below.refl _ _).alloc (by have := hB.size; omega) _).trans (hb1.mono (by have := hB.size; simp; omega)))⟩
      case measure => simp [intOf]; omega
    · go_wp2
      go_ret
      exact ⟨rfl, hB⟩

/-- The first element that is not valid is number m. -/
theorem invalid_yes (L H : Nat → Int) (n m b off cap : Nat) (hn : n ≤ 1000000) (w : World) (hm : m < n) (hV : ∀ i, i < m → vB (L i) (H i) = true) (hM : vB (L m) (H m) = false) (hL : ∀ i, i < n → -9223372036854775808 ≤ L i)
    (hc : ∀ i, i < n → w.cell? ⟨b, off + i * 2, none⟩ = some (.int .i64 (L i)) ∧ w.cell? ⟨b, off + i * 2 + 1, none⟩ = some (.int .i64 (H i))) (hb : b < w.heap.size) :
    Calls Try.prog 48 #[.slice (some ⟨b, off, none⟩) n cap] w fun e w' => e = .returned (.bool true) ∧ Below w.heap.size w w' := by
  have HC := hide hc
  have HV := hide hV
  have HM := hide hM
  have HL := hide hL
  clear hc hV hM hL
  go_enter Try.func48, Try.ntmps48
  go_wp2
  go_loopw [7] (fun i wr => ∃ k : Nat, k ≤ m ∧ i = .int .i64 k ∧ Below w.heap.size w wr) (fun i _ => n - (intOf i).toNat)
  case atStart => exact ⟨0, Nat.zero_le _, rfl, Below.refl _ _⟩
  case round =>
    obtain ⟨k, hk, rfl, hB⟩ := hrel
    have hlt : k < n := by omega
    obtain ⟨c1, c2⟩ := HC.out k hlt
    have c1' := (hB.cell (p := ⟨b, off + k * 2, none⟩) hb).trans c1
    have c2' := (hB.cell (p := ⟨b, off + k * 2 + 1, none⟩) hb).trans c2
    clear c1 c2
    by_cases hkm : k < m
    · have HV1 := hide (HV.out k hkm)
      go_wp2_with (go_at_call 49; refine (check_yes _ _ HV1.out _).mono ?_; rintro e w1 ⟨rfl, hb1⟩)
      go_roundw
      case rel => exact ⟨k + 1, by omega, by go_num, hB.trans (((Below.refl _ _).alloc (by have := hB.size; omega) _).trans (hb1.mono (by have := hB.size; simp; omega)))⟩
      case measure => simp [intOf]; omega
    · obtain rfl : k = m := by omega
      have HL1 := hide (HL.out k hlt)
      go_wp2_with (go_at_call 49; refine (check_no _ _ HL1.out HM.out _).mono ?_; rintro e w1 ⟨rfl, hb1⟩)
      go_ret
      exact ⟨rfl, hB.trans (((Below.refl _ _).alloc (by have := hB.size; omega) _).trans (hb1.mono (by have := hB.size; simp; omega)))⟩

/-- One span, and two, as the callers lay them. -/
theorem invalid1 (lo hi : Int) (b cap : Nat) (w : World) (h0 : -9223372036854775808 ≤ lo) (hc0 : w.cell? ⟨b, 0, none⟩ = some (.int .i64 lo)) (hc1 : w.cell? ⟨b, 1, none⟩ = some (.int .i64 hi)) (hb : b < w.heap.size) (r : Bool) (hr : vB lo hi = !r) :
    Calls Try.prog 48 #[.slice (some ⟨b, 0, none⟩) 1 cap] w fun e w' => e = .returned (.bool r) ∧ Below w.heap.size w w' := by
  cases r
  · exact invalid_no (fun _ => lo) (fun _ => hi) 1 b 0 cap (by omega) w (fun _ _ => by simpa using hr) (fun i hi => by (have h0i : i = 0 := by omega); subst h0i; exact ⟨hc0, hc1⟩) (.inr hb)
  · exact invalid_yes (fun _ => lo) (fun _ => hi) 1 0 b 0 cap (by omega) w (by omega) (fun i hi => by omega) (by simpa using hr) (fun _ _ => h0) (fun i hi => by (have h0i : i = 0 := by omega); subst h0i; exact ⟨hc0, hc1⟩) hb

def pick2 (a b : Int) : Nat → Int
  | 0 => a
  | _ => b
theorem invalid2 (al ah bl bh : Int) (b cap : Nat) (w : World) (h0 : -9223372036854775808 ≤ al) (h1 : -9223372036854775808 ≤ bl) (hc0 : w.cell? ⟨b, 0, none⟩ = some (.int .i64 al)) (hc1 : w.cell? ⟨b, 1, none⟩ = some (.int .i64 ah))
    (hc2 : w.cell? ⟨b, 2, none⟩ = some (.int .i64 bl)) (hc3 : w.cell? ⟨b, 3, none⟩ = some (.int .i64 bh)) (hb : b < w.heap.size) (r : Bool) (hr : (vB al ah && vB bl bh) = !r) :
    Calls Try.prog 48 #[.slice (some ⟨b, 0, none⟩) 2 cap] w fun e w' => e = .returned (.bool r) ∧ Below w.heap.size w w' := by
  have hcs : ∀ i, i < 2 → w.cell? ⟨b, 0 + i * 2, none⟩ = some (.int .i64 (pick2 al bl i)) ∧ w.cell? ⟨b, 0 + i * 2 + 1, none⟩ = some (.int .i64 (pick2 ah bh i)) := by
    intro i hi
    match i, hi with
    | 0, _ => exact ⟨hc0, hc1⟩
    | 1, _ => exact ⟨hc2, hc3⟩
  cases r
  · have hr : vB al ah = true ∧ vB bl bh = true := by simpa using hr
    refine invalid_no (pick2 al bl) (pick2 ah bh) 2 b 0 cap (by omega) w (fun i hi => ?_) hcs (.inr hb)
    match i, hi with
    | 0, _ => exact hr.1
    | 1, _ => exact hr.2
  · have hL : ∀ i, i < 2 → -9223372036854775808 ≤ pick2 al bl i := fun i hi => by
      match i, hi with
      | 0, _ => exact h0
      | 1, _ => exact h1
    cases ha : vB al ah
    · exact invalid_yes (pick2 al bl) (pick2 ah bh) 2 0 b 0 cap (by omega) w (by omega) (fun i hi => by omega) ha hL hcs hb
    · have hb' : vB bl bh = false := by simpa [ha] using hr
      exact invalid_yes (pick2 al bl) (pick2 ah bh) 2 1 b 0 cap (by omega) w (by omega) (fun i hi => by (have h0i : i = 0 := by omega); subst h0i; exact ha) hb' hL hcs hb


theorem in_any (lo hi n : Int) (h0 : -9223372036854775808 ≤ lo) (w : World) :
    Calls Try.prog 52 #[.agg #[.int .i64 (lo), .int .i64 (hi)], .int .i64 n] w fun e w' => e = .returned (.bool (inB lo hi n)) ∧ Below w.heap.size w w' := by
  by_cases hv : vB lo hi = true
  · have HV := hide hv
    by_cases g1 : lo ≤ n
    · by_cases g2 : n ≤ hi
      · have HR := hide (show inB lo hi n = true by simp [inB, hv, g1, g2])
        clear hv
        go_enter Try.func52, Try.ntmps52
        go_wp2_with (go_at_call 48; refine (invalid1 lo hi _ _ _ h0 (by simp) (by simp) (by simp) false (by simpa using HV.out)).mono ?_; rintro e w1 ⟨rfl, hb1⟩; obtain ⟨hc1, hf1⟩ := bcell hb1; have hz1 := hb1.size)
        go_ret
        exact ⟨by rw [HR.out]; first | rfl | (simp; omega), (by repeat (first | with_reducible exact Below.refl _ _ | with_reducible refine bdrew ?_ | ((with_reducible first | refine bset ?_ ?_ | refine ball ?_ ?_ | refine bth (by assumption) ?_ ?_); first | omega | (simp <;> omega))))⟩
      · have HR := hide (show inB lo hi n = false by simp [inB, hv, g1, g2])
        clear hv
        go_enter Try.func52, Try.ntmps52
        go_wp2_with (go_at_call 48; refine (invalid1 lo hi _ _ _ h0 (by simp) (by simp) (by simp) false (by simpa using HV.out)).mono ?_; rintro e w1 ⟨rfl, hb1⟩; obtain ⟨hc1, hf1⟩ := bcell hb1; have hz1 := hb1.size)
        go_ret
        exact ⟨by rw [HR.out]; first | rfl | (simp; omega), (by repeat (first | with_reducible exact Below.refl _ _ | with_reducible refine bdrew ?_ | ((with_reducible first | refine bset ?_ ?_ | refine ball ?_ ?_ | refine bth (by assumption) ?_ ?_); first | omega | (simp <;> omega))))⟩
    · have HR := hide (show inB lo hi n = false by simp [inB, hv, g1])
      clear hv
      go_enter Try.func52, Try.ntmps52
      go_wp2_with (go_at_call 48; refine (invalid1 lo hi _ _ _ h0 (by simp) (by simp) (by simp) false (by simpa using HV.out)).mono ?_; rintro e w1 ⟨rfl, hb1⟩; obtain ⟨hc1, hf1⟩ := bcell hb1; have hz1 := hb1.size)
      go_ret
      exact ⟨by rw [HR.out]; first | rfl | (simp; omega), (by repeat (first | with_reducible exact Below.refl _ _ | with_reducible refine bdrew ?_ | ((with_reducible first | refine bset ?_ ?_ | refine ball ?_ ?_ | refine bth (by assumption) ?_ ?_); first | omega | (simp <;> omega))))⟩
  · have hv : vB lo hi = false := by simpa using hv
    have HV := hide hv
    have HR := hide (show inB lo hi n = false by simp [inB, hv])
    clear hv
    go_enter Try.func52, Try.ntmps52
    go_wp2_with (go_at_call 48; refine (invalid1 lo hi _ _ _ h0 (by simp) (by simp) (by simp) true (by simpa using HV.out)).mono ?_; rintro e w1 ⟨rfl, hb1⟩; obtain ⟨hc1, hf1⟩ := bcell hb1; have hz1 := hb1.size)
    go_ret
    exact ⟨by rw [HR.out]; first | rfl | (simp; omega), (by repeat (first | with_reducible exact Below.refl _ _ | with_reducible refine bdrew ?_ | ((with_reducible first | refine bset ?_ ?_ | refine ball ?_ ?_ | refine bth (by assumption) ?_ ?_); first | omega | (simp <;> omega))))⟩
end Go.Proofs.Ytfknnnlbfdeomaa
