/- Packed: Meet. -/
set_option linter.unusedVariables false
set_option linter.unusedSimpArgs false
namespace Go.Proofs.Ytfgfnjckklldbaa
section
namespace Meet
def cn : Nat → (Nat → Bool) → Nat
 | 0, _ => 0
 | n + 1, P => cn n P + (if P n then 1 else 0)
def sm : Nat → (Nat → Nat) → Nat
 | 0, _ => 0
 | n + 1, f => sm n f + f n
theorem cn_congr {n : Nat} {P Q : Nat → Bool} (h : ∀ t, t < n → P t = Q t) : cn n P = cn n Q := by
 induction n with
 | zero => rfl
 | succ n ih => simp only [cn, h n (Nat.lt_succ_self n), ih fun t ht => h t (by omega)]
theorem sm_congr {n : Nat} {P Q : Nat → Nat} (h : ∀ t, t < n → P t = Q t) : sm n P = sm n Q := by
 induction n with
 | zero => rfl
 | succ n ih => simp only [sm, h n (Nat.lt_succ_self n), ih fun t ht => h t (by omega)]
theorem cn_or {n : Nat} {P Q : Nat → Bool} (h : ∀ t, t < n → (P t && Q t) = false) : cn n (fun t => P t || Q t) = cn n P + cn n Q := by
 induction n with
 | zero => rfl
 | succ n ih =>
  have := h n (Nat.lt_succ_self n)
  simp only [cn, ih fun t ht => h t (by omega)]
  by_cases hp : P n = true <;> by_cases hq : Q n = true <;> simp_all <;> omega
theorem cn_none {n : Nat} {P : Nat → Bool} (h : ∀ t, t < n → P t = false) : cn n P = 0 := by
 induction n with
 | zero => rfl
 | succ n ih => simp [cn, h n (Nat.lt_succ_self n), ih fun t ht => h t (by omega)]
theorem cn_one {n : Nat} {P : Nat → Bool} {t0 : Nat} (h0 : t0 < n) (h1 : P t0 = true) (h : ∀ t, t < n → P t = true → t = t0) : cn n P = 1 := by
 induction n with
 | zero => omega
 | succ n ih =>
  by_cases e : t0 = n
  ·subst e
   rw [cn, cn_none (n := t0) fun t ht => ?_]
   ·simp [h1]
   ·cases hp : P t with
    | false => rfl
    | true => have := h t (by omega) hp; omega
  ·have e1 : P n = false := by
    cases hp : P n with
    | false => rfl
    | true => have := h n (by omega) hp; omega
   rw [cn, ih (by omega) fun t ht hp => h t (by omega) hp, e1]; rfl
theorem sm_add {n : Nat} {f g : Nat → Nat} : sm n (fun i => f i + g i) = sm n f + sm n g := by
 induction n with
 | zero => rfl
 | succ n ih => simp only [sm, ih]; omega
theorem sm_const {n c : Nat} : sm n (fun _ => c) = n * c := by
 induction n with
 | zero => simp [sm]
 | succ n ih => simp only [sm, ih, Nat.succ_mul]
theorem cn_sm {n : Nat} {P : Nat → Bool} : cn n P = sm n fun i => if P i then 1 else 0 := by
 induction n with
 | zero => rfl
 | succ n ih => simp only [cn, sm, ih]
theorem cn_pos {n : Nat} {P : Nat → Bool} {t : Nat} (ht : t < n) (h : P t = true) : 0 < cn n P := by
 induction n with
 | zero => omega
 | succ n ih =>
  by_cases e : t = n
  ·subst e; simp [cn, h]
  ·have := ih (by omega); simp only [cn]; omega
theorem cn_le {n : Nat} {P : Nat → Bool} : cn n P ≤ n := by
 induction n with
 | zero => exact Nat.le_refl _
 | succ n ih => simp only [cn]; split <;> omega
theorem bezout : ∀ (p q : Nat), ∃ x y : Int, (p : Int) * x + q * y = (Nat.gcd p q : Nat) := by
 intro p
 induction p using Nat.strongRecOn with
 | _ p ih =>
  intro q
  by_cases hp : p = 0
  ·subst hp; exact ⟨0, 1, by simp⟩
  ·obtain ⟨x, y, h⟩ := ih (q % p) (Nat.mod_lt _ (by omega)) p
   refine ⟨y - (q / p : Nat) * x, x, ?_⟩
   rw [Nat.gcd_rec p q, ← h]
   have e : (q : Int) = p * (q / p : Nat) + (q % p : Nat) := by exact_mod_cast (Nat.div_add_mod q p).symm
   generalize ((q / p : Nat) : Int) = a at *
   generalize ((q % p : Nat) : Int) = b at *
   rw [e, Int.mul_sub, Int.add_mul, Int.mul_assoc]
   omega
theorem mod_eq_iff {m x y : Int} : x % m = y % m ↔ m ∣ x - y := by
 rw [Int.emod_eq_emod_iff_emod_sub_eq_zero]; exact ⟨Int.dvd_of_emod_eq_zero, Int.emod_eq_zero_of_dvd⟩
theorem eq_of_dvd {m x y : Int} (h0 : 0 ≤ x) (h1 : x < m) (h2 : 0 ≤ y) (h3 : y < m) (h : m ∣ x - y) : x = y := by
 have := mod_eq_iff.2 h
 rwa [Int.emod_eq_of_lt h0 h1, Int.emod_eq_of_lt h2 h3] at this
theorem dvd_sub_mod {m c : Int} : m ∣ c - c % m := ⟨c / m, by have := Int.emod_add_mul_ediv c m; omega⟩
def lc (p q : Nat) : Nat := p / Nat.gcd p q * q
theorem lc_facts {p q : Nat} (hp : 0 < p) (hq : 0 < q) : 0 < Nat.gcd p q ∧ lc p q * Nat.gcd p q = p * q ∧ p ∣ lc p q ∧ q ∣ lc p q ∧ 0 < lc p q := by
 have hg : 0 < Nat.gcd p q := Nat.gcd_pos_of_pos_left q hp
 obtain ⟨a, ha⟩ := Nat.gcd_dvd_left p q
 obtain ⟨b, hb⟩ := Nat.gcd_dvd_right p q
 have e1 : p / Nat.gcd p q = a := by
  have := Nat.mul_div_cancel_left a hg
  rwa [← ha] at this
 have ha0 : 0 < a := by rcases Nat.eq_zero_or_pos a with h | h; · rw [h] at ha; simp at ha; omega
                        ·exact h
 refine ⟨hg, ?_, ?_, ?_, ?_⟩
 ·unfold lc; rw [e1, Nat.mul_right_comm, Nat.mul_comm a, ← ha]
 ·unfold lc; rw [e1]; exact ⟨b, by
   conv => lhs; rhs; rw [hb]
   conv => rhs; lhs; rw [ha]
   rw [← Nat.mul_assoc, Nat.mul_comm a]⟩
 ·unfold lc; exact ⟨_, Nat.mul_comm _ _⟩
 ·unfold lc; rw [e1]; exact Nat.mul_pos ha0 hq
theorem dvd_lc {p q : Nat} (hp : 0 < p) (hq : 0 < q) {d : Int} (h1 : (p : Int) ∣ d) (h2 : (q : Int) ∣ d) : ((lc p q : Nat) : Int) ∣ d := by
 obtain ⟨hg, hL, _, _, _⟩ := lc_facts hp hq
 obtain ⟨x, y, hb⟩ := bezout p q
 obtain ⟨a, rfl⟩ := h1
 obtain ⟨b, hb2⟩ := h2
 have hgi : ((Nat.gcd p q : Nat) : Int) ≠ 0 := by omega
 refine Int.dvd_of_mul_dvd_mul_right hgi ?_
 have hL' : ((lc p q : Nat) : Int) * (Nat.gcd p q : Nat) = p * q := by exact_mod_cast hL
 rw [hL', ← hb, Int.mul_add]
 refine Int.dvd_add ⟨b * x, ?_⟩ ⟨a * y, ?_⟩
 ·rw [hb2]; simp only [Int.mul_assoc, Int.mul_comm, Int.mul_left_comm]
 ·simp only [Int.mul_assoc, Int.mul_comm, Int.mul_left_comm]
theorem crt {p q : Nat} (hp : 0 < p) (hq : 0 < q) {u v : Int} (h : ((Nat.gcd p q : Nat) : Int) ∣ u - v) : ∃ t : Nat, t < lc p q ∧ (p : Int) ∣ t - u ∧ (q : Int) ∣ t - v := by
 obtain ⟨hg, hL, hpL, hqL, hL0⟩ := lc_facts hp hq
 obtain ⟨x, y, hb⟩ := bezout p q
 obtain ⟨k, hk⟩ := h
 have hL0' : (0 : Int) < (lc p q : Nat) := by omega
 obtain ⟨t, ht⟩ : ∃ t, t = (u - p * x * k) % (lc p q : Nat) := ⟨_, rfl⟩
 have t0 : 0 ≤ t := by rw [ht]; exact Int.emod_nonneg _ (by omega)
 have t1 : t < (lc p q : Nat) := by rw [ht]; exact Int.emod_lt_of_pos _ hL0'
 have td : ((lc p q : Nat) : Int) ∣ t - (u - p * x * k) := by
  rw [← mod_eq_iff, ht, Int.emod_emod_of_dvd _ (Int.dvd_refl _)]
 have tp : (p : Int) ∣ t - (u - p * x * k) := Int.dvd_trans (Int.natCast_dvd_natCast.2 hpL) td
 have tq : (q : Int) ∣ t - (u - p * x * k) := Int.dvd_trans (Int.natCast_dvd_natCast.2 hqL) td
 refine ⟨t.toNat, by omega, ?_, ?_⟩
 ·rw [Int.toNat_of_nonneg t0]
  have : t - u = (t - (u - p * x * k)) + p * (-(x * k)) := by rw [Int.mul_neg, Int.mul_assoc]; omega
  rw [this]; exact Int.dvd_add tp ⟨_, rfl⟩
 ·rw [Int.toNat_of_nonneg t0]
  have e : u - v = p * x * k + q * y * k := by rw [hk, ← hb, Int.add_mul]
  have : t - v = (t - (u - p * x * k)) + q * (y * k) := by rw [← Int.mul_assoc]; omega
  rw [this]; exact Int.dvd_add tq ⟨_, rfl⟩
theorem cong_g {p q : Nat} {t u v : Int} (h1 : (p : Int) ∣ t - u) (h2 : (q : Int) ∣ t - v) : ((Nat.gcd p q : Nat) : Int) ∣ u - v := by
 have a : ((Nat.gcd p q : Nat) : Int) ∣ t - u := Int.dvd_trans (Int.natCast_dvd_natCast.2 (Nat.gcd_dvd_left p q)) h1
 have b : ((Nat.gcd p q : Nat) : Int) ∣ t - v := Int.dvd_trans (Int.natCast_dvd_natCast.2 (Nat.gcd_dvd_right p q)) h2
 have : u - v = (t - v) - (t - u) := by omega
 rw [this]; exact Int.dvd_sub b a
def dv (m x : Int) : Bool := decide (x % m = 0)
theorem dv_iff {m x : Int} : dv m x = true ↔ m ∣ x := by
 unfold dv; rw [decide_eq_true_eq]; exact ⟨Int.dvd_of_emod_eq_zero, Int.emod_eq_zero_of_dvd⟩
theorem once {p q : Nat} (hp : 0 < p) (hq : 0 < q) (u v : Int) : cn (lc p q) (fun t => dv p (t - u) && dv q (t - v)) = if dv (Nat.gcd p q : Nat) (u - v) then 1 else 0 := by
 split
 ·rename_i h
  obtain ⟨t0, h0, h1, h2⟩ := crt hp hq (dv_iff.1 h)
  refine cn_one h0 (by rw [dv_iff.2 h1, dv_iff.2 h2]; rfl) fun t ht hh => ?_
  rw [Bool.and_eq_true, dv_iff, dv_iff] at hh
  have d1 : (p : Int) ∣ t - t0 := by have : (t : Int) - t0 = (t - u) - (t0 - u) := by omega
                                     rw [this]; exact Int.dvd_sub hh.1 h1
  have d2 : (q : Int) ∣ t - t0 := by have : (t : Int) - t0 = (t - v) - (t0 - v) := by omega
                                     rw [this]; exact Int.dvd_sub hh.2 h2
  have := eq_of_dvd (by omega) (by omega) (by omega) (by omega) (dvd_lc hp hq d1 d2)
  omega
 ·rename_i h
  refine cn_none fun t ht => ?_
  cases hh : (dv p (t - u) && dv q (t - v)) with
  | false => rfl
  | true =>
   rw [Bool.and_eq_true, dv_iff, dv_iff] at hh
   exact absurd (dv_iff.2 (cong_g hh.1 hh.2)) h
def hs (p : Int) (l : Nat) (f t : Int) : Bool := decide ((t - f) % p < l)
theorem hs_zero {p : Int} (hp : 0 < p) {f t : Int} : hs p 0 f t = false := by
 unfold hs; rw [decide_eq_false_iff_not]; have := Int.emod_nonneg (t - f) (Int.ne_of_gt hp); omega
theorem mod_is {p x : Int} {l : Nat} (h : (l : Int) < p) : x % p = l ↔ p ∣ x - l := by
 rw [← mod_eq_iff, Int.emod_eq_of_lt (by omega) h]
theorem hs_succ {p : Int} {l : Nat} (h : (l : Int) < p) (f t : Int) : hs p (l + 1) f t = (hs p l f t || dv p (t - (f + l))) ∧ (hs p l f t && dv p (t - (f + l))) = false := by
 have e : dv p (t - (f + l)) = decide ((t - f) % p = l) := by
  rw [Bool.eq_iff_iff, dv_iff, decide_eq_true_eq, mod_is h]
  rw [show t - (f + (l : Int)) = t - f - l by omega]
 rw [e]
 unfold hs
 by_cases h1 : (t - f) % p < l <;> by_cases h2 : (t - f) % p = l <;> by_cases h3 : (t - f) % p < ((l + 1 : Nat) : Int) <;> simp_all <;> omega
theorem pairs {p q : Nat} (hp : 0 < p) (hq : 0 < q) (fa fb : Int) : ∀ (la lb : Nat), la ≤ p → lb ≤ q →
  cn (lc p q) (fun t => hs p la fa t && hs q lb fb t) = sm la fun i => cn lb fun j => dv (Nat.gcd p q : Nat) (fa + i - (fb + j)) := by
 intro la lb
 have one : ∀ (u : Int) (lb : Nat), lb ≤ q → cn (lc p q) (fun t => dv p (t - u) && hs q lb fb t) = cn lb fun j => dv (Nat.gcd p q : Nat) (u - (fb + j)) := by
  intro u lb
  induction lb with
  | zero => intro _; exact cn_none fun t _ => by rw [hs_zero (by omega), Bool.and_false]
  | succ lb ih =>
   intro h
   have e := fun t : Nat => hs_succ (p := q) (l := lb) (by omega) fb t
   rw [cn_congr (Q := fun t : Nat => (dv p (t - u) && hs q lb fb t) || (dv p (t - u) && dv q (t - (fb + lb)))) fun t _ => by rw [(e t).1, Bool.and_or_distrib_left]]
   rw [cn_or fun t _ => ?_, ih (by omega), once hp hq]
   ·rfl
   ·have := (e t).2
    revert this
    cases dv p (t - u) <;> cases hs q lb fb t <;> cases dv q (t - (fb + lb)) <;> simp
 induction la with
 | zero => intro _ _; exact cn_none fun t _ => by rw [hs_zero (by omega), Bool.false_and]
 | succ la ih =>
  intro h hl
  have e := fun t : Nat => hs_succ (p := p) (l := la) (by omega) fa t
  rw [cn_congr (Q := fun t : Nat => (hs p la fa t && hs q lb fb t) || (dv p (t - (fa + la)) && hs q lb fb t)) fun t _ => by rw [(e t).1, Bool.and_or_distrib_right]]
  rw [cn_or fun t _ => ?_, ih (by omega) hl, one _ _ hl]
  ·rfl
  ·have := (e t).2
   revert this
   cases dv p (t - (fa + la)) <;> cases hs q lb fb t <;> cases hs p la fa t <;> simp
theorem cn_add {n m : Nat} {P : Nat → Bool} : cn (n + m) P = cn n P + cn m fun j => P (n + j) := by
 induction m with
 | zero => rfl
 | succ m ih => rw [← Nat.add_assoc, cn, ih, cn, Nat.add_assoc]
theorem cn_per {g k r : Nat} {P : Nat → Bool} (h : ∀ j, P (g + j) = P j) : cn (g * k + r) P = k * cn g P + cn r P := by
 induction k with
 | zero => simp
 | succ k ih =>
  rw [show g * (k + 1) + r = g + (g * k + r) by rw [Nat.mul_succ]; omega, cn_add, cn_congr (Q := P) fun j _ => h j, ih, Nat.succ_mul]; omega
theorem cn_full {g : Nat} (hg : 0 < g) (c : Int) : cn g (fun j => dv g (c - j)) = 1 := by
 have h0 := Int.emod_nonneg c (show (g : Int) ≠ 0 by omega)
 have h1 := Int.emod_lt_of_pos c (show (0 : Int) < g by omega)
 have h2 : (g : Int) ∣ c - c % g := dvd_sub_mod
 refine cn_one (t0 := (c % g).toNat) (by omega) (by rw [dv_iff, Int.toNat_of_nonneg h0]; exact h2) fun t ht hh => ?_
 rw [dv_iff] at hh
 have : (g : Int) ∣ t - c % g := by rw [show (t : Int) - c % g = (c - c % g) - (c - t) by omega]; exact Int.dvd_sub h2 hh
 have := eq_of_dvd (by omega) (by omega) h0 h1 this
 omega
theorem cn_some {g : Nat} (hg : 0 < g) (c : Int) {r : Nat} (hr : r ≤ g) : cn r (fun j => dv g (c - j)) = if c % g < r then 1 else 0 := by
 have h0 := Int.emod_nonneg c (show (g : Int) ≠ 0 by omega)
 have h1 := Int.emod_lt_of_pos c (show (0 : Int) < g by omega)
 have h2 : (g : Int) ∣ c - c % g := dvd_sub_mod
 have key : ∀ t : Nat, t < r → dv g (c - t) = true → (t : Int) = c % g := fun t ht hh => by
  rw [dv_iff] at hh
  have : (g : Int) ∣ t - c % g := by rw [show (t : Int) - c % g = (c - c % g) - (c - t) by omega]; exact Int.dvd_sub h2 hh
  exact eq_of_dvd (by omega) (by omega) h0 h1 this
 split
 ·rename_i h
  exact cn_one (t0 := (c % g).toNat) (by omega) (by rw [dv_iff, Int.toNat_of_nonneg h0]; exact h2) fun t ht hh => by have := key t ht hh; omega
 ·rename_i h
  refine cn_none fun t ht => ?_
  cases hh : dv g (c - t) with
  | false => rfl
  | true => have := key t ht hh; omega
theorem cn_dv {g : Nat} (hg : 0 < g) (c : Int) (l : Nat) : cn l (fun j => dv g (c - j)) = l / g + if c % g < (l % g : Nat) then 1 else 0 := by
 conv => lhs; rw [← Nat.div_add_mod l g]
 rw [cn_per fun j => ?_, cn_full hg, cn_some hg c (Nat.le_of_lt (Nat.mod_lt _ hg)), Nat.mul_one]
 rw [Bool.eq_iff_iff, dv_iff, dv_iff]
 rw [show c - ((g + j : Nat) : Int) = (c - j) - g by omega]
 exact ⟨fun h => by have := Int.dvd_add h (Int.dvd_refl g); rwa [Int.sub_add_cancel] at this, fun h => Int.dvd_sub h (Int.dvd_refl g)⟩
theorem cn_round {g : Nat} (hg : 0 < g) (c : Int) : ∀ r : Nat, r ≤ g → cn g (fun i => hs g r (-c) i) = r := by
 intro r
 induction r with
 | zero => intro _; exact cn_none fun t _ => hs_zero (by omega)
 | succ r ih =>
  intro h
  have e := fun t : Nat => hs_succ (p := g) (l := r) (by omega) (-c) t
  rw [cn_congr (Q := fun t : Nat => hs g r (-c) t || dv g (t - (-c + r))) fun t _ => (e t).1, cn_or fun t _ => (e t).2, ih (by omega)]
  congr 1
  rw [← cn_full hg (-c + r)]
  refine cn_congr fun j _ => ?_
  rw [Bool.eq_iff_iff, dv_iff, dv_iff]
  rw [show (j : Int) - (-c + r) = -((-c + r) - j) by omega, Int.dvd_neg]
def com (n low high : Int) : Int := max 0 (min n high - max 0 low)
theorem cn_range (low high : Int) : ∀ n : Nat, (cn n (fun i => decide (low ≤ i) && decide ((i : Int) < high)) : Int) = com n low high := by
 intro n
 unfold com
 induction n with
 | zero => simp only [cn]; omega
 | succ n ih =>
  simp only [cn]
  by_cases h1 : low ≤ n <;> by_cases h2 : (n : Int) < high <;> simp only [h1, h2, decide_true, decide_false, Bool.and_true, Bool.and_false, if_true, Bool.false_eq_true, if_false] <;> push_cast <;> omega
theorem arcs {g : Nat} (hg : 0 < g) (d : Int) {ra rb : Nat} (ha : ra < g) (hb : rb < g) :
  (cn ra (fun i => hs g rb d i) : Int) = com ra (d % g) (d % g + rb) + com ra (d % g - g) (d % g - g + rb) := by
 have h0 := Int.emod_nonneg d (show (g : Int) ≠ 0 by omega)
 have h1 := Int.emod_lt_of_pos d (show (0 : Int) < g by omega)
 rw [← cn_range, ← cn_range, ← Int.natCast_add, ← cn_or fun t ht => ?_]
 ·congr 1
  refine cn_congr fun t ht => ?_
  have e : ((t : Int) - d) % g = ((t : Int) - d % g) % g := by
   rw [mod_eq_iff, show (t : Int) - d - (t - d % g) = -(d - d % g) by omega, Int.dvd_neg]; exact dvd_sub_mod
  unfold hs
  rw [e]
  by_cases h : d % g ≤ t
  ·rw [Int.emod_eq_of_lt (by omega) (by omega)]
   rw [Bool.eq_iff_iff]; simp only [Bool.or_eq_true, Bool.and_eq_true, decide_eq_true_eq]; omega
  ·have e2 : ((t : Int) - d % g) % g = t - d % g + g := by
    rw [← Int.add_emod_right, Int.emod_eq_of_lt (by omega) (by omega)]
   rw [e2]
   rw [Bool.eq_iff_iff]; simp only [Bool.or_eq_true, Bool.and_eq_true, decide_eq_true_eq]; omega
 ·by_cases h : d % g ≤ t
  ·have : ¬ (t : Int) < d % g - g + rb := by omega
   simp [this]
  ·simp [h]
theorem often {p q : Nat} (hp : 0 < p) (hq : 0 < q) (fa fb : Int) {la lb : Nat} (ha : la ≤ p) (hb : lb ≤ q) :
  (cn (lc p q) (fun t => hs p la fa t && hs q lb fb t) : Int) =
   ((la / Nat.gcd p q * Nat.gcd p q * (lb / Nat.gcd p q) + la / Nat.gcd p q * (lb % Nat.gcd p q) + la % Nat.gcd p q * (lb / Nat.gcd p q) : Nat) : Int) +
   (com (la % Nat.gcd p q : Nat) ((fb - fa) % (Nat.gcd p q : Nat)) ((fb - fa) % (Nat.gcd p q : Nat) + (lb % Nat.gcd p q : Nat)) +
    com (la % Nat.gcd p q : Nat) ((fb - fa) % (Nat.gcd p q : Nat) - (Nat.gcd p q : Nat)) ((fb - fa) % (Nat.gcd p q : Nat) - (Nat.gcd p q : Nat) + (lb % Nat.gcd p q : Nat))) := by
 have hg := (lc_facts hp hq).1
 rw [pairs hp hq fa fb la lb ha hb]
 generalize Nat.gcd p q = g at *
 rw [← arcs hg (fb - fa) (Nat.mod_lt _ hg) (Nat.mod_lt _ hg), ← Int.natCast_add]
 congr 1
 have e1 : (sm la fun i => cn lb fun j => dv g (fa + i - (fb + j))) = sm la fun i => lb / g + if hs g (lb % g) (fb - fa) i then 1 else 0 := sm_congr fun i _ => by
  rw [cn_congr (Q := fun j : Nat => dv g (fa - fb + i - j)) fun j _ => by rw [show fa + (i : Int) - (fb + j) = fa - fb + i - j by omega], cn_dv hg]
  congr 1
  unfold hs
  rw [show (i : Int) - (fb - fa) = fa - fb + i by omega]
  simp only [decide_eq_true_eq]
 rw [e1, sm_add, sm_const, ← cn_sm]
 have e2 : cn la (fun i => hs g (lb % g) (fb - fa) i) = la / g * (lb % g) + cn (la % g) fun i => hs g (lb % g) (fb - fa) i := by
  conv => lhs; rw [← Nat.div_add_mod la g]
  rw [cn_per fun j => ?_]
  ·have := cn_round hg (-(fb - fa)) (lb % g) (Nat.le_of_lt (Nat.mod_lt _ hg))
   rw [Int.neg_neg] at this
   rw [this]
  ·unfold hs
   rw [show ((g + j : Nat) : Int) - (fb - fa) = (j : Int) - (fb - fa) + g by omega, Int.add_emod_right]
 rw [e2]
 have e3 : la * (lb / g) = la / g * g * (lb / g) + la % g * (lb / g) := by
  conv => lhs; rw [← Nat.div_add_mod la g, Nat.add_mul, Nat.mul_comm g]
 rw [e3]; omega
def Least (Q : Nat → Prop) : Option Nat → Prop
 | none => ∀ m, ¬ Q m
 | some n => Q n ∧ ∀ m, m < n → ¬ Q m
def ceil (x s : Nat) : Nat := (x + s - 1) / s
theorem ceil_facts {x s : Nat} (hs : 0 < s) : x ≤ ceil x s * s ∧ ceil x s * s < x + s := by
 unfold ceil
 have := Nat.div_add_mod (x + s - 1) s
 have h := Nat.mod_lt (x + s - 1) hs
 rw [Nat.mul_comm] at this
 omega
theorem ceil_le {x s m : Nat} (hs : 0 < s) (h : x ≤ m * s) : ceil x s ≤ m := by
 have := (ceil_facts (x := x) hs).2
 refine Nat.le_of_lt_succ (Nat.lt_of_mul_lt_mul_right (a := s) ?_)
 rw [Nat.succ_mul]; omega
def hit : Nat → Nat → Nat → Nat → Nat → Option Nat
 | 0, _, _, _, _ => none
 | k + 1, step, round, low, high =>
  if step % round = 0 then none
  else if ceil low (step % round) * (step % round) ≤ high then some (ceil low (step % round))
  else match hit k round (step % round) ((step % round - high % (step % round)) % (step % round)) ((step % round - low % (step % round)) % (step % round)) with
   | none => none
   | some r => some (ceil (low + r * round) (step % round))
def InArc (step round low high n : Nat) : Prop := low ≤ n * step % round ∧ n * step % round ≤ high
theorem in_iff {s round low high m : Nat} (hr : high < round) : InArc s round low high m ↔ ∃ k, k * round + low ≤ m * s ∧ m * s ≤ k * round + high := by
 unfold InArc
 have e := Nat.div_add_mod (m * s) round
 constructor
 ·rintro ⟨h1, h2⟩
  exact ⟨m * s / round, by rw [Nat.mul_comm]; omega, by rw [Nat.mul_comm (m * s / round)]; omega⟩
 ·rintro ⟨k, h1, h2⟩
  have : m * s % round = m * s - k * round := by
   have : m * s = (m * s - k * round) + round * k := by rw [Nat.mul_comm round]; omega
   conv => lhs; rw [this]
   rw [Nat.add_mul_mod_self_left, Nat.mod_eq_of_lt (by omega)]
  rw [this]; omega
theorem hit_least : ∀ (fuel step round low high : Nat), round ≤ fuel → 0 < low → low ≤ high → high < round → Least (InArc step round low high) (hit fuel step round low high) := by
 intro fuel
 induction fuel with
 | zero => intro step round low high h; omega
 | succ fuel ih =>
  intro step round low high hf h0 h1 h2
  have em : ∀ m, InArc step round low high m ↔ InArc (step % round) round low high m := fun m => by
   unfold InArc
   rw [show m * step % round = m * (step % round) % round by rw [Nat.mul_mod, Nat.mul_mod m (step % round), Nat.mod_mod]]
  have hs : step % round < round := Nat.mod_lt _ (by omega)
  unfold hit
  generalize hS : step % round = s at *
  split
  ·rename_i hz
   intro m hm
   rw [em, hz] at hm
   unfold InArc at hm
   simp at hm; omega
  ·rename_i hz
   have s0 : 0 < s := Nat.pos_of_ne_zero hz
   obtain ⟨c1, c2⟩ := ceil_facts (x := low) s0
   split
   ·rename_i hh
    refine ⟨(em _).2 ((in_iff h2).2 ⟨0, by omega, by omega⟩), fun m hm hi => ?_⟩
    rw [em] at hi
    unfold InArc at hi
    have : m * s + s ≤ ceil low s * s := by rw [← Nat.succ_mul]; exact Nat.mul_le_mul_right _ hm
    have := Nat.mod_le (m * s) round
    omega
   ·rename_i hh
    have dl := Nat.div_add_mod low s
    have dh := Nat.div_add_mod high s
    have ml := Nat.mod_lt low s0
    have mh := Nat.mod_lt high s0
    obtain ⟨N, hN⟩ : ∃ N, ceil low s = N := ⟨_, rfl⟩
    rw [hN] at c1 c2 hh
    have N1 : 0 < N := by rcases Nat.eq_zero_or_pos N with h | h; · subst h; omega
                          ·exact h
    obtain ⟨M, rfl⟩ : ∃ M, N = M + 1 := ⟨N - 1, by omega⟩
    rw [Nat.succ_mul] at c1 c2 hh
    -- low and high lie between M s and (M + 1) s
    have el : low / s = M := (Nat.div_eq_iff s0).2 ⟨by omega, by omega⟩
    have eh : high / s = M := (Nat.div_eq_iff s0).2 ⟨by omega, by omega⟩
    rw [el, Nat.mul_comm] at dl
    rw [eh, Nat.mul_comm] at dh
    generalize hA : low % s = l at *
    generalize hB : high % s = h at *
    have l0 : 0 < l := by omega
    rw [Nat.mod_eq_of_lt (a := s - h) (by omega), Nat.mod_eq_of_lt (a := s - l) (by omega)]
    have sub := ih round s (s - h) (s - l) (by omega) (by omega) (by omega) (by omega)
    have key : ∀ k, InArc round s (s - h) (s - l) k ↔ ∃ m, k * round + low ≤ m * s ∧ m * s ≤ k * round + high := by
     intro k
     unfold InArc
     have dk := Nat.div_add_mod (k * round) s
     have mk := Nat.mod_lt (k * round) s0
     generalize k * round % s = b at *
     generalize k * round / s = a at *
     constructor
     ·rintro ⟨k1, k2⟩
      refine ⟨a + M + 1, ?_, ?_⟩ <;> rw [Nat.add_mul, Nat.add_mul, Nat.one_mul, Nat.mul_comm a] <;> omega
     ·rintro ⟨m, k1, k2⟩
      have lo : a + M < m := Nat.lt_of_mul_lt_mul_right (a := s) (by rw [Nat.add_mul, Nat.mul_comm a]; omega)
      have hi : m < a + M + 2 := Nat.lt_of_mul_lt_mul_right (a := s) (by rw [Nat.add_mul, Nat.add_mul, Nat.mul_comm a]; omega)
      obtain rfl : m = a + M + 1 := by omega
      rw [Nat.add_mul, Nat.add_mul, Nat.one_mul, Nat.mul_comm a] at k1 k2
      omega
    have both : ∀ m, InArc step round low high m ↔ ∃ k, InArc round s (s - h) (s - l) k ∧ k * round + low ≤ m * s ∧ m * s ≤ k * round + high := fun m => by
     rw [em, in_iff h2]
     exact ⟨fun ⟨k, a, b⟩ => ⟨k, (key k).2 ⟨m, a, b⟩, a, b⟩, fun ⟨k, _, a, b⟩ => ⟨k, a, b⟩⟩
    split
    ·rename_i hr
     rw [hr] at sub
     exact fun m hm => by obtain ⟨k, hk, _⟩ := (both m).1 hm; exact sub k hk
    ·rename_i r hr
     rw [hr] at sub
     obtain ⟨q1, q2⟩ := sub
     obtain ⟨m, m1, m2⟩ := (key r).1 q1
     obtain ⟨e1, e2⟩ := ceil_facts (x := low + r * round) s0
     have le := ceil_le (x := low + r * round) (m := m) s0 (by omega)
     have := Nat.mul_le_mul_right s le
     refine ⟨(both _).2 ⟨r, q1, by omega, by omega⟩, fun m' hm hi => ?_⟩
     obtain ⟨k, k1, k2, k3⟩ := (both m').1 hi
     have : r ≤ k := by
      rcases Nat.lt_or_ge k r with h | h
      ·exact absurd k1 (q2 k h)
      ·exact h
     have := Nat.mul_le_mul_right round this
     have := ceil_le (x := low + r * round) (m := m') s0 (by omega)
     omega
theorem least_lt {step round low high n : Nat} (hr : 0 < round) (h : Least (InArc step round low high) (some n)) : n < round := by
 obtain ⟨h1, h2⟩ := h
 rcases Nat.lt_or_ge n round with k | k
 ·exact k
 ·refine absurd ?_ (h2 (n % round) (Nat.lt_of_lt_of_le (Nat.mod_lt _ hr) k))
  unfold InArc at *
  rwa [show n % round * step % round = n * step % round by rw [Nat.mul_mod, Nat.mod_mod, ← Nat.mul_mod]]
def start (p f t : Int) : Int := t + (-((t - f) % p)) % p
theorem start_facts {p : Int} (hp : 0 < p) (f t : Int) : t ≤ start p f t ∧ start p f t < t + p ∧ p ∣ start p f t - f ∧ ∀ s, t ≤ s → p ∣ s - f → ∃ n : Nat, s = start p f t + n * p := by
 unfold start
 have h0 := Int.emod_nonneg (-((t - f) % p)) (Int.ne_of_gt hp)
 have h1 := Int.emod_lt_of_pos (-((t - f) % p)) hp
 have d : p ∣ t + (-((t - f) % p)) % p - f := by
  have a := dvd_sub_mod (m := p) (c := -((t - f) % p))
  have b := dvd_sub_mod (m := p) (c := t - f)
  have : t + (-((t - f) % p)) % p - f = (t - f - (t - f) % p) - (-((t - f) % p) - (-((t - f) % p)) % p) := by omega
  rw [this]; exact Int.dvd_sub b a
 refine ⟨by omega, by omega, d, fun s hs hd => ?_⟩
 have hlt : t + (-((t - f) % p)) % p < t + p := by omega
 generalize t + (-((t - f) % p)) % p = st at *
 have : p ∣ s - st := by rw [show s - st = (s - f) - (st - f) by omega]; exact Int.dvd_sub hd d
 obtain ⟨k, hk⟩ := this
 have k0 : 0 ≤ k := by
  rcases Int.lt_or_le k 0 with h | h
  ·exfalso
   have : p * k ≤ p * (-1) := Int.mul_le_mul_of_nonneg_left (by omega) (by omega)
   omega
  ·exact h
 exact ⟨k.toNat, by rw [Int.toNat_of_nonneg k0, Int.mul_comm]; omega⟩
def opening (p : Nat) (f : Int) (q l : Nat) (g t : Int) : Option Int :=
 if (start p f t - g) % q < l then some (start p f t)
 else match hit q p q (q - ((start p f t - g) % q).toNat) (q - ((start p f t - g) % q).toNat + l - 1) with
  | none => none
  | some n => some (start p f t + n * p)
def Opens (p : Nat) (f : Int) (q l : Nat) (g t s : Int) : Prop := t ≤ s ∧ (p : Int) ∣ s - f ∧ hs q l g s = true
def First (Q : Int → Prop) : Option Int → Prop
 | none => ∀ s, ¬ Q s
 | some x => Q x ∧ ∀ s, Q s → x ≤ s
theorem add_mod {q : Nat} (hq : 0 < q) (a : Int) (b : Nat) : (a + b) % q = if a % q + (b % q : Nat) < q then a % q + (b % q : Nat) else a % q + (b % q : Nat) - q := by
 have h0 := Int.emod_nonneg a (show (q : Int) ≠ 0 by omega)
 have h1 := Int.emod_lt_of_pos a (show (0 : Int) < q by omega)
 have h2 : b % q < q := Nat.mod_lt _ hq
 rw [Int.add_emod, ← Int.natCast_emod]
 split
 ·exact Int.emod_eq_of_lt (by omega) (by omega)
 ·rw [← Int.sub_emod_right, Int.emod_eq_of_lt (by omega) (by omega)]
theorem opening_first {p q l : Nat} (hp : 0 < p) (hq : 0 < q) (h0 : 0 < l) (hl : l ≤ q) (f g t : Int) : First (Opens p f q l g t) (opening p f q l g t) := by
 obtain ⟨s1, s2, s3, s4⟩ := start_facts (show (0 : Int) < p by omega) f t
 unfold opening
 generalize start p f t = st at *
 have b0 := Int.emod_nonneg (st - g) (show (q : Int) ≠ 0 by omega)
 have b1 := Int.emod_lt_of_pos (st - g) (show (0 : Int) < q by omega)
 split
 ·rename_i h
  refine ⟨⟨s1, s3, by unfold hs; simpa using h⟩, fun s ⟨k1, k2, k3⟩ => ?_⟩
  obtain ⟨n, rfl⟩ := s4 s k1 k2
  have : (0 : Int) ≤ n * p := Int.mul_nonneg (by omega) (by omega)
  omega
 ·rename_i h
  obtain ⟨pl, hpl⟩ : ∃ pl : Nat, (st - g) % q = pl := ⟨((st - g) % q).toNat, (Int.toNat_of_nonneg b0).symm⟩
  have key : ∀ n : Nat, hs q l g (st + n * p) = true ↔ InArc p q (q - pl) (q - pl + l - 1) n := fun n => by
   unfold hs InArc
   rw [decide_eq_true_eq, show st + (n : Int) * p - g = (st - g) + ((n * p : Nat) : Int) by rw [Int.natCast_mul]; omega, add_mod hq, hpl]
   have := Nat.mod_lt (n * p) hq
   split <;> omega
  rw [hpl] at h ⊢
  rw [Int.toNat_natCast]
  have hh := hit_least q p q (q - pl) (q - pl + l - 1) (Nat.le_refl _) (by omega) (by omega) (by omega)
  split
  ·rename_i e
   rw [e] at hh
   intro s ⟨k1, k2, k3⟩
   obtain ⟨n, rfl⟩ := s4 s k1 k2
   exact hh n ((key n).1 k3)
  ·rename_i n e
   rw [e] at hh
   refine ⟨⟨?_, ?_, (key n).2 hh.1⟩, fun s ⟨k1, k2, k3⟩ => ?_⟩
   ·have : (0 : Int) ≤ n * p := Int.mul_nonneg (by omega) (by omega)
    omega
   ·rw [show st + (n : Int) * p - f = (st - f) + n * p by omega]
    exact Int.dvd_add s3 (Int.dvd_mul_left _ _)
   ·obtain ⟨m, rfl⟩ := s4 s k1 k2
    have : n ≤ m := by
     rcases Nat.lt_or_ge m n with k | k
     ·exact absurd ((key m).1 k3) (hh.2 m k)
     ·exact k
    have : (n : Int) * p ≤ m * p := Int.mul_le_mul_of_nonneg_right (by omega) (by omega)
    omega
def next (p la : Nat) (fa : Int) (q lb : Nat) (fb t : Int) : Int :=
 if hs p la fa t && hs q lb fb t then t
 else match opening p fa q lb fb t, opening q fb p la fa t with
  | none, some y => y
  | some x, none => x
  | some x, some y => min x y
  | none, none => 0
theorem begins {p : Nat} (hp : 0 < p) {l : Nat} {f s : Int} (h1 : hs p l f s = true) (h2 : hs p l f (s - 1) = false) : (p : Int) ∣ s - f := by
 unfold hs at *
 rw [decide_eq_true_eq] at h1
 rw [decide_eq_false_iff_not] at h2
 have a0 := Int.emod_nonneg (s - f) (show (p : Int) ≠ 0 by omega)
 have a1 := Int.emod_lt_of_pos (s - f) (show (0 : Int) < p by omega)
 rcases Int.lt_or_le 0 ((s - f) % p) with h | h
 ·exfalso
  have : (s - 1 - f) % p = (s - f) % p - 1 := by
   have e : (s - 1 - f) % p = ((s - f) % p - 1) % p := by rw [show s - 1 - f = s - f - 1 by omega, Int.emod_sub_emod]
   rw [e, Int.emod_eq_of_lt (by omega) (by omega)]
  omega
 ·exact Int.dvd_of_emod_eq_zero (by omega)
theorem next_first {p q la lb : Nat} (hp : 0 < p) (hq : 0 < q) (ha0 : 0 < la) (ha : la ≤ p) (hb0 : 0 < lb) (hb : lb ≤ q) (fa fb t : Int)
  (hex : ∃ s, t ≤ s ∧ hs p la fa s = true ∧ hs q lb fb s = true) :
  t ≤ next p la fa q lb fb t ∧ hs p la fa (next p la fa q lb fb t) = true ∧ hs q lb fb (next p la fa q lb fb t) = true ∧ ∀ s, t ≤ s → hs p la fa s = true → hs q lb fb s = true → next p la fa q lb fb t ≤ s := by
 unfold next
 split
 ·rename_i h
  rw [Bool.and_eq_true] at h
  exact ⟨Int.le_refl _, h.1, h.2, fun s hs _ _ => hs⟩
 ·rename_i hnot
  have oa := opening_first (l := lb) hp hq hb0 hb fa fb t
  have ob := opening_first (l := la) hq hp ha0 ha fb fa t
  have self : ∀ {m : Nat} {f s : Int} {l : Nat}, 0 < m → 0 < l → (m : Int) ∣ s - f → hs m l f s = true := fun hm hl hd => by
   unfold hs; rw [decide_eq_true_eq, Int.emod_eq_zero_of_dvd hd]; omega
  -- from any meeting back to an opening that is not later
  have back : ∀ (k : Nat) (s : Int), s = t + k → hs p la fa s = true → hs q lb fb s = true → ∃ s', s' ≤ s ∧ (Opens p fa q lb fb t s' ∨ Opens q fb p la fa t s') := by
   intro k
   induction k with
   | zero =>
    intro s hs1 h1 h2
    obtain rfl : s = t := by omega
    rw [h1, h2] at hnot; exact absurd rfl hnot
   | succ k ih =>
    intro s hs1 h1 h2
    cases e1 : hs p la fa (s - 1) with
    | false => exact ⟨s, Int.le_refl _, .inl ⟨by omega, begins hp h1 e1, h2⟩⟩
    | true => cases e2 : hs q lb fb (s - 1) with
     | false => exact ⟨s, Int.le_refl _, .inr ⟨by omega, begins hq h2 e2, h1⟩⟩
     | true =>
      obtain ⟨s', k1, k2⟩ := ih (s - 1) (by omega) e1 e2
      exact ⟨s', by omega, k2⟩
  obtain ⟨s0, k1, k2, k3⟩ := hex
  obtain ⟨s', _, h0⟩ := back (s0 - t).toNat s0 (by omega) k2 k3
  have bk : ∀ s, t ≤ s → hs p la fa s = true → hs q lb fb s = true → ∃ s', s' ≤ s ∧ (Opens p fa q lb fb t s' ∨ Opens q fb p la fa t s') := fun s h1 h2 h3 => back (s - t).toNat s (by omega) h2 h3
  split
  ·rename_i y e1 e2
   rw [e1] at oa; rw [e2] at ob
   obtain ⟨⟨o1, o2, o3⟩, o4⟩ := ob
   refine ⟨o1, o3, self hq hb0 o2, fun s h1 h2 h3 => ?_⟩
   obtain ⟨s', m1, m2 | m2⟩ := bk s h1 h2 h3
   ·exact absurd m2 (oa s')
   ·have := o4 s' m2; omega
  ·rename_i x e1 e2
   rw [e1] at oa; rw [e2] at ob
   obtain ⟨⟨o1, o2, o3⟩, o4⟩ := oa
   refine ⟨o1, self hp ha0 o2, o3, fun s h1 h2 h3 => ?_⟩
   obtain ⟨s', m1, m2 | m2⟩ := bk s h1 h2 h3
   ·have := o4 s' m2; omega
   ·exact absurd m2 (ob s')
  ·rename_i x y e1 e2
   rw [e1] at oa; rw [e2] at ob
   obtain ⟨⟨o1, o2, o3⟩, o4⟩ := oa
   obtain ⟨⟨r1, r2, r3⟩, r4⟩ := ob
   have last : ∀ s, t ≤ s → hs p la fa s = true → hs q lb fb s = true → min x y ≤ s := fun s h1 h2 h3 => by
    obtain ⟨s', m1, m2 | m2⟩ := bk s h1 h2 h3
    ·have := o4 s' m2; omega
    ·have := r4 s' m2; omega
   rcases Int.le_total x y with h | h
   ·rw [Int.min_eq_left h] at last ⊢; exact ⟨o1, self hp ha0 o2, o3, last⟩
   ·rw [Int.min_eq_right h] at last ⊢; exact ⟨r1, r3, self hq hb0 r2, last⟩
  ·rename_i e1 e2
   rw [e1] at oa; rw [e2] at ob
   rcases h0 with h | h
   ·exact absurd h (oa s')
   ·exact absurd h (ob s')
theorem hs_mod {p L : Nat} (h : p ∣ L) (l : Nat) (f s : Int) : hs p l f (s % L) = hs p l f s := by
 unfold hs
 have : (s % L - f) % p = (s - f) % p := by
  rw [mod_eq_iff, show s % L - f - (s - f) = -(s - s % L) by omega, Int.dvd_neg]
  exact Int.dvd_trans (Int.natCast_dvd_natCast.2 h) dvd_sub_mod
 rw [this]
theorem hs_add {p L : Nat} (h : p ∣ L) (l : Nat) (f s : Int) : hs p l f (s + L) = hs p l f s := by
 rw [← hs_mod h, Int.add_emod_right, hs_mod h]
theorem meets_iff {p q : Nat} (hp : 0 < p) (hq : 0 < q) (la lb : Nat) (fa fb t : Int) :
  (∃ s, t ≤ s ∧ hs p la fa s = true ∧ hs q lb fb s = true) ↔ 0 < cn (lc p q) (fun t => hs p la fa t && hs q lb fb t) := by
 obtain ⟨hg, hL, hpL, hqL, hL0⟩ := lc_facts hp hq
 have hLi : (0 : Int) < (lc p q : Nat) := by omega
 constructor
 ·rintro ⟨s, _, h1, h2⟩
  have a0 := Int.emod_nonneg s (Int.ne_of_gt hLi)
  have a1 := Int.emod_lt_of_pos s hLi
  refine cn_pos (t := (s % (lc p q : Nat)).toNat) (by omega) ?_
  rw [Int.toNat_of_nonneg a0, hs_mod hpL, hs_mod hqL, h1, h2]; rfl
 ·intro h
  obtain ⟨s, hs1⟩ : ∃ s : Nat, (hs p la fa s && hs q lb fb s) = true := by
   refine Classical.byContradiction fun hn => ?_
   rw [cn_none fun t _ => ?_] at h
   ·omega
   ·cases e : (hs p la fa t && hs q lb fb t) with
    | false => rfl
    | true => exact absurd ⟨t, e⟩ hn
  rw [Bool.and_eq_true] at hs1
  refine ⟨t + ((s : Int) - t) % (lc p q : Nat), ?_, ?_, ?_⟩
  ·have := Int.emod_nonneg ((s : Int) - t) (Int.ne_of_gt hLi); omega
  all_goals
   have e : (t + ((s : Int) - t) % (lc p q : Nat)) % (lc p q : Nat) = (s : Int) % (lc p q : Nat) := by
    rw [Int.add_emod_emod]; congr 1; omega
  ·rw [← hs_mod hpL, e, hs_mod hpL]; exact hs1.1
  ·rw [← hs_mod hqL, e, hs_mod hqL]; exact hs1.2
theorem lc_comm (p q : Nat) (hp : 0 < p) (hq : 0 < q) : lc p q = lc q p := by
 obtain ⟨hg, hL, _⟩ := lc_facts hp hq
 obtain ⟨hg', hL', _⟩ := lc_facts hq hp
 rw [Nat.gcd_comm] at hL'
 exact Nat.eq_of_mul_eq_mul_right hg (by rw [hL, hL', Nat.mul_comm])
end Meet
end
end Go.Proofs.Ytfgfnjckklldbaa
