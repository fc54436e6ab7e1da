/- Packed: TabEq LnA. -/
import Derived.Test.YtkkanjeamngdiaaDoorP9
import Derived.Test.YtkkanjeamngdiaaDoorP10
set_option linter.unusedVariables false
set_option linter.unusedSimpArgs false
namespace Go.Proofs.YtkkanjeamngdiaaDoor
section
open Go.RowKit
def Pt (x : Int) : Prop := -2305843009213693952 ≤ x ∧ x ≤ 2305843009213693952
theorem line_bd {n m : Nat} {at_ lo hi V : Nat → Int} (hR : Right n at_ lo hi) (hV : ∀ i, i < n → Pt (V i)) {x : Int} (hN : Next at_ n x m) : Pt (lnL V at_ n m x) ∧ Pt (lnH V at_ n m x) := by
 have hp := hR.pos
 unfold lnL lnH
 by_cases h1 : m = n
 ·rw [if_pos h1, if_pos h1]; exact ⟨hV _ (by omega), hV _ (by omega)⟩
 ·rw [if_neg h1, if_neg h1]
  by_cases h2 : m = 0
  ·rw [if_pos h2, if_pos h2]; exact ⟨hV _ (by omega), hV _ (by omega)⟩
  ·rw [if_neg h2, if_neg h2]
   obtain ⟨j, rfl⟩ : ∃ j, m = j + 1 := ⟨m - 1, by omega⟩
   rw [Nat.add_sub_cancel]
   have hle := hN.le
   have hst : ¬ at_ (j + 1) < x := by rcases hN.stop with h | h; exact absurd h h1; exact h
   have px := hN.before j (by omega)
   have hup := hR.up j (by omega)
   obtain ⟨a1, a2⟩ := hV j (by omega)
   obtain ⟨b1, b2⟩ := hV (j + 1) (by omega)
   have hw := way_bd (c := V (j + 1) - V j) (a := x - at_ j) (d := at_ (j + 1) - at_ j) (by omega) (by omega) (by omega)
   generalize (V (j + 1) - V j) * (x - at_ j) = P at *
   generalize P / (at_ (j + 1) - at_ j) = Q at *
   generalize cdiv P (at_ (j + 1) - at_ j) = R at *
   rcases Int.le_total 0 (V (j + 1) - V j) with h | h
   ·have := hw.1 h
    exact ⟨⟨by omega, by omega⟩, by omega, by omega⟩
   ·have := hw.2 h
    exact ⟨⟨by omega, by omega⟩, by omega, by omega⟩
theorem lkL_bd {at_ v : Nat → Int} {xl xh s : Int} (hs : Pt s) : ∀ k, (∀ i, i < k → Pt (v i)) → Pt (lkL at_ v xl xh s k) := by
 intro k
 induction k with
 | zero => intro _; exact hs
 | succ k ih =>
  intro h
  simp only [lkL]
  have := ih (fun i hi => h i (by omega))
  have := h k (by omega)
  split
  ·unfold mi; split <;> assumption
  ·assumption
theorem lkH_bd {at_ v : Nat → Int} {xl xh s : Int} (hs : Pt s) : ∀ k, (∀ i, i < k → Pt (v i)) → Pt (lkH at_ v xl xh s k) := by
 intro k
 induction k with
 | zero => intro _; exact hs
 | succ k ih =>
  intro h
  simp only [lkH]
  have := ih (fun i hi => h i (by omega))
  have := h k (by omega)
  split
  ·unfold mx; split <;> assumption
  ·assumption
noncomputable def tkL (n : Nat) (at_ lo : Nat → Int) (xl xh : Int) : Int := lkL at_ lo xl xh (mi (lnL lo at_ n (nxt at_ n xl) xl) (lnL lo at_ n (nxt at_ n xh) xh)) n
noncomputable def tkH (n : Nat) (at_ hi : Nat → Int) (xl xh : Int) : Int := lkH at_ hi xl xh (mx (lnH hi at_ n (nxt at_ n xl) xl) (lnH hi at_ n (nxt at_ n xh) xh)) n
theorem mi_pt {x y : Int} (hx : Pt x) (hy : Pt y) : Pt (mi x y) := by unfold mi; split <;> assumption
theorem mx_pt {x y : Int} (hx : Pt x) (hy : Pt y) : Pt (mx x y) := by unfold mx; split <;> assumption
def lkB (n : Nat) (at_ lo hi : Nat → Int) (xl xh : Int) : Bool := tabB n at_ lo hi && vB xl xh
theorem look_any (n cap : Nat) (A : Option Addr) (at_ lo hi : Nat → Int) (xl xh : Int) (ix : I64 xl) (w : World) (hT : 0 < n → ∃ ad, A = some ad ∧ Tab w ad n at_ lo hi) (hI : ∀ i, i < n → I64 (at_ i) ∧ I64 (lo i) ∧ I64 (hi i)) :
  Calls Tryd.prog 7 #[.slice A n cap, .agg #[.int .i64 (xl), .int .i64 (xh)]] w fun e w' => e = .returned (.tuple #[.agg #[.int .i64 (okI (lkB n at_ lo hi xl xh) (tkL n at_ lo xl xh)), .int .i64 (okI (lkB n at_ lo hi xl xh) (tkH n at_ hi xl xh))], .int .i64 (errE (lkB n at_ lo hi xl xh) 0)]) ∧ Below w.heap.size w w' := by
 cases hB : tabB n at_ lo hi
 ·have e : lkB n at_ lo hi xl xh = false := by simp [lkB, hB]
  rw [e, ok_f, ok_f, err_f]
  have CT := hide (fun W hW => checktable_any n cap A at_ lo hi W hW hI 2 (by rw [hB]; rfl))
  have hT2 : ∀ W, Below w.heap.size w W → 0 < n → ∃ ad, A = some ad ∧ Tab W ad n at_ lo hi := fun W hb h => by
   obtain ⟨ad, h1, h2⟩ := hT h
   exact ⟨ad, h1, h2.below hb⟩
  have HT2 := hide hT2
  clear hT2 hT hI e hB ix
  go_enter Tryd.func7, Tryd.ntmps7
  go_wp2_with fail
  refine (CT.out _ (HT2.out _ blw_)).mono ?_
  rintro e w1 ⟨rfl, hb1⟩
  obtain ⟨hc1, hf1⟩ := bcell hb1
  have hz1 := hb1.size
  try simp only [World.size_alloc, World.size_setCell] at hz1
  try refine zw2 w w1 (by omega) fun _ _ _ _ => ?_
  have c1_0_0 := zci w1 w.heap.size 0 (xl) (by go_simp)
  have c1_0_1 := zci w1 w.heap.size 1 (xh) (by go_simp)
  have c1_1_0 := zci w1 (w.heap.size + 1) 0 (0) (by go_simp)
  have g1_1_0 := zfe w1 (w.heap.size + 1) 0 (by go_simp)
  have c1_1_1 := zci w1 (w.heap.size + 1) 1 (0) (by go_simp)
  have g1_1_1 := zfe w1 (w.heap.size + 1) 1 (by go_simp)
  clear hc1 hf1
  go_wp2
  refine bodyPost_ret (v := .tuple #[.agg #[.int .i64 (0), .int .i64 (0)], .int .i64 2]) (by simp only [results, Tryd.results7]; go_simp) rfl ⟨rfl, blw_⟩
 ·obtain ⟨h1, h2, h3⟩ := tab_pt hB
  obtain ⟨ad, rfl, hT'⟩ := hT h1
  cases hv : vB xl xh
  ·have e : lkB n at_ lo hi xl xh = false := by simp [lkB, hv]
   rw [e, ok_f, ok_f, err_f]
   have CT := hide (fun W hW => checktable_any n cap (some ad) at_ lo hi W (fun _ => ⟨ad, rfl, hW⟩) hI 0 (by rw [hB]; rfl))
   have HT := hide hT'
   have HV := hide hv
   have h0 := ix.1
   clear hT hT' hI e hB ix hv h3
   go_enter Tryd.func7, Tryd.ntmps7
   go_wp2_with fail
   refine (CT.out _ (HT.out.below blw_)).mono ?_
   rintro e w1 ⟨rfl, hb1⟩
   obtain ⟨hc1, hf1⟩ := bcell hb1
   have hz1 := hb1.size
   try simp only [World.size_alloc, World.size_setCell] at hz1
   try refine zw2 w w1 (by omega) fun _ _ _ _ => ?_
   have c1_0_0 := zci w1 w.heap.size 0 (xl) (by go_simp)
   have c1_0_1 := zci w1 w.heap.size 1 (xh) (by go_simp)
   have c1_1_0 := zci w1 (w.heap.size + 1) 0 (0) (by go_simp)
   have g1_1_0 := zfe w1 (w.heap.size + 1) 0 (by go_simp)
   have c1_1_1 := zci w1 (w.heap.size + 1) 1 (0) (by go_simp)
   have g1_1_1 := zfe w1 (w.heap.size + 1) 1 (by go_simp)
   clear hc1 hf1
   go_wp2_with fail
   go_at_call 16
   refine (invalid1 xl xh _ _ _ h0 (by go_simp) (by go_simp) (by go_simp) true (by simpa using HV.out)).mono ?_
   rintro e w2 ⟨rfl, hb2⟩
   obtain ⟨hc2, hf2⟩ := bcell hb2
   have hz2 := hb2.size
   try simp only [World.size_alloc, World.size_setCell] at hz2
   try refine zw2 w w2 (by omega) fun _ _ _ _ => ?_
   have c2_0_0 := zci w2 w.heap.size 0 (xl) (by go_simp)
   have c2_0_1 := zci w2 w.heap.size 1 (xh) (by go_simp)
   have c2_1_0 := zci w2 (w.heap.size + 1) 0 (0) (by go_simp)
   have g2_1_0 := zfe w2 (w.heap.size + 1) 0 (by go_simp)
   have c2_1_1 := zci w2 (w.heap.size + 1) 1 (0) (by go_simp)
   have g2_1_1 := zfe w2 (w.heap.size + 1) 1 (by go_simp)
   clear hc2 hf2 c1_0_0 c1_0_1 c1_1_0 g1_1_0 c1_1_1 g1_1_1
   go_wp2
   refine bodyPost_ret (v := .tuple #[.agg #[.int .i64 (0), .int .i64 (0)], .int .i64 2]) (by simp only [results, Tryd.results7]; go_simp) rfl ⟨rfl, blw_⟩
  ·have e : lkB n at_ lo hi xl xh = true := by simp [lkB, hv, hB]
   rw [e, ok_t, ok_t, err_t]
   exact look_run n _ _ cap ad at_ lo hi hB xl xh ix hv (nxt_is at_ n xl) (nxt_is at_ n xh) w hT' hI _ _ rfl rfl
end
section
open Go.RowKit
namespace Ln
theorem mi_le (a b : Int) : mi a b ≤ a ∧ mi a b ≤ b := by unfold mi; split <;> omega
theorem mi_self (a : Int) : mi a a = a := by unfold mi; split <;> rfl
theorem lk_le {at_ v : Nat → Int} {xl xh s : Int} : ∀ k, lkL at_ v xl xh s k ≤ s ∧ ∀ i, i < k → xl ≤ at_ i → at_ i ≤ xh → lkL at_ v xl xh s k ≤ v i := by
 intro k
 induction k with
 | zero => exact ⟨Int.le_refl _, fun i h => by omega⟩
 | succ k ih =>
  obtain ⟨h1, h2⟩ := ih
  simp only [lkL]
  split
  ·rename_i c
   have := mi_le (lkL at_ v xl xh s k) (v k)
   refine ⟨by omega, fun i hi a b => ?_⟩
   rcases Nat.lt_or_ge i k with h | h
   ·have := h2 i h a b; omega
   ·obtain rfl : i = k := by omega
    omega
  ·rename_i c
   refine ⟨h1, fun i hi a b => ?_⟩
   rcases Nat.lt_or_ge i k with h | h
   ·exact h2 i h a b
   ·obtain rfl : i = k := by omega
    exact absurd ⟨a, b⟩ c
theorem lk_same {at_ v : Nat → Int} {x s : Int} : ∀ k, (∀ i, i < k → at_ i = x → v i = s) → lkL at_ v x x s k = s := by
 intro k
 induction k with
 | zero => intro _; rfl
 | succ k ih =>
  intro h
  simp only [lkL]
  rw [ih fun i hi => h i (by omega)]
  split
  ·rename_i c
   rw [h k (by omega) (by omega), mi_self]
  ·rfl
noncomputable def fL (at_ v : Nat → Int) (n : Nat) (x : Int) : Int := lnL v at_ n (nxt at_ n x) x
variable {n : Nat} {at_ lo hi : Nat → Int}
theorem f_is (v : Nat → Int) {x : Int} {m : Nat} (h : Next at_ n x m) : fL at_ v n x = lnL v at_ n m x := by
 unfold fL
 rw [(nxt_is at_ n x).uniq h]
theorem f_at (hR : Right n at_ lo hi) (v : Nat → Int) {i : Nat} (h : i < n) : fL at_ v n (at_ i) = v i := by
 rw [f_is v (next_at hR h)]
 exact (ln_at hR v h).1
theorem g_mono {a c d y z : Int} (hd : 0 < d) (hyz : y ≤ z) : (0 ≤ c → c * (y - a) / d ≤ c * (z - a) / d) ∧ (c ≤ 0 → c * (z - a) / d ≤ c * (y - a) / d) :=
 ⟨fun h => Int.ediv_le_ediv hd (Int.mul_le_mul_of_nonneg_left (by omega) h), fun h => Int.ediv_le_ediv hd (Int.mul_le_mul_of_nonpos_left h (by omega))⟩
theorem low (hR : Right n at_ lo hi) (v : Nat → Int) {xl xh x m : Int} (h1 : xl ≤ x) (h2 : x ≤ xh) (ml : m ≤ fL at_ v n xl) (mh : m ≤ fL at_ v n xh) (mi_ : ∀ i, i < n → xl ≤ at_ i → at_ i ≤ xh → m ≤ v i) : m ≤ fL at_ v n x := by
 obtain ⟨q, hq⟩ := next_ex at_ n x
 have hp := hR.pos
 rw [f_is v hq]
 unfold lnL
 by_cases hqn : q = n
 ·rw [if_pos hqn]
  have hb := hq.before (n - 1) (by omega)
  by_cases hx : xl ≤ at_ (n - 1)
  ·exact mi_ _ (by omega) hx (by omega)
  ·have hN : Next at_ n xl n := ⟨Nat.le_refl _, fun i hi => by
    rcases Nat.lt_or_ge i (n - 1) with c | c
    ·have := rises hR (n - 1 - i - 1) i (by omega)
     rw [show i + (n - 1 - i - 1) + 1 = n - 1 by omega] at this
     omega
    ·rw [show i = n - 1 by omega]; omega, .inl rfl⟩
   rw [f_is v hN] at ml
   unfold lnL at ml
   rwa [if_pos rfl] at ml
 ·rw [if_neg hqn]
  have hstop : x ≤ at_ q := by rcases hq.stop with c | c; exact absurd c hqn; omega
  have hqlt : q < n := by have := hq.le; omega
  by_cases hq0 : q = 0
  ·rw [if_pos hq0]
   subst hq0
   by_cases hx : at_ 0 ≤ xh
   ·exact mi_ _ hp (by omega) hx
   ·have hN : Next at_ n xh 0 := ⟨by omega, fun i hi => by omega, .inr (by omega)⟩
    rw [f_is v hN] at mh
    unfold lnL at mh
    rwa [if_neg (by omega), if_pos rfl] at mh
  ·rw [if_neg hq0]
   obtain ⟨j, rfl⟩ : ∃ j, q = j + 1 := ⟨q - 1, by omega⟩
   rw [Nat.add_sub_cancel]
   have hj := hq.before j (by omega)
   have hd : 0 < at_ (j + 1) - at_ j := by have := hR.up j hqlt; omega
   have hNb : ∀ y, at_ j < y → y ≤ at_ (j + 1) → Next at_ n y (j + 1) := fun y a b => ⟨by omega, fun i hi => by
    rcases Nat.lt_or_ge i j with c | c
    ·have := rises hR (j - i - 1) i (by omega)
     rw [show i + (j - i - 1) + 1 = j by omega] at this
     omega
    ·rw [show i = j by omega]; exact a, .inr (by omega)⟩
   have hg : ∀ y, at_ j < y → y ≤ at_ (j + 1) → fL at_ v n y = v j + (v (j + 1) - v j) * (y - at_ j) / (at_ (j + 1) - at_ j) := fun y a b => by
    rw [f_is v (hNb y a b)]
    unfold lnL
    rw [if_neg hqn, if_neg (by omega), Nat.add_sub_cancel]
   rcases Int.le_total 0 (v (j + 1) - v j) with hc | hc
   ·by_cases hx : xl ≤ at_ j
    ·have m1 := mi_ j (by omega) hx (by omega)
     have : 0 ≤ (v (j + 1) - v j) * (x - at_ j) / (at_ (j + 1) - at_ j) := Int.ediv_nonneg (Int.mul_nonneg hc (by omega)) (by omega)
     omega
    ·rw [hg xl (by omega) (by omega)] at ml
     have := (g_mono (a := at_ j) (c := v (j + 1) - v j) hd h1).1 hc
     omega
   ·by_cases hx : at_ (j + 1) ≤ xh
    ·have m1 := mi_ (j + 1) hqlt (by omega) hx
     have := (g_mono (a := at_ j) (c := v (j + 1) - v j) hd hstop).2 hc
     rw [Int.mul_ediv_cancel _ (by omega)] at this
     omega
    ·rw [hg xh (by omega) (by omega)] at mh
     have := (g_mono (a := at_ j) (c := v (j + 1) - v j) hd h2).2 hc
     omega
theorem tkL_same (hR : Right n at_ lo hi) (x : Int) : tkL n at_ lo x x = fL at_ lo n x := by
 unfold tkL
 rw [mi_self]
 exact lk_same n fun i hi e => by rw [← e]; exact (f_at hR lo hi).symm
theorem tkL_le (hR : Right n at_ lo hi) {xl xh x : Int} (h1 : xl ≤ x) (h2 : x ≤ xh) : tkL n at_ lo xl xh ≤ tkL n at_ lo x x := by
 rw [tkL_same hR]
 have := lk_le (at_ := at_) (v := lo) (xl := xl) (xh := xh) (s := mi (lnL lo at_ n (nxt at_ n xl) xl) (lnL lo at_ n (nxt at_ n xh) xh)) n
 have hm := mi_le (lnL lo at_ n (nxt at_ n xl) xl) (lnL lo at_ n (nxt at_ n xh) xh)
 exact low hR lo h1 h2 (Int.le_trans this.1 hm.1) (Int.le_trans this.1 hm.2) this.2
/- The upper line is the lower one of the negative numbers. -/
theorem ln_neg (v : Nat → Int) (m : Nat) (x : Int) : lnH v at_ n m x = -lnL (fun i => -v i) at_ n m x := by
 unfold lnH lnL cdiv
 try dsimp only
 split
 ·omega
 ·split
  ·omega
  ·have e : -((v m - v (m - 1)) * (x - at_ (m - 1))) = (-v m - -v (m - 1)) * (x - at_ (m - 1)) := by rw [← Int.neg_mul]; congr 1; omega
   rw [e]
   omega
theorem mx_neg (a b : Int) : mx a b = -mi (-a) (-b) := by unfold mx mi; split <;> split <;> omega
theorem lk_neg (v : Nat → Int) (xl xh s : Int) : ∀ k, lkH at_ v xl xh s k = -lkL at_ (fun i => -v i) xl xh (-s) k := by
 intro k
 induction k with
 | zero => simp [lkH, lkL]
 | succ k ih =>
  simp only [lkH, lkL]
  split
  ·rw [ih, mx_neg, Int.neg_neg]
  ·exact ih
theorem tk_neg (xl xh : Int) : tkH n at_ hi xl xh = -tkL n at_ (fun i => -hi i) xl xh := by
 unfold tkH tkL
 rw [lk_neg, ln_neg, ln_neg, mx_neg, Int.neg_neg, Int.neg_neg, Int.neg_neg]
theorem right_neg (hR : Right n at_ lo hi) : Right n at_ (fun i => -hi i) (fun i => -lo i) :=
 ⟨hR.pos, hR.few, hR.a, fun i h => by have := hR.h i h; omega, fun i h => by have := hR.l i h; omega, fun i h => by have := hR.lh i h; omega, hR.up⟩
theorem tkH_le (hR : Right n at_ lo hi) {xl xh x : Int} (h1 : xl ≤ x) (h2 : x ≤ xh) : tkH n at_ hi x x ≤ tkH n at_ hi xl xh := by
 rw [tk_neg, tk_neg]
 have := tkL_le (right_neg hR) h1 h2
 omega
theorem tk_at (hR : Right n at_ lo hi) {i : Nat} (h : i < n) : tkL n at_ lo (at_ i) (at_ i) = lo i ∧ tkH n at_ hi (at_ i) (at_ i) = hi i := by
 constructor
 ·rw [tkL_same hR, f_at hR lo h]
 ·rw [tk_neg, tkL_same (right_neg hR), f_at (right_neg hR) _ h, Int.neg_neg]
theorem way_le {l0 l1 h0 h1 a d : Int} (ha : 0 ≤ a) (had : a ≤ d) (hd : 0 < d) (e0 : l0 ≤ h0) (e1 : l1 ≤ h1) : l0 + (l1 - l0) * a / d ≤ h0 + cdiv ((h1 - h0) * a) d := by
 have f1 := Int.ediv_mul_le ((l1 - l0) * a) (show d ≠ 0 by omega)
 have f2 := Int.ediv_mul_le (-((h1 - h0) * a)) (show d ≠ 0 by omega)
 unfold cdiv
 generalize hA : (l1 - l0) * a / d = A at *
 generalize hB : -((h1 - h0) * a) / d = B at *
 rcases Int.lt_or_le (h0 + -B) (l0 + A) with c | c
 ·exfalso
  have p1 : 0 ≤ (h0 - l0) * (d - a) := Int.mul_nonneg (by omega) (by omega)
  have p2 : 0 ≤ (h1 - l1) * a := Int.mul_nonneg (by omega) ha
  have p3 : (h0 - B + 1) * d ≤ (l0 + A) * d := Int.mul_le_mul_of_nonneg_right (by omega) (by omega)
  have q1 : (h0 - l0) * (d - a) + (h1 - l1) * a = h0 * d + (h1 - h0) * a - (l0 * d + (l1 - l0) * a) := by grind
  have q2 : (h0 - B + 1) * d = h0 * d - B * d + d := by grind
  have q3 : (l0 + A) * d = l0 * d + A * d := by grind
  omega
 ·exact c
theorem f_le (hR : Right n at_ lo hi) (x : Int) : tkL n at_ lo x x ≤ tkH n at_ hi x x := by
 obtain ⟨q, hq⟩ := next_ex at_ n x
 have hp := hR.pos
 rw [tk_neg, tkL_same hR, tkL_same (right_neg hR), f_is lo hq, f_is _ hq, ← ln_neg]
 unfold lnL lnH
 by_cases hqn : q = n
 ·rw [if_pos hqn, if_pos hqn]; exact hR.lh _ (by omega)
 ·rw [if_neg hqn, if_neg hqn]
  have hstop : x ≤ at_ q := by rcases hq.stop with c | c; exact absurd c hqn; omega
  have hqlt : q < n := by have := hq.le; omega
  by_cases hq0 : q = 0
  ·rw [if_pos hq0, if_pos hq0]; exact hR.lh _ hp
  ·rw [if_neg hq0, if_neg hq0]
   obtain ⟨j, rfl⟩ : ∃ j, q = j + 1 := ⟨q - 1, by omega⟩
   rw [Nat.add_sub_cancel]
   have hj := hq.before j (by omega)
   have hd : 0 < at_ (j + 1) - at_ j := by have := hR.up j hqlt; omega
   exact way_le (by omega) (by omega) hd (hR.lh j (by omega)) (hR.lh (j + 1) hqlt)
theorem tk_pt (hR : Right n at_ lo hi) (xl xh : Int) : Pt (tkL n at_ lo xl xh) ∧ Pt (tkH n at_ hi xl xh) :=
 ⟨lkL_bd (mi_pt (line_bd hR hR.l (nxt_is at_ n xl)).1 (line_bd hR hR.l (nxt_is at_ n xh)).1) n hR.l, lkH_bd (mx_pt (line_bd hR hR.h (nxt_is at_ n xl)).2 (line_bd hR hR.h (nxt_is at_ n xh)).2) n hR.h⟩
theorem inside (hR : Right n at_ lo hi) {xl xh x : Int} (h1 : xl ≤ x) (h2 : x ≤ xh) : withinB (tkL n at_ lo x x) (tkH n at_ hi x x) (tkL n at_ lo xl xh) (tkH n at_ hi xl xh) = true := by
 have a := tkL_le hR h1 h2
 have b := tkH_le hR h1 h2
 have c := f_le hR x
 obtain ⟨⟨p1, p2⟩, p3, p4⟩ := tk_pt hR x x
 obtain ⟨⟨q1, q2⟩, q3, q4⟩ := tk_pt hR xl xh
 unfold withinB vB
 simp only [Bool.and_eq_true, decide_eq_true_eq]
 omega
end Ln
end
end Go.Proofs.YtkkanjeamngdiaaDoor
