/- Packed: TabEq. -/
import Derived.Test.YtcjlpgmhlghdkaaGreatP19
import Derived.Test.YtcjlpgmhlghdkaaGreatP20
set_option linter.unusedVariables false
set_option linter.unusedSimpArgs false
namespace Go.Proofs.YtcjlpgmhlghdkaaGreat
section
open Go.RowKit
theorem pls_ne (at_ : Nat → Int) (xl xh : Int) (k : Nat) : pls at_ xl xh k ≠ [] := by
 intro e
 have := (pls_len at_ xl xh k).1
 rw [e] at this
 simp at this
theorem mn_lk {n : Nat} {at_ lo hi : Nat → Int} (hR : Right n at_ lo hi) (xl xh : Int) : ∀ k, k ≤ n → mnOf (fun p => lnL lo at_ n (nxt at_ n p) p) (pls at_ xl xh k) = lkL at_ lo xl xh (mi (lnL lo at_ n (nxt at_ n xl) xl) (lnL lo at_ n (nxt at_ n xh) xh)) k := by
 intro k
 induction k with
 | zero => intro _; rfl
 | succ k ih =>
  intro hk
  have ih := ih (by omega)
  by_cases c : xl ≤ at_ k ∧ at_ k ≤ xh
  ·simp only [pls, lkL]
   rw [if_pos c, if_pos c, mnOf_snoc _ _ _ (pls_ne _ _ _ _), ih]
   have e := (next_at hR (i := k) (by omega)).uniq (nxt_is at_ n (at_ k))
   have := (ln_at hR lo (i := k) (by omega)).1
   rw [e] at this
   rw [← e] at this
   rw [← e, (ln_at hR lo (i := k) (by omega)).1]
  ·simp only [pls, lkL]
   rw [if_neg c, if_neg c, ih]
theorem mx_lk {n : Nat} {at_ lo hi : Nat → Int} (hR : Right n at_ lo hi) (xl xh : Int) : ∀ k, k ≤ n → mxOf (fun p => lnH hi at_ n (nxt at_ n p) p) (pls at_ xl xh k) = lkH at_ hi xl xh (mx (lnH hi at_ n (nxt at_ n xl) xl) (lnH hi at_ n (nxt at_ n xh) xh)) k := by
 intro k
 induction k with
 | zero => intro _; rfl
 | succ k ih =>
  intro hk
  have ih := ih (by omega)
  by_cases c : xl ≤ at_ k ∧ at_ k ≤ xh
  ·simp only [pls, lkH]
   rw [if_pos c, if_pos c, mxOf_snoc _ _ _ (pls_ne _ _ _ _), ih]
   have e := (next_at hR (i := k) (by omega)).uniq (nxt_is at_ n (at_ k))
   rw [← e, (ln_at hR hi (i := k) (by omega)).2]
  ·simp only [pls, lkH]
   rw [if_neg c, if_neg c, ih]
def Pt (x : Int) : Prop := -2305843009213693952 ≤ x ∧ x ≤ 2305843009213693952
theorem line_bd {n m : Nat} {at_ lo hi V : Nat → Int} (hR : Right n at_ lo hi) (hV : ∀ i, i < n → Pt (V i)) {x : Int} (hN : Next at_ n x m) : Pt (lnL V at_ n m x) ∧ Pt (lnH V at_ n m x) := by
 have hp := hR.pos
 unfold lnL lnH
 by_cases h1 : m = n
 ·rw [if_pos h1, if_pos h1]; exact ⟨hV _ (by omega), hV _ (by omega)⟩
 ·rw [if_neg h1, if_neg h1]
  by_cases h2 : m = 0
  ·rw [if_pos h2, if_pos h2]; exact ⟨hV _ (by omega), hV _ (by omega)⟩
  ·rw [if_neg h2, if_neg h2]
   obtain ⟨j, rfl⟩ : ∃ j, m = j + 1 := ⟨m - 1, by omega⟩
   rw [Nat.add_sub_cancel]
   have hle := hN.le
   have hst : ¬ at_ (j + 1) < x := by rcases hN.stop with h | h; exact absurd h h1; exact h
   have px := hN.before j (by omega)
   have hup := hR.up j (by omega)
   obtain ⟨a1, a2⟩ := hV j (by omega)
   obtain ⟨b1, b2⟩ := hV (j + 1) (by omega)
   have hw := way_bd (c := V (j + 1) - V j) (a := x - at_ j) (d := at_ (j + 1) - at_ j) (by omega) (by omega) (by omega)
   generalize (V (j + 1) - V j) * (x - at_ j) = P at *
   generalize P / (at_ (j + 1) - at_ j) = Q at *
   generalize cdiv P (at_ (j + 1) - at_ j) = R at *
   rcases Int.le_total 0 (V (j + 1) - V j) with h | h
   ·have := hw.1 h
    exact ⟨⟨by omega, by omega⟩, by omega, by omega⟩
   ·have := hw.2 h
    exact ⟨⟨by omega, by omega⟩, by omega, by omega⟩
theorem lkL_bd {at_ v : Nat → Int} {xl xh s : Int} (hs : Pt s) : ∀ k, (∀ i, i < k → Pt (v i)) → Pt (lkL at_ v xl xh s k) := by
 intro k
 induction k with
 | zero => intro _; exact hs
 | succ k ih =>
  intro h
  simp only [lkL]
  have := ih (fun i hi => h i (by omega))
  have := h k (by omega)
  split
  ·unfold mi; split <;> assumption
  ·assumption
theorem lkH_bd {at_ v : Nat → Int} {xl xh s : Int} (hs : Pt s) : ∀ k, (∀ i, i < k → Pt (v i)) → Pt (lkH at_ v xl xh s k) := by
 intro k
 induction k with
 | zero => intro _; exact hs
 | succ k ih =>
  intro h
  simp only [lkH]
  have := ih (fun i hi => h i (by omega))
  have := h k (by omega)
  split
  ·unfold mx; split <;> assumption
  ·assumption
noncomputable def tkL (n : Nat) (at_ lo : Nat → Int) (xl xh : Int) : Int := lkL at_ lo xl xh (mi (lnL lo at_ n (nxt at_ n xl) xl) (lnL lo at_ n (nxt at_ n xh) xh)) n
noncomputable def tkH (n : Nat) (at_ hi : Nat → Int) (xl xh : Int) : Int := lkH at_ hi xl xh (mx (lnH hi at_ n (nxt at_ n xl) xl) (lnH hi at_ n (nxt at_ n xh) xh)) n
theorem mi_pt {x y : Int} (hx : Pt x) (hy : Pt y) : Pt (mi x y) := by unfold mi; split <;> assumption
theorem mx_pt {x y : Int} (hx : Pt x) (hy : Pt y) : Pt (mx x y) := by unfold mx; split <;> assumption
theorem tk_out {n : Nat} {at_ lo hi : Nat → Int} (hR : Right n at_ lo hi) (xl xh : Int) :
  oLo (mnOf (fun p => lnL lo at_ n (nxt at_ n p) p) (pls at_ xl xh n)) (mxOf (fun p => lnH hi at_ n (nxt at_ n p) p) (pls at_ xl xh n)) = tkL n at_ lo xl xh ∧ oHi (mnOf (fun p => lnL lo at_ n (nxt at_ n p) p) (pls at_ xl xh n)) (mxOf (fun p => lnH hi at_ n (nxt at_ n p) p) (pls at_ xl xh n)) = tkH n at_ hi xl xh ∧ oE (mnOf (fun p => lnL lo at_ n (nxt at_ n p) p) (pls at_ xl xh n)) (mxOf (fun p => lnH hi at_ n (nxt at_ n p) p) (pls at_ xl xh n)) = 0 := by
 rw [mn_lk hR xl xh n (Nat.le_refl _), mx_lk hR xl xh n (Nat.le_refl _)]
 change oLo (tkL n at_ lo xl xh) (tkH n at_ hi xl xh) = _ ∧ oHi (tkL n at_ lo xl xh) (tkH n at_ hi xl xh) = _ ∧ oE (tkL n at_ lo xl xh) (tkH n at_ hi xl xh) = _
 have b1 : Pt (tkL n at_ lo xl xh) := lkL_bd (mi_pt (line_bd hR hR.l (nxt_is at_ n xl)).1 (line_bd hR hR.l (nxt_is at_ n xh)).1) n hR.l
 have b2 : Pt (tkH n at_ hi xl xh) := lkH_bd (mx_pt (line_bd hR hR.h (nxt_is at_ n xl)).2 (line_bd hR hR.h (nxt_is at_ n xh)).2) n hR.h
 obtain ⟨_, _⟩ := b1
 obtain ⟨_, _⟩ := b2
 exact out_t (decide_eq_true (by omega))
def lkB (n : Nat) (at_ lo hi : Nat → Int) (xl xh : Int) : Bool := tabB n at_ lo hi && vB xl xh
theorem look_any (n cap : Nat) (A : Option Addr) (at_ lo hi : Nat → Int) (xl xh : Int) (ix : I64 xl) (w : World) (hT : 0 < n → ∃ ad, A = some ad ∧ Tab w ad n at_ lo hi) (hI : ∀ i, i < n → I64 (at_ i) ∧ I64 (lo i) ∧ I64 (hi i)) :
  Calls Tryz.prog 73 #[.slice A n cap, .agg #[.int .i64 (xl), .int .i64 (xh)]] w fun e w' => e = .returned (.tuple #[.agg #[.int .i64 (okI (lkB n at_ lo hi xl xh) (tkL n at_ lo xl xh)), .int .i64 (okI (lkB n at_ lo hi xl xh) (tkH n at_ hi xl xh))], .int .i64 (errE (lkB n at_ lo hi xl xh) 0)]) ∧ Below w.heap.size w w' := by
 cases hB : tabB n at_ lo hi
 ·have e : lkB n at_ lo hi xl xh = false := by simp [lkB, hB]
  rw [e, ok_f, ok_f, err_f]
  have CT := hide (fun W hW => checktable_any n cap A at_ lo hi W hW hI 2 (by rw [hB]; rfl))
  have hT2 : ∀ W, Below w.heap.size w W → 0 < n → ∃ ad, A = some ad ∧ Tab W ad n at_ lo hi := fun W hb h => by
   obtain ⟨ad, h1, h2⟩ := hT h
   exact ⟨ad, h1, h2.below hb⟩
  have HT2 := hide hT2
  clear hT2 hT hI e hB ix
  go_enter Tryz.func73, Tryz.ntmps73
  go_wp2_with fail
  refine (CT.out _ (HT2.out _ blw_)).mono ?_
  rintro e w1 ⟨rfl, hb1⟩
  obtain ⟨hc1, hf1⟩ := bcell hb1
  have hz1 := hb1.size
  try simp only [World.size_alloc, World.size_setCell] at hz1
  try refine zw2 w w1 (by omega) fun _ _ _ _ => ?_
  have c1_0_0 := zci w1 w.heap.size 0 (xl) (by go_simp)
  have c1_0_1 := zci w1 w.heap.size 1 (xh) (by go_simp)
  have c1_1_0 := zci w1 (w.heap.size + 1) 0 (0) (by go_simp)
  have g1_1_0 := zfe w1 (w.heap.size + 1) 0 (by go_simp)
  have c1_1_1 := zci w1 (w.heap.size + 1) 1 (0) (by go_simp)
  have g1_1_1 := zfe w1 (w.heap.size + 1) 1 (by go_simp)
  clear hc1 hf1
  go_wp2
  refine bodyPost_ret (v := .tuple #[.agg #[.int .i64 (0), .int .i64 (0)], .int .i64 2]) (by simp only [results, Tryz.results73]; go_simp) rfl ⟨rfl, blw_⟩
 ·obtain ⟨h1, h2, h3⟩ := tab_pt hB
  obtain ⟨ad, rfl, hT'⟩ := hT h1
  cases hv : vB xl xh
  ·have e : lkB n at_ lo hi xl xh = false := by simp [lkB, hv]
   rw [e, ok_f, ok_f, err_f]
   have CT := hide (fun W hW => checktable_any n cap (some ad) at_ lo hi W (fun _ => ⟨ad, rfl, hW⟩) hI 0 (by rw [hB]; rfl))
   have HT := hide hT'
   have HV := hide hv
   have h0 := ix.1
   clear hT hT' hI e hB ix hv h3
   go_enter Tryz.func73, Tryz.ntmps73
   go_wp2_with fail
   refine (CT.out _ (HT.out.below blw_)).mono ?_
   rintro e w1 ⟨rfl, hb1⟩
   obtain ⟨hc1, hf1⟩ := bcell hb1
   have hz1 := hb1.size
   try simp only [World.size_alloc, World.size_setCell] at hz1
   try refine zw2 w w1 (by omega) fun _ _ _ _ => ?_
   have c1_0_0 := zci w1 w.heap.size 0 (xl) (by go_simp)
   have c1_0_1 := zci w1 w.heap.size 1 (xh) (by go_simp)
   have c1_1_0 := zci w1 (w.heap.size + 1) 0 (0) (by go_simp)
   have g1_1_0 := zfe w1 (w.heap.size + 1) 0 (by go_simp)
   have c1_1_1 := zci w1 (w.heap.size + 1) 1 (0) (by go_simp)
   have g1_1_1 := zfe w1 (w.heap.size + 1) 1 (by go_simp)
   clear hc1 hf1
   go_wp2_with fail
   go_at_call 80
   refine (invalid1 xl xh _ _ _ h0 (by go_simp) (by go_simp) (by go_simp) true (by simpa using HV.out)).mono ?_
   rintro e w2 ⟨rfl, hb2⟩
   obtain ⟨hc2, hf2⟩ := bcell hb2
   have hz2 := hb2.size
   try simp only [World.size_alloc, World.size_setCell] at hz2
   try refine zw2 w w2 (by omega) fun _ _ _ _ => ?_
   have c2_0_0 := zci w2 w.heap.size 0 (xl) (by go_simp)
   have c2_0_1 := zci w2 w.heap.size 1 (xh) (by go_simp)
   have c2_1_0 := zci w2 (w.heap.size + 1) 0 (0) (by go_simp)
   have g2_1_0 := zfe w2 (w.heap.size + 1) 0 (by go_simp)
   have c2_1_1 := zci w2 (w.heap.size + 1) 1 (0) (by go_simp)
   have g2_1_1 := zfe w2 (w.heap.size + 1) 1 (by go_simp)
   clear hc2 hf2 c1_0_0 c1_0_1 c1_1_0 g1_1_0 c1_1_1 g1_1_1
   go_wp2
   refine bodyPost_ret (v := .tuple #[.agg #[.int .i64 (0), .int .i64 (0)], .int .i64 2]) (by simp only [results, Tryz.results73]; go_simp) rfl ⟨rfl, blw_⟩
  ·have e : lkB n at_ lo hi xl xh = true := by simp [lkB, hv, hB]
   rw [e, ok_t, ok_t, err_t]
   exact look_run n _ _ cap ad at_ lo hi hB xl xh ix hv (nxt_is at_ n xl) (nxt_is at_ n xh) w hT' hI _ _ rfl rfl
theorem rlook_any (n cap : Nat) (A : Option Addr) (at_ lo hi : Nat → Int) (xl xh : Int) (ix : I64 xl) (jx : I64 xh) (w : World) (hT : 0 < n → ∃ ad, A = some ad ∧ Tab w ad n at_ lo hi) (hI : ∀ i, i < n → I64 (at_ i) ∧ I64 (lo i) ∧ I64 (hi i)) :
  Calls Tryz.prog 78 #[.slice A n cap, .agg #[.int .i64 (xl), .int .i64 (xh)]] w fun e w' => e = .returned (.tuple #[.agg #[.int .i64 (okI (lkB n at_ lo hi xl xh) (tkL n at_ lo xl xh)), .int .i64 (okI (lkB n at_ lo hi xl xh) (tkH n at_ hi xl xh))], .int .i64 (errE (lkB n at_ lo hi xl xh) 0)]) ∧ Below w.heap.size w w' := by
 cases hB : tabB n at_ lo hi
 ·have e : lkB n at_ lo hi xl xh = false := by simp [lkB, hB]
  rw [e, ok_f, ok_f, err_f]
  have CT := hide (fun W hW => rchecktable_any n cap A at_ lo hi W hW hI 2 (by rw [hB]; rfl))
  have hT2 : ∀ W, Below w.heap.size w W → 0 < n → ∃ ad, A = some ad ∧ Tab W ad n at_ lo hi := fun W hb h => by
   obtain ⟨ad, h1, h2⟩ := hT h
   exact ⟨ad, h1, h2.below hb⟩
  have HT2 := hide hT2
  clear hT2 hT hI e hB ix jx
  go_enter Tryz.func78, Tryz.ntmps78
  go_wp2_with fail
  refine (CT.out _ (HT2.out _ blw_)).mono ?_
  rintro e w1 ⟨rfl, hb1⟩
  obtain ⟨hc1, hf1⟩ := bcell hb1
  have hz1 := hb1.size
  try simp only [World.size_alloc, World.size_setCell] at hz1
  try refine zw2 w w1 (by omega) fun _ _ _ _ => ?_
  have c1_0_0 := zci w1 w.heap.size 0 (xl) (by go_simp)
  have c1_0_1 := zci w1 w.heap.size 1 (xh) (by go_simp)
  have c1_1_0 := zci w1 (w.heap.size + 1) 0 (0) (by go_simp)
  have g1_1_0 := zfe w1 (w.heap.size + 1) 0 (by go_simp)
  have c1_1_1 := zci w1 (w.heap.size + 1) 1 (0) (by go_simp)
  have g1_1_1 := zfe w1 (w.heap.size + 1) 1 (by go_simp)
  clear hc1 hf1
  go_wp2
  refine bodyPost_ret (v := .tuple #[.agg #[.int .i64 (0), .int .i64 (0)], .int .i64 2]) (by simp only [results, Tryz.results78]; go_simp) rfl ⟨rfl, blw_⟩
 ·obtain ⟨h1, h2, h3⟩ := tab_pt hB
  obtain ⟨ad, rfl, hT'⟩ := hT h1
  cases hv : vB xl xh
  ·have e : lkB n at_ lo hi xl xh = false := by simp [lkB, hv]
   rw [e, ok_f, ok_f, err_f]
   have CT := hide (fun W hW => rchecktable_any n cap (some ad) at_ lo hi W (fun _ => ⟨ad, rfl, hW⟩) hI 0 (by rw [hB]; rfl))
   have RC := hide (rcheck xl xh 2 (by simp [chkI, hv]))
   have HT := hide hT'
   clear hT hT' hI e hB ix jx hv h3
   go_enter Tryz.func78, Tryz.ntmps78
   go_wp2_with fail
   refine (CT.out _ (HT.out.below blw_)).mono ?_
   rintro e w1 ⟨rfl, hb1⟩
   obtain ⟨hc1, hf1⟩ := bcell hb1
   have hz1 := hb1.size
   try simp only [World.size_alloc, World.size_setCell] at hz1
   try refine zw2 w w1 (by omega) fun _ _ _ _ => ?_
   have c1_0_0 := zci w1 w.heap.size 0 (xl) (by go_simp)
   have c1_0_1 := zci w1 w.heap.size 1 (xh) (by go_simp)
   have c1_1_0 := zci w1 (w.heap.size + 1) 0 (0) (by go_simp)
   have g1_1_0 := zfe w1 (w.heap.size + 1) 0 (by go_simp)
   have c1_1_1 := zci w1 (w.heap.size + 1) 1 (0) (by go_simp)
   have g1_1_1 := zfe w1 (w.heap.size + 1) 1 (by go_simp)
   clear hc1 hf1
   go_wp2_with fail
   refine (RC.out _).mono ?_
   rintro e w2 ⟨rfl, hb2⟩
   obtain ⟨hc2, hf2⟩ := bcell hb2
   have hz2 := hb2.size
   try simp only [World.size_alloc, World.size_setCell] at hz2
   try refine zw2 w w2 (by omega) fun _ _ _ _ => ?_
   have c2_0_0 := zci w2 w.heap.size 0 (xl) (by go_simp)
   have c2_0_1 := zci w2 w.heap.size 1 (xh) (by go_simp)
   have c2_1_0 := zci w2 (w.heap.size + 1) 0 (0) (by go_simp)
   have g2_1_0 := zfe w2 (w.heap.size + 1) 0 (by go_simp)
   have c2_1_1 := zci w2 (w.heap.size + 1) 1 (0) (by go_simp)
   have g2_1_1 := zfe w2 (w.heap.size + 1) 1 (by go_simp)
   clear hc2 hf2 c1_0_0 c1_0_1 c1_1_0 g1_1_0 c1_1_1 g1_1_1
   go_wp2
   refine bodyPost_ret (v := .tuple #[.agg #[.int .i64 (0), .int .i64 (0)], .int .i64 2]) (by simp only [results, Tryz.results78]; go_simp) rfl ⟨rfl, blw_⟩
  ·have e : lkB n at_ lo hi xl xh = true := by simp [lkB, hv, hB]
   rw [e, ok_t, ok_t, err_t]
   exact rlook_run n cap ad at_ lo hi hB xl xh ix jx hv w hT' hI _ _ _ (tk_out (right_of hB) xl xh)
end
end Go.Proofs.YtcjlpgmhlghdkaaGreat
