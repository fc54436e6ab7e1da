/- Tables: the program's Look. -/
import Derived.Test.YtbfbnmmgmkbieaaLines
set_option linter.unusedVariables false
set_option linter.unusedSimpArgs false
namespace Go.Proofs.Ytbfbnmmgmkbieaa
open Go.RowKit
/-- The points within a span, one after another. -/
def lkL (at_ v : Nat → Int) (xl xh s : Int) : Nat → Int
  | 0 => s
  | k + 1 => if xl ≤ at_ k ∧ at_ k ≤ xh then mi (lkL at_ v xl xh s k) (v k) else lkL at_ v xl xh s k
def lkH (at_ v : Nat → Int) (xl xh s : Int) : Nat → Int
  | 0 => s
  | k + 1 => if xl ≤ at_ k ∧ at_ k ≤ xh then mx (lkH at_ v xl xh s k) (v k) else lkH at_ v xl xh s k
theorem checktable_any (n cap : Nat) (A : Option Addr) (at_ lo hi : Nat → Int) (w : World) (hT : 0 < n → ∃ ad, A = some ad ∧ Tab w ad n at_ lo hi) (hI : ∀ i, i < n → I64 (at_ i) ∧ I64 (lo i) ∧ I64 (hi i)) (res : Int) (hres : (if tabB n at_ lo hi then (0 : Int) else 2) = res) :
    Calls Try.prog 65 #[.slice A n cap] w fun e w' => e = .returned (.int .i64 res) ∧ Below w.heap.size w w' := by
  by_cases h0 : n = 0
  · subst h0
    obtain rfl : 2 = res := by rw [← hres]; simp [tabB]
    clear hres hT hI
    go_enter Try.func65, Try.ntmps65
    go_wp2
    go_ret
    exact ⟨rfl, (by repeat (first | with_reducible exact Below.refl _ _ | with_reducible refine bdrew ?_ | ((with_reducible first | refine bset ?_ ?_ | refine ball ?_ ?_ | refine bth (by assumption) ?_ ?_); first | omega | (simp <;> omega))))⟩
  · obtain ⟨ad, rfl, hT'⟩ := hT (by omega)
    by_cases h1 : n ≤ 64
    · exact checktable_run n cap ad at_ lo hi (by omega) h1 w hT' hI res (by rw [← hres]; simp [tabB, h1, Nat.pos_of_ne_zero h0])
    · obtain rfl : 2 = res := by rw [← hres]; simp [tabB, h1]
      have g1 : ((n : Int) == 0) = false := by simp; omega
      have g2 : (n == 0) = false := by simp; omega
      have g3 : (64 : Int) < (n : Int) := by omega
      clear hres hT hI hT'
      go_enter Try.func65, Try.ntmps65
      go_wp2
      go_ret
      exact ⟨rfl, (by repeat (first | with_reducible exact Below.refl _ _ | with_reducible refine bdrew ?_ | ((with_reducible first | refine bset ?_ ?_ | refine ball ?_ ?_ | refine bth (by assumption) ?_ ?_); first | omega | (simp <;> omega))))⟩
structure LInv (w wr : World) (P : Nat) (xl xh a b : Int) : Prop where
  below : Below w.heap.size w wr
  z1 : w.heap.size + 1 < P
  z2 : P < wr.heap.size
  c0 : wr.cell? ⟨w.heap.size, 0, none⟩ = some (.int .i64 xl)
  c1 : wr.cell? ⟨w.heap.size, 1, none⟩ = some (.int .i64 xh)
  c2 : wr.cell? ⟨w.heap.size + 1, 0, none⟩ = some (.int .i64 0)
  c3 : wr.cell? ⟨w.heap.size + 1, 1, none⟩ = some (.int .i64 0)
  f2 : wr.frozen? ⟨w.heap.size + 1, 0, none⟩ = false
  f3 : wr.frozen? ⟨w.heap.size + 1, 1, none⟩ = false
  p0 : wr.cell? ⟨P, 0, none⟩ = some (.int .i64 a)
  p1 : wr.cell? ⟨P, 1, none⟩ = some (.int .i64 b)
  q0 : wr.frozen? ⟨P, 0, none⟩ = false
  q1 : wr.frozen? ⟨P, 1, none⟩ = false
set_option maxHeartbeats 8000000 in
set_option maxRecDepth 100000 in
theorem look_run (n m1 m2 cap : Nat) (ad : Addr) (at_ lo hi : Nat → Int) (hB : tabB n at_ lo hi = true) (xl xh : Int) (ix : I64 xl) (hv : vB xl xh = true) (hN1 : Next at_ n xl m1) (hN2 : Next at_ n xh m2) (w : World) (hT : Tab w ad n at_ lo hi) (hI : ∀ i, i < n → I64 (at_ i) ∧ I64 (lo i) ∧ I64 (hi i))
    (RL RH : Int) (hRL : lkL at_ lo xl xh (mi (lnL lo at_ n m1 xl) (lnL lo at_ n m2 xh)) n = RL) (hRH : lkH at_ hi xl xh (mx (lnH hi at_ n m1 xl) (lnH hi at_ n m2 xh)) n = RH) :
    Calls Try.prog 63 #[.slice (some ad) n cap, .agg #[.int .i64 (xl), .int .i64 (xh)]] w fun e w' => e = .returned (.tuple #[.agg #[.int .i64 (RL), .int .i64 (RH)], .int .i64 0]) ∧ Below w.heap.size w w' := by
  have hR := right_of hB
  have HT := hide hT
  have hblk := hT.blk
  have hba := block_add ad
  have CT := hide (fun W hW => checktable_any n cap (some ad) at_ lo hi W (fun _ => ⟨ad, rfl, hW⟩) hI 0 (by rw [hB]; rfl))
  have L1 := hide (fun W hW => lines_any n m1 cap ad at_ lo hi hR xl hN1 W hW)
  have L2 := hide (fun W hW => lines_any n m2 cap ad at_ lo hi hR xh hN2 W hW)
  have HV := hide hv
  have hn2 := hR.few
  have h0 := ix.1
  have HRL := hide hRL
  have HRH := hide hRH
  clear hB hN1 hN2 hT hI hRL hRH
  generalize lnL lo at_ n m1 xl = l1 at *
  generalize lnL lo at_ n m2 xh = l2 at *
  generalize lnH hi at_ n m1 xl = u1 at *
  generalize lnH hi at_ n m2 xh = u2 at *
  have SB := hide (sboth l1 u1 l2 u2)
  obtain ⟨s1, hs1⟩ : ∃ v, mi l1 l2 = v := ⟨_, rfl⟩
  obtain ⟨s2, hs2⟩ : ∃ v, mx u1 u2 = v := ⟨_, rfl⟩
  rw [hs1, hs2] at SB
  rw [hs1] at HRL
  rw [hs2] at HRH
  clear hs1 hs2
  go_enter Try.func63, Try.ntmps63
  go_wp2_with fail
  refine (CT.out _ (HT.out.below (by repeat (first | with_reducible exact Below.refl _ _ | with_reducible refine bdrew ?_ | ((with_reducible first | refine bset ?_ ?_ | refine ball ?_ ?_ | refine bth (by assumption) ?_ ?_); first | omega | (simp <;> omega)))))).mono ?_
  rintro e w1 ⟨rfl, hb1⟩
  obtain ⟨hc1, hf1⟩ := bcell hb1
  have hz1 := hb1.size
  try simp only [World.size_alloc, World.size_setCell] at hz1
  try have : w.heap.size < w1.heap.size := by omega
  try have : w.heap.size ≤ w1.heap.size := by omega
  try have : w.heap.size + 1 < w1.heap.size := by omega
  try have : w.heap.size + 1 ≤ w1.heap.size := by omega
  have c1_0_0 : w1.cell? ⟨w.heap.size, 0, none⟩ = some (.int .i64 (xl)) := by go_simp
  have c1_0_1 : w1.cell? ⟨w.heap.size, 1, none⟩ = some (.int .i64 (xh)) := by go_simp
  have c1_1_0 : w1.cell? ⟨w.heap.size + 1, 0, none⟩ = some (.int .i64 (0)) := by go_simp
  have g1_1_0 : w1.frozen? ⟨w.heap.size + 1, 0, none⟩ = false := by go_simp
  have c1_1_1 : w1.cell? ⟨w.heap.size + 1, 1, none⟩ = some (.int .i64 (0)) := by go_simp
  have g1_1_1 : w1.frozen? ⟨w.heap.size + 1, 1, none⟩ = false := by go_simp
  clear hc1 hf1
  go_wp2_with fail
  go_at_call 81
  refine (invalid1 xl xh _ _ _ h0 (by go_simp) (by go_simp) (by go_simp) false (by simpa using HV.out)).mono ?_
  rintro e w2 ⟨rfl, hb2⟩
  obtain ⟨hc2, hf2⟩ := bcell hb2
  have hz2 := hb2.size
  simp only [World.size_alloc] at hz2
  have y : w.heap.size < w1.heap.size + 1 ∧ w.heap.size + 1 < w1.heap.size + 1 ∧ w.heap.size < w2.heap.size ∧ w.heap.size + 1 < w2.heap.size := by omega
  obtain ⟨y1, y2, y3, y4⟩ := y
  have c0 : w2.cell? ⟨w.heap.size, 0, none⟩ = some (.int .i64 xl) := by go_simp
  have c1 : w2.cell? ⟨w.heap.size, 1, none⟩ = some (.int .i64 xh) := by go_simp
  have c2 : w2.cell? ⟨w.heap.size + 1, 0, none⟩ = some (.int .i64 0) := by go_simp
  have c3 : w2.cell? ⟨w.heap.size + 1, 1, none⟩ = some (.int .i64 0) := by go_simp
  have f2 : w2.frozen? ⟨w.heap.size + 1, 0, none⟩ = false := by go_simp
  have f3 : w2.frozen? ⟨w.heap.size + 1, 1, none⟩ = false := by go_simp
  have hb20 : Below w.heap.size w w2 := (by repeat (first | with_reducible exact Below.refl _ _ | with_reducible refine bdrew ?_ | ((with_reducible first | refine bset ?_ ?_ | refine ball ?_ ?_ | refine bth (by assumption) ?_ ?_); first | omega | (simp <;> omega))))
  have HT2 := hide (HT.out.below hb20)
  clear hc2 hf2
  go_wp2_with fail
  refine QF.region_float_ex 9 43 (QF.FD _ _ (.int .i64 0) (.int .i64 0)) _ (by kernel_rfl) (by kernel_rfl) rfl rfl rfl (show Below _ _ _ from ((Below.refl w2.heap.size w2)).drew) ?_
  apply Exists.intro
  refine ⟨fun j => ?h1, ?hf, ?ht⟩
  case h1 =>
    simp only [List.take_succ_cons, List.take_zero, List.drop_succ_cons, List.drop_zero]
    repeat (first
      | go_big_quiet_skip
      | (go_big_quiet_want; go_big_quiet_op; first
        | go_big_quiet_on
        | (apply Exists.intro
           refine ⟨fun _ => ?_, ?_⟩
           · first
               | rfl
               | (intro hC; obtain ⟨hcq, hfq⟩ := bcellB (QF.FD.below hC); go_simp; done)
               | (intro hC; obtain ⟨hcq, hfq⟩ := bcellB (QF.FD.below hC); go_simp; rfl)
               | (intro hC; have hcq := bcellG hC; go_simp; done)
               | (intro hC; have hcq := bcellG hC; go_simp; rfl)
               | (intro hC; go_at_call 103; (first | (with_reducible refine (L1.out _ (HT2.out.below (QF.FD.below hC))).mono ?_) | (with_reducible refine (L2.out _ (HT2.out.below (QF.FD.below hC))).mono ?_)); (intro e w2 hw; exact ⟨hw.1, QF.FD.call (by simp) hC hw.2⟩))
               | (intro hC; go_at_call 101; (first | (with_reducible refine (SB.out _).mono ?_)); (intro e w2 hw; exact ⟨hw.1, QF.FD.call (by simp) hC hw.2⟩))
           go_big_quiet_on)))
    exact wpQuiet_nil rfl
  case hf =>
    intro w8 hD8
    have hm8 := QF.FD.made (t := 24) (by simp) hD8
    go_simp
    simpa [QF.floatRes] using hm8
  case ht =>
    intro u9 w9 hD9
    simp only [List.drop_succ_cons, List.drop_zero]
    obtain ⟨hC9, p9, rfl, hp9, hq9, bc0, bc1, bf0, bf1⟩ := hD9
    obtain ⟨hc9, hf9⟩ := bcellB hC9
    have hz9 := hC9.size
    try simp only [World.size_alloc, World.size_setCell] at hz9 hp9
    try have hs9 : w.heap.size < p9 := by omega
    try have hs9' : w.heap.size ≤ p9 := by omega
    try have ht9 : w.heap.size < w9.heap.size := by omega
    have nn : ¬ w.heap.size = p9 ∧ ¬ w.heap.size + 1 = p9 ∧ ¬ p9 = w.heap.size ∧ ¬ p9 = w.heap.size + 1 ∧ w.heap.size + 1 < w9.heap.size ∧ w.heap.size + 1 < p9 := by omega
    obtain ⟨nn1, nn2, nn3, nn4, nn5, nn6⟩ := nn
    go_wp2
    go_loopw [29, 8] (fun s29 s8 wr => ∃ (k : Nat) (a b : Int), k ≤ n ∧ s29 = .int .i64 k ∧ a = lkL at_ lo xl xh s1 k ∧ b = lkH at_ hi xl xh s2 k ∧ LInv w wr p9 xl xh a b) (fun s29 _ _ => n - (intOf s29).toNat)
    case atStart => exact ⟨0, s1, s2, by omega, rfl, rfl, rfl, ⟨(by repeat (first | with_reducible exact Below.refl _ _ | with_reducible refine bdrew ?_ | ((with_reducible first | refine bset ?_ ?_ | refine ball ?_ ?_ | refine bth (by assumption) ?_ ?_); first | omega | (simp <;> omega)))), by omega, by first | omega | (simp <;> omega), by go_simp, by go_simp, by go_simp, by go_simp, by go_simp, by go_simp, by go_simp, by go_simp, by go_simp, by go_simp⟩⟩
    case round =>
      obtain ⟨k, a, b, hk, rfl, hla, hlb, hb21, z1, z2, e0, e1, e2, e3, g2, g3, p0, p1, q0, q1⟩ := hrel
      clear hc9 hf9 bc0 bc1 bf0 bf1 hC9 c0 c1 c2 c3 f2 f3 HT2 hb20 hb1 hb2
      by_cases hlt : k < n
      · have hTr := HT.out.below hb21
        have t0 := hTr.ca k hlt
        have t1 := hTr.cl k hlt
        have t2 := hTr.ch k hlt
        have hbr := hTr.blk
        have mm : w.heap.size < wr.heap.size ∧ w.heap.size + 1 < wr.heap.size ∧ ¬ p9 = wr.heap.size ∧ ¬ wr.heap.size = p9 := by omega
        obtain ⟨mm1, mm2, mm3, mm4⟩ := mm
        have IN := in_any xl xh (at_ k) h0
        by_cases ci : xl ≤ at_ k ∧ at_ k ≤ xh
        · rw [show inB xl xh (at_ k) = true by unfold inB; rw [HV.out, decide_eq_true ci.1, decide_eq_true ci.2]; rfl] at IN
          subst hla hlb
          have N1 : Hid (mi (lkL at_ lo xl xh s1 k) (lo k) = lkL at_ lo xl xh s1 (k + 1)) := hide (by simp only [lkL]; rw [if_pos ci])
          have N2 : Hid (mx (lkH at_ hi xl xh s2 k) (hi k) = lkH at_ hi xl xh s2 (k + 1)) := hide (by simp only [lkH]; rw [if_pos ci])
          have SB2 := sboth (lkL at_ lo xl xh s1 k) (lkH at_ hi xl xh s2 k) (lo k) (hi k)
          rw [N1.out, N2.out] at SB2
          have IN' := hide IN
          have SB2' := hide SB2
          clear IN SB2 ci hTr N1 N2 HRL HRH
          generalize hn1 : lkL at_ lo xl xh s1 (k + 1) = n1 at *
          have M1 := hide hn1
          clear hn1
          generalize hn2 : lkH at_ hi xl xh s2 (k + 1) = n2 at *
          have M2 := hide hn2
          clear hn2
          generalize lkL at_ lo xl xh s1 k = o1 at *
          generalize lkH at_ hi xl xh s2 k = o2 at *
          generalize at_ k = x0 at *
          generalize lo k = x1 at *
          generalize hi k = x2 at *
          go_wp2_with fail
          refine (IN'.out _).mono ?_
          rintro e w11 ⟨rfl, hb11⟩
          obtain ⟨hc11, hf11⟩ := bcell hb11
          have hz11 := hb11.size
          try simp only [World.size_alloc, World.size_setCell] at hz11
          try have : w.heap.size < w11.heap.size := by omega
          try have : w.heap.size ≤ w11.heap.size := by omega
          try have : w.heap.size + 1 < w11.heap.size := by omega
          try have : w.heap.size + 1 ≤ w11.heap.size := by omega
          try have : p9 < w11.heap.size := by omega
          try have : p9 ≤ w11.heap.size := by omega
          try have : wr.heap.size < w11.heap.size := by omega
          try have : wr.heap.size ≤ w11.heap.size := by omega
          have c11_0_0 : w11.cell? ⟨w.heap.size, 0, none⟩ = some (.int .i64 (xl)) := by go_simp
          have c11_0_1 : w11.cell? ⟨w.heap.size, 1, none⟩ = some (.int .i64 (xh)) := by go_simp
          have c11_1_0 : w11.cell? ⟨w.heap.size + 1, 0, none⟩ = some (.int .i64 (0)) := by go_simp
          have g11_1_0 : w11.frozen? ⟨w.heap.size + 1, 0, none⟩ = false := by go_simp
          have c11_1_1 : w11.cell? ⟨w.heap.size + 1, 1, none⟩ = some (.int .i64 (0)) := by go_simp
          have g11_1_1 : w11.frozen? ⟨w.heap.size + 1, 1, none⟩ = false := by go_simp
          have c11_2_0 : w11.cell? ⟨p9, 0, none⟩ = some (.int .i64 (o1)) := by go_simp
          have g11_2_0 : w11.frozen? ⟨p9, 0, none⟩ = false := by go_simp
          have c11_2_1 : w11.cell? ⟨p9, 1, none⟩ = some (.int .i64 (o2)) := by go_simp
          have g11_2_1 : w11.frozen? ⟨p9, 1, none⟩ = false := by go_simp
          have c11_3_0 : w11.cell? ⟨wr.heap.size, 0, none⟩ = some (.int .i64 (x0)) := by go_simp
          have c11_3_1 : w11.cell? ⟨wr.heap.size, 1, none⟩ = some (.int .i64 (x1)) := by go_simp
          have c11_3_2 : w11.cell? ⟨wr.heap.size, 2, none⟩ = some (.int .i64 (x2)) := by go_simp
          clear hc11 hf11
          go_wp2_with fail
          refine (SB2'.out _).mono ?_
          rintro e w12 ⟨rfl, hb12⟩
          obtain ⟨hc12, hf12⟩ := bcell hb12
          have hz12 := hb12.size
          try simp only [World.size_alloc, World.size_setCell] at hz12
          try have : w.heap.size < w12.heap.size := by omega
          try have : w.heap.size ≤ w12.heap.size := by omega
          try have : w.heap.size + 1 < w12.heap.size := by omega
          try have : w.heap.size + 1 ≤ w12.heap.size := by omega
          try have : p9 < w12.heap.size := by omega
          try have : p9 ≤ w12.heap.size := by omega
          try have : wr.heap.size < w12.heap.size := by omega
          try have : wr.heap.size ≤ w12.heap.size := by omega
          have c12_0_0 : w12.cell? ⟨w.heap.size, 0, none⟩ = some (.int .i64 (xl)) := by go_simp
          have c12_0_1 : w12.cell? ⟨w.heap.size, 1, none⟩ = some (.int .i64 (xh)) := by go_simp
          have c12_1_0 : w12.cell? ⟨w.heap.size + 1, 0, none⟩ = some (.int .i64 (0)) := by go_simp
          have g12_1_0 : w12.frozen? ⟨w.heap.size + 1, 0, none⟩ = false := by go_simp
          have c12_1_1 : w12.cell? ⟨w.heap.size + 1, 1, none⟩ = some (.int .i64 (0)) := by go_simp
          have g12_1_1 : w12.frozen? ⟨w.heap.size + 1, 1, none⟩ = false := by go_simp
          have c12_2_0 : w12.cell? ⟨p9, 0, none⟩ = some (.int .i64 (o1)) := by go_simp
          have g12_2_0 : w12.frozen? ⟨p9, 0, none⟩ = false := by go_simp
          have c12_2_1 : w12.cell? ⟨p9, 1, none⟩ = some (.int .i64 (o2)) := by go_simp
          have g12_2_1 : w12.frozen? ⟨p9, 1, none⟩ = false := by go_simp
          have c12_3_0 : w12.cell? ⟨wr.heap.size, 0, none⟩ = some (.int .i64 (x0)) := by go_simp
          have c12_3_1 : w12.cell? ⟨wr.heap.size, 1, none⟩ = some (.int .i64 (x1)) := by go_simp
          have c12_3_2 : w12.cell? ⟨wr.heap.size, 2, none⟩ = some (.int .i64 (x2)) := by go_simp
          clear hc12 hf12 c11_0_0 c11_0_1 c11_1_0 g11_1_0 c11_1_1 g11_1_1 c11_2_0 g11_2_0 c11_2_1 g11_2_1 c11_3_0 c11_3_1 c11_3_2
          go_wp2
          go_roundw
          case rel => exact ⟨k + 1, n1, n2, by omega, by go_num, M1.out.symm, M2.out.symm, ⟨(by repeat (first | with_reducible exact Below.refl _ _ | with_reducible refine bdrew ?_ | ((with_reducible first | refine bset ?_ ?_ | refine ball ?_ ?_ | refine bth (by assumption) ?_ ?_); first | omega | (simp <;> omega)))), by omega, by first | omega | (simp <;> omega), by go_simp, by go_simp, by go_simp, by go_simp, by go_simp, by go_simp, by go_simp, by go_simp, by go_simp, by go_simp⟩⟩
          case measure => simp [intOf]; omega
        · rw [show inB xl xh (at_ k) = false by unfold inB; rw [HV.out, Bool.true_and, ← Bool.decide_and]; exact decide_eq_false ci] at IN
          subst hla hlb
          have N1 : Hid (lkL at_ lo xl xh s1 k = lkL at_ lo xl xh s1 (k + 1)) := hide (by simp only [lkL]; rw [if_neg ci])
          have N2 : Hid (lkH at_ hi xl xh s2 k = lkH at_ hi xl xh s2 (k + 1)) := hide (by simp only [lkH]; rw [if_neg ci])
          rw [N1.out] at p0
          rw [N2.out] at p1
          have IN' := hide IN
          clear IN ci hTr N1 N2 HRL HRH
          generalize hn1 : lkL at_ lo xl xh s1 (k + 1) = n1 at *
          have M1 := hide hn1
          clear hn1
          generalize hn2 : lkH at_ hi xl xh s2 (k + 1) = n2 at *
          have M2 := hide hn2
          clear hn2
          generalize at_ k = x0 at *
          generalize lo k = x1 at *
          generalize hi k = x2 at *
          go_wp2_with fail
          refine (IN'.out _).mono ?_
          rintro e w11 ⟨rfl, hb11⟩
          obtain ⟨hc11, hf11⟩ := bcell hb11
          have hz11 := hb11.size
          try simp only [World.size_alloc, World.size_setCell] at hz11
          try have : w.heap.size < w11.heap.size := by omega
          try have : w.heap.size ≤ w11.heap.size := by omega
          try have : w.heap.size + 1 < w11.heap.size := by omega
          try have : w.heap.size + 1 ≤ w11.heap.size := by omega
          try have : p9 < w11.heap.size := by omega
          try have : p9 ≤ w11.heap.size := by omega
          try have : wr.heap.size < w11.heap.size := by omega
          try have : wr.heap.size ≤ w11.heap.size := by omega
          have c11_0_0 : w11.cell? ⟨w.heap.size, 0, none⟩ = some (.int .i64 (xl)) := by go_simp
          have c11_0_1 : w11.cell? ⟨w.heap.size, 1, none⟩ = some (.int .i64 (xh)) := by go_simp
          have c11_1_0 : w11.cell? ⟨w.heap.size + 1, 0, none⟩ = some (.int .i64 (0)) := by go_simp
          have g11_1_0 : w11.frozen? ⟨w.heap.size + 1, 0, none⟩ = false := by go_simp
          have c11_1_1 : w11.cell? ⟨w.heap.size + 1, 1, none⟩ = some (.int .i64 (0)) := by go_simp
          have g11_1_1 : w11.frozen? ⟨w.heap.size + 1, 1, none⟩ = false := by go_simp
          have c11_2_0 : w11.cell? ⟨p9, 0, none⟩ = some (.int .i64 (n1)) := by go_simp
          have g11_2_0 : w11.frozen? ⟨p9, 0, none⟩ = false := by go_simp
          have c11_2_1 : w11.cell? ⟨p9, 1, none⟩ = some (.int .i64 (n2)) := by go_simp
          have g11_2_1 : w11.frozen? ⟨p9, 1, none⟩ = false := by go_simp
          have c11_3_0 : w11.cell? ⟨wr.heap.size, 0, none⟩ = some (.int .i64 (x0)) := by go_simp
          have c11_3_1 : w11.cell? ⟨wr.heap.size, 1, none⟩ = some (.int .i64 (x1)) := by go_simp
          have c11_3_2 : w11.cell? ⟨wr.heap.size, 2, none⟩ = some (.int .i64 (x2)) := by go_simp
          clear hc11 hf11
          go_wp2
          go_roundw
          case rel => exact ⟨k + 1, n1, n2, by omega, by go_num, M1.out.symm, M2.out.symm, ⟨(by repeat (first | with_reducible exact Below.refl _ _ | with_reducible refine bdrew ?_ | ((with_reducible first | refine bset ?_ ?_ | refine ball ?_ ?_ | refine bth (by assumption) ?_ ?_); first | omega | (simp <;> omega)))), by omega, by first | omega | (simp <;> omega), by go_simp, by go_simp, by go_simp, by go_simp, by go_simp, by go_simp, by go_simp, by go_simp, by go_simp, by go_simp⟩⟩
          case measure => simp [intOf]; omega
      · obtain rfl : k = n := by omega
        rw [hla, HRL.out] at p0
        rw [hlb, HRH.out] at p1
        clear hla hlb
        have zz : w.heap.size + 1 < wr.heap.size := by omega
        clear HRL HRH
        go_wp2
        refine bodyPost_ret (v := .tuple #[.agg #[.int .i64 (RL), .int .i64 (RH)], .int .i64 0]) (by simp only [results, Try.results63]; go_simp) rfl ⟨rfl, (by repeat (first | with_reducible exact Below.refl _ _ | with_reducible refine bdrew ?_ | ((with_reducible first | refine bset ?_ ?_ | refine ball ?_ ?_ | refine bth (by assumption) ?_ ?_); first | omega | (simp <;> omega))))⟩
end Go.Proofs.Ytbfbnmmgmkbieaa
