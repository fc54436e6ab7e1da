/- The lines of a table: the program's. -/
import Derived.Test.YtbfbnmmgmkbieaaLineM
import Derived.Test.YtbfbnmmgmkbieaaMul
import Derived.Test.YtbfbnmmgmkbieaaQG3
import Derived.Laws.EntriesVeiled
set_option linter.unusedVariables false
set_option linter.unusedSimpArgs false
namespace Go.Proofs.Ytbfbnmmgmkbieaa
open Go.RowKit
theorem fieldS0 (a b : Int) (w : World) : Sem.run Try.prog (Instr.field 24 (.agg #[.int .i64 a, .int .i64 b]) 0) w = .ok (.int .i64 a) w := by
  unfold Instr.field
  simp [go_sem, part, asAgg]
theorem fieldS1 (a b : Int) (w : World) : Sem.run Try.prog (Instr.field 24 (.agg #[.int .i64 a, .int .i64 b]) 1) w = .ok (.int .i64 b) w := by
  unfold Instr.field
  simp [go_sem, part, asAgg]
/-- What a part of a line asks: the place, and the points ahead of it and behind it. -/
structure HasL (b3 b6 b7 : Nat) (x pa pl ph qa ql qh : Int) (w : World) : Prop where
  cx : w.cell? ⟨b3, 0, none⟩ = some (.int .i64 x)
  pa : w.cell? ⟨b6, 0, none⟩ = some (.int .i64 pa)
  pl : w.cell? ⟨b6, 1, none⟩ = some (.int .i64 pl)
  ph : w.cell? ⟨b6, 2, none⟩ = some (.int .i64 ph)
  qa : w.cell? ⟨b7, 0, none⟩ = some (.int .i64 qa)
  ql : w.cell? ⟨b7, 1, none⟩ = some (.int .i64 ql)
  qh : w.cell? ⟨b7, 2, none⟩ = some (.int .i64 qh)
  l3 : b3 < w.heap.size
  l6 : b6 < w.heap.size
  l7 : b7 < w.heap.size
theorem HasL.below {b3 b6 b7 : Nat} {x pa pl ph qa ql qh : Int} {w w' : World} (h : HasL b3 b6 b7 x pa pl ph qa ql qh w) (hb : Below w.heap.size w w') : HasL b3 b6 b7 x pa pl ph qa ql qh w' := by
  have hc := (bcell hb).1
  have hs := hb.size
  exact ⟨(hc b3 0 h.l3).trans h.cx, (hc b6 0 h.l6).trans h.pa, (hc b6 1 h.l6).trans h.pl, (hc b6 2 h.l6).trans h.ph, (hc b7 0 h.l7).trans h.qa, (hc b7 1 h.l7).trans h.ql, (hc b7 2 h.l7).trans h.qh, Nat.lt_of_lt_of_le h.l3 hs, Nat.lt_of_lt_of_le h.l6 hs, Nat.lt_of_lt_of_le h.l7 hs⟩
theorem along_any (b3 b6 b7 : Nat) (x pa pl ph qa ql qh fr tt : Int) (hf : -2305843009213693952 ≤ fr ∧ fr ≤ 2305843009213693952) (ht : -2305843009213693952 ≤ tt ∧ tt ≤ 2305843009213693952) (ha : -2305843009213693952 ≤ pa ∧ qa ≤ 2305843009213693952) (hx : pa ≤ x ∧ x ≤ qa) (hd : pa < qa) (w : World) (hw : HasL b3 b6 b7 x pa pl ph qa ql qh w) :
    Calls Try.prog 125 #[.int .i64 fr, .int .i64 tt, .pointer (some ⟨b3, 0, none⟩), .pointer (some ⟨b6, 0, none⟩), .pointer (some ⟨b7, 0, none⟩)] w fun e w' => e = .returned (.agg #[.int .i64 (fr + (tt - fr) * (x - pa) / (qa - pa)), .int .i64 (fr + cdiv ((tt - fr) * (x - pa)) (qa - pa))]) ∧ Below w.heap.size w w' := by
  obtain ⟨cx, c0, c1, c2, d0, d1, d2, l3, l6, l7⟩ := hw
  have hw := way_bd (c := tt - fr) (a := x - pa) (d := qa - pa) (by omega) (by omega) (by omega)
  have SH := share_any (tt - fr) (x - pa) (qa - pa) ⟨by omega, by omega⟩ ⟨by omega, by omega⟩ ⟨by omega, by omega⟩ (by omega)
  rw [(share_pos (x := tt - fr) (y := x - pa) (d := qa - pa) (by omega)).1, (share_pos (x := tt - fr) (y := x - pa) (d := qa - pa) (by omega)).2] at SH
  have bd : -4611686018427387904 ≤ (tt - fr) * (x - pa) / (qa - pa) ∧ (tt - fr) * (x - pa) / (qa - pa) ≤ 4611686018427387904 ∧ -4611686018427387904 ≤ cdiv ((tt - fr) * (x - pa)) (qa - pa) ∧ cdiv ((tt - fr) * (x - pa)) (qa - pa) ≤ 4611686018427387904 := by
    rcases Int.le_total 0 (tt - fr) with h | h
    · have := hw.1 h; omega
    · have := hw.2 h; omega
  have ft := out_t (lo := (tt - fr) * (x - pa) / (qa - pa)) (hi := cdiv ((tt - fr) * (x - pa)) (qa - pa)) (decide_eq_true (by omega))
  rw [ft.1, ft.2.1, ft.2.2] at SH
  have SH' := hide SH
  clear SH ft hw
  obtain ⟨f1, f2⟩ := hf
  obtain ⟨t1, t2⟩ := ht
  obtain ⟨a1, a2⟩ := ha
  obtain ⟨x1, x2⟩ := hx
  obtain ⟨b1, b2, b4, b5⟩ := bd
  generalize (tt - fr) * (x - pa) / (qa - pa) = L at *
  generalize cdiv ((tt - fr) * (x - pa)) (qa - pa) = H at *
  have n3 : ¬ b3 = w.heap.size := by omega
  have n6 : ¬ b6 = w.heap.size := by omega
  have n7 : ¬ b7 = w.heap.size := by omega
  go_enter Try.func125, Try.ntmps125
  go_wp2_with fail
  refine (SH'.out _).mono ?_
  rintro e w1 ⟨rfl, hb1⟩
  obtain ⟨hc1, hf1⟩ := bcell hb1
  have hz1 := hb1.size
  try simp only [World.size_alloc, World.size_setCell] at hz1
  try have : w.heap.size < w1.heap.size := by omega
  try have : w.heap.size < w1.heap.size + 1 := by omega
  try have : w.heap.size ≤ w1.heap.size := by omega
  have c1_0_0 : w1.cell? ⟨w.heap.size, 0, none⟩ = some (.int .i64 (0)) := by go_simp
  have g1_0_0 : w1.frozen? ⟨w.heap.size, 0, none⟩ = false := by go_simp
  have c1_0_1 : w1.cell? ⟨w.heap.size, 1, none⟩ = some (.int .i64 (0)) := by go_simp
  have g1_0_1 : w1.frozen? ⟨w.heap.size, 1, none⟩ = false := by go_simp
  clear hc1 hf1
  go_wp2
  refine bodyPost_ret (v := .agg #[.int .i64 (fr + L), .int .i64 (fr + H)]) (by simp only [results, Try.results125]; go_simp) rfl ⟨rfl, (by repeat (first | with_reducible exact Below.refl _ _ | with_reducible refine bdrew ?_ | ((with_reducible first | refine bset ?_ ?_ | refine ball ?_ ?_ | refine bth (by assumption) ?_ ?_); first | omega | (simp <;> omega))))⟩
set_option maxHeartbeats 4000000 in
set_option maxRecDepth 100000 in
theorem lines_any (n m cap : Nat) (ad : Addr) (at_ lo hi : Nat → Int) (hR : Right n at_ lo hi) (x : Int) (hN : Next at_ n x m) (w : World) (hT : Tab w ad n at_ lo hi) :
    Calls Try.prog 103 #[.slice (some ad) n cap, .int .i64 x] w fun e w' => e = .returned (.agg #[.int .i64 (lnL lo at_ n m x), .int .i64 (lnH hi at_ n m x)]) ∧ Below w.heap.size w w' := by
  obtain ⟨VL, hVL⟩ : ∃ v, lnL lo at_ n m x = v := ⟨_, rfl⟩
  obtain ⟨VH, hVH⟩ : ∃ v, lnH hi at_ n m x = v := ⟨_, rfl⟩
  rw [hVL, hVH]
  have HL := hide hVL
  have HH := hide hVH
  have HT := hide hT
  have HR := hide hR
  have HN := hide hN
  have hblk := hT.blk
  have hba := block_add ad
  have hn1 := hR.pos
  have hn2 := hR.few
  have hmn := hN.le
  clear hVL hVH hT hR hN
  go_enter Try.func103, Try.ntmps103
  go_wp2
  go_loopw [5] (fun s5 wr => ∃ k : Nat, k ≤ m ∧ s5 = .int .i64 k ∧ Below w.heap.size w wr ∧ w.heap.size + 1 < wr.heap.size ∧ wr.cell? ⟨w.heap.size, 0, none⟩ = some (.int .i64 x) ∧ wr.cell? ⟨w.heap.size + 1, 0, none⟩ = some (.int .i64 0) ∧ wr.cell? ⟨w.heap.size + 1, 1, none⟩ = some (.int .i64 0) ∧ wr.frozen? ⟨w.heap.size + 1, 0, none⟩ = false ∧ wr.frozen? ⟨w.heap.size + 1, 1, none⟩ = false) (fun s5 _ => m - (intOf s5).toNat)
  case atStart => exact ⟨0, by omega, rfl, (by repeat (first | with_reducible exact Below.refl _ _ | with_reducible refine bdrew ?_ | ((with_reducible first | refine bset ?_ ?_ | refine ball ?_ ?_ | refine bth (by assumption) ?_ ?_); first | omega | (simp <;> omega)))), by simp, by go_simp, by go_simp, by go_simp, by go_simp, by go_simp⟩
  case round =>
    obtain ⟨k, hk, rfl, hb20, hz0, b0, b1, b2, b3, b4⟩ := hrel
    have hTr := HT.out.below hb20
    have hbr := hTr.blk
    have hz1 : w.heap.size < wr.heap.size := by omega
    by_cases hlt : k < m
    · have t0 := hTr.ca k (by omega)
      have g1 : decide ((k : Int) < (n : Int)) = true := decide_eq_true (by omega)
      have g1' : decide (k < n) = true := decide_eq_true (by omega)
      have g2 : decide (at_ k < x) = true := decide_eq_true (HN.out.before k hlt)
      have hkn : k < n := by omega
      clear hTr
      generalize at_ k = x0 at *
      go_wp2_with fail
      refine QT.quiet_b (by kernel_rfl) (by kernel_rfl) ?_
      repeat (first
        | go_big_quiet_skip
        | (go_big_quiet_want; go_big_quiet_op; first
          | go_big_quiet_on
          | (apply Exists.intro
             refine ⟨fun _ => ?_, ?_⟩
             · first
                 | rfl
                 | (intro hC; obtain ⟨hcq, hfq⟩ := bcellB hC; go_simp; done)
                 | (intro hC; obtain ⟨hcq, hfq⟩ := bcellB hC; go_simp; rfl)
                 | (intro hC; have hcq := bcellG hC; go_simp; done)
                 | (intro hC; have hcq := bcellG hC; go_simp; rfl)
             go_big_quiet_on)))
      refine wpQuiet_nil ?_
      intro w9 hC9
      obtain ⟨hc9, hf9⟩ := bcellB hC9
      have hz9 := hC9.size
      go_wp2
      go_roundw
      case rel => exact ⟨k + 1, by omega, by go_num, (by repeat (first | with_reducible exact Below.refl _ _ | with_reducible refine bdrew ?_ | ((with_reducible first | refine bset ?_ ?_ | refine ball ?_ ?_ | refine bth (by assumption) ?_ ?_); first | omega | (simp <;> omega)))), by omega, by go_simp, by go_simp, by go_simp, by go_simp, by go_simp⟩
      case measure => simp [intOf]; omega
    · obtain rfl : k = m := by omega
      by_cases hkn : k = n
      · subst hkn
        obtain ⟨j, rfl⟩ : ∃ j, k = j + 1 := ⟨k - 1, by omega⟩
        have t1 := hTr.cl j (by omega)
        have t2 := hTr.ch j (by omega)
        have E1 : Hid (lo j = VL) := hide (by rw [← HL.out]; unfold lnL; rw [if_pos rfl, Nat.add_sub_cancel])
        have E2 : Hid (hi j = VH) := hide (by rw [← HH.out]; unfold lnH; rw [if_pos rfl, Nat.add_sub_cancel])
        rw [E1.out] at t1
        rw [E2.out] at t2
        have g1 : decide (((j + 1 : Nat) : Int) < ((j + 1 : Nat) : Int)) = false := decide_eq_false (by omega)
        have g2 : decide (j + 1 < j + 1) = false := decide_eq_false (by omega)
        clear hTr
        go_wp2_with fail
        refine QT.quiet_b (by kernel_rfl) (by kernel_rfl) ?_
        repeat (first
          | go_big_quiet_skip
          | (go_big_quiet_want; go_big_quiet_op; first
            | go_big_quiet_on
            | (apply Exists.intro
               refine ⟨fun _ => ?_, ?_⟩
               · first
                   | rfl
                   | (intro hC; obtain ⟨hcq, hfq⟩ := bcellB hC; go_simp; done)
                   | (intro hC; obtain ⟨hcq, hfq⟩ := bcellB hC; go_simp; rfl)
                   | (intro hC; have hcq := bcellG hC; go_simp; done)
                   | (intro hC; have hcq := bcellG hC; go_simp; rfl)
               go_big_quiet_on)))
        refine wpQuiet_nil ?_
        intro w9 hC9
        obtain ⟨hc9, hf9⟩ := bcellB hC9
        have hz9 := hC9.size
        go_wp2
        refine bodyPost_ret (v := .agg #[.int .i64 (VL), .int .i64 (VH)]) (by simp only [results, Try.results103]; go_simp) rfl ⟨rfl, (by repeat (first | with_reducible exact Below.refl _ _ | with_reducible refine bdrew ?_ | ((with_reducible first | refine bset ?_ ?_ | refine ball ?_ ?_ | refine bth (by assumption) ?_ ?_); first | omega | (simp <;> omega))))⟩
      · have hkn2 : k < n := by omega
        have hst : ¬ at_ k < x := by rcases HN.out.stop with h | h; exact absurd h hkn; exact h
        have t0 := hTr.ca k hkn2
        have g1 : decide ((k : Int) < (n : Int)) = true := decide_eq_true (by omega)
        have g1' : decide (k < n) = true := decide_eq_true (by omega)
        have g2 : decide (at_ k < x) = false := decide_eq_false hst
        have g3 : ((k : Int) == (n : Int)) = false := beq_eq_false_iff_ne.2 (by omega)
        have g3' : (k == n) = false := beq_eq_false_iff_ne.2 hkn
        by_cases hk0 : k = 0
        · subst hk0
          have t1 := hTr.cl 0 (by omega)
          have t2 := hTr.ch 0 (by omega)
          have E1 : Hid (lo 0 = VL) := hide (by rw [← HL.out]; unfold lnL; rw [if_neg hkn, if_pos rfl])
          have E2 : Hid (hi 0 = VH) := hide (by rw [← HH.out]; unfold lnH; rw [if_neg hkn, if_pos rfl])
          rw [E1.out] at t1
          rw [E2.out] at t2
          have ha0 : ad.add (0 * 3) = ad := by simp [Addr.add]
          rw [ha0] at t0 t1 t2
          clear hTr hst ha0
          generalize at_ 0 = x0 at *
          go_wp2_with fail
          refine QT.quiet_b (by kernel_rfl) (by kernel_rfl) ?_
          repeat (first
            | go_big_quiet_skip
            | (go_big_quiet_want; go_big_quiet_op; first
              | go_big_quiet_on
              | (apply Exists.intro
                 refine ⟨fun _ => ?_, ?_⟩
                 · first
                     | rfl
                     | (intro hC; obtain ⟨hcq, hfq⟩ := bcellB hC; go_simp; done)
                     | (intro hC; obtain ⟨hcq, hfq⟩ := bcellB hC; go_simp; rfl)
                     | (intro hC; have hcq := bcellG hC; go_simp; done)
                     | (intro hC; have hcq := bcellG hC; go_simp; rfl)
                 go_big_quiet_on)))
          refine wpQuiet_nil ?_
          intro w9 hC9
          obtain ⟨hc9, hf9⟩ := bcellB hC9
          have hz9 := hC9.size
          have t1' : w9.cell? ⟨ad.block, ad.off + 1, none⟩ = some (.int .i64 VL) := by go_simp
          have t2' : w9.cell? ⟨ad.block, ad.off + 2, none⟩ = some (.int .i64 VH) := by go_simp
          go_wp2
          refine bodyPost_ret (v := .agg #[.int .i64 (VL), .int .i64 (VH)]) (by simp only [results, Try.results103]; go_simp) rfl ⟨rfl, (by repeat (first | with_reducible exact Below.refl _ _ | with_reducible refine bdrew ?_ | ((with_reducible first | refine bset ?_ ?_ | refine ball ?_ ?_ | refine bth (by assumption) ?_ ?_); first | omega | (simp <;> omega))))⟩
        · obtain ⟨j, rfl⟩ : ∃ j, k = j + 1 := ⟨k - 1, by omega⟩
          have t1 := hTr.cl (j + 1) (by omega)
          have t2 := hTr.ch (j + 1) (by omega)
          have u0 := hTr.ca j (by omega)
          have u1 := hTr.cl j (by omega)
          have u2 := hTr.ch j (by omega)
          have E1 : Hid (lo j + (lo (j + 1) - lo j) * (x - at_ j) / (at_ (j + 1) - at_ j) = VL) := hide (by rw [← HL.out]; unfold lnL; rw [if_neg hkn, if_neg hk0, Nat.add_sub_cancel])
          have E2 : Hid (hi j + cdiv ((hi (j + 1) - hi j) * (x - at_ j)) (at_ (j + 1) - at_ j) = VH) := hide (by rw [← HH.out]; unfold lnH; rw [if_neg hkn, if_neg hk0, Nat.add_sub_cancel])
          have px : at_ j < x := HN.out.before j (by omega)
          have hup := HR.out.up j hkn2
          have A1 := hide (fun b3 b6 b7 => along_any b3 b6 b7 x (at_ j) (lo j) (hi j) (at_ (j + 1)) (lo (j + 1)) (hi (j + 1)) (lo j) (lo (j + 1)) (HR.out.l j (by omega)) (HR.out.l (j + 1) (by omega)) ⟨(HR.out.a j (by omega)).1, (HR.out.a (j + 1) (by omega)).2⟩ ⟨by omega, by omega⟩ hup)
          have A2 := hide (fun b3 b6 b7 => along_any b3 b6 b7 x (at_ j) (lo j) (hi j) (at_ (j + 1)) (lo (j + 1)) (hi (j + 1)) (hi j) (hi (j + 1)) (HR.out.h j (by omega)) (HR.out.h (j + 1) (by omega)) ⟨(HR.out.a j (by omega)).1, (HR.out.a (j + 1) (by omega)).2⟩ ⟨by omega, by omega⟩ hup)
          rw [E1.out] at A1
          rw [E2.out] at A2
          have hb8 := hTr.blk
          have g4 : decide ((j : Int) + 1 < (n : Int)) = true := decide_eq_true (by omega)
          have g5 : ((j : Int) + 1 == (n : Int)) = false := beq_eq_false_iff_ne.2 (by omega)
          have g6 : ((j : Int) + 1 == 0) = false := beq_eq_false_iff_ne.2 (by omega)
          have g7 : (j : Int) + 1 < (n : Int) := by omega
          clear hTr hst hup px E1 E2
          generalize hi j + cdiv ((hi (j + 1) - hi j) * (x - at_ j)) (at_ (j + 1) - at_ j) = Z at *
          generalize lo j + (lo (j + 1) - lo j) * (x - at_ j) / (at_ (j + 1) - at_ j) = Y at *
          generalize at_ (j + 1) = x0 at *
          generalize lo (j + 1) = x1 at *
          generalize hi (j + 1) = x2 at *
          generalize at_ j = y0 at *
          generalize lo j = y1 at *
          generalize hi j = y2 at *
          go_wp2_with fail
          refine QT.quiet_b (by kernel_rfl) (by kernel_rfl) ?_
          repeat (first
            | go_big_quiet_skip
            | (go_big_quiet_want; go_big_quiet_op; first
              | go_big_quiet_on
              | (apply Exists.intro
                 refine ⟨fun _ => ?_, ?_⟩
                 · first
                     | rfl
                     | (intro hC; obtain ⟨hcq, hfq⟩ := bcellB hC; go_simp; done)
                     | (intro hC; obtain ⟨hcq, hfq⟩ := bcellB hC; go_simp; rfl)
                     | (intro hC; have hcq := bcellG hC; go_simp; done)
                     | (intro hC; have hcq := bcellG hC; go_simp; rfl)
                 go_big_quiet_on)))
          refine wpQuiet_nil ?_
          intro w9 hC9
          obtain ⟨hc9, hf9⟩ := bcellB hC9
          have hz9 := hC9.size
          go_wp2
          have hb21 := hC9
          have zz : w.heap.size < w9.heap.size ∧ w.heap.size + 1 < w9.heap.size ∧ ad.block < w9.heap.size := by omega
          obtain ⟨zz1, zz2, zz3⟩ := zz
          have k0 : w9.cell? (ad.add ((j + 1) * 3)) = some (.int .i64 x0) := (bcellG hC9 _ (by rw [hba]; exact hb8)).trans t0
          have k1 : w9.cell? ⟨ad.block, (ad.add ((j + 1) * 3)).off + 1, none⟩ = some (.int .i64 x1) := (bcellG hC9 ⟨ad.block, _, none⟩ hb8).trans t1
          have k2 : w9.cell? ⟨ad.block, (ad.add ((j + 1) * 3)).off + 2, none⟩ = some (.int .i64 x2) := (bcellG hC9 ⟨ad.block, _, none⟩ hb8).trans t2
          have k3 : w9.cell? (ad.add (j * 3)) = some (.int .i64 y0) := (bcellG hC9 _ (by rw [hba]; exact hb8)).trans u0
          have k4 : w9.cell? ⟨ad.block, (ad.add (j * 3)).off + 1, none⟩ = some (.int .i64 y1) := (bcellG hC9 ⟨ad.block, _, none⟩ hb8).trans u1
          have k5 : w9.cell? ⟨ad.block, (ad.add (j * 3)).off + 2, none⟩ = some (.int .i64 y2) := (bcellG hC9 ⟨ad.block, _, none⟩ hb8).trans u2
          have m0 : w9.cell? ⟨w.heap.size, 0, none⟩ = some (.int .i64 x) := by go_simp
          have m1 : w9.cell? ⟨w.heap.size + 1, 0, none⟩ = some (.int .i64 0) := by go_simp
          have m2 : w9.cell? ⟨w.heap.size + 1, 1, none⟩ = some (.int .i64 0) := by go_simp
          have m3 : w9.frozen? ⟨w.heap.size + 1, 0, none⟩ = false := by go_simp
          have m4 : w9.frozen? ⟨w.heap.size + 1, 1, none⟩ = false := by go_simp
          clear hc9 hf9 t0 t1 t2 u0 u1 u2 b0 b1 b2 b3 b4
          refine QG.region_float2_ex 9 69 (QG.FD3 _ _ (.int .i64 0) (.int .i64 0) (.int .i64 0) (.int .i64 y0) (.int .i64 y1) (.int .i64 y2)) _ _ _ (by kernel_rfl) (by kernel_rfl) rfl rfl rfl rfl rfl rfl rfl (by kernel_rfl) (by kernel_rfl) rfl (show QG.FD3 _ _ _ _ _ _ _ _ (none, none, false) _ from ⟨((Below.refl w9.heap.size w9)).drew, trivial, trivial, trivial⟩) ?_
          apply Exists.intro
          refine ⟨fun j => ?h1, ?hf1, ?hf2, ?hf3, ?ht⟩
          case h1 =>
            simp only [List.take_succ_cons, List.take_zero, List.drop_succ_cons, List.drop_zero]
            repeat (first
              | go_big_quiet_skip
              | (go_big_quiet_want; go_big_quiet_op; first
                | go_big_quiet_on
                | (apply Exists.intro
                   refine ⟨fun _ => ?_, ?_⟩
                   · first
                       | rfl
                       | (intro hC; obtain ⟨hcq, hfq⟩ := bcellB (QG.FD3.below hC); go_simp; done)
                       | (intro hC; obtain ⟨hcq, hfq⟩ := bcellB (QG.FD3.below hC); go_simp; rfl)
                       | (intro hC; have hcq := bcellG (QG.FD3.below hC); go_simp; done)
                       | (intro hC; have hcq := bcellG (QG.FD3.below hC); go_simp; rfl)
                   go_big_quiet_on)))
            exact wpQuiet_nil rfl
          case hf1 =>
            intro f8 w8 hD8
            have hm8 := QG.FD3.made1 (t := 63) (by simp) hD8
            go_simp
            simpa [QF.floatRes] using hm8
          case hf2 =>
            intro f8 b8 w8 hD8
            have hm8 := QG.FD3.made2 (t := 63) (by simp) hD8
            go_simp
            simpa [QF.floatRes] using hm8
          case hf3 =>
            intro u8 f8 w8 hD8
            obtain ⟨p8, rfl, hp8, fc0, fc1, fc2, ff0, ff1, ff2⟩ := QG.FD3.open_ hD8
            have hm8 := QG.FD3.stored (by simp) hD8
            go_simp
            simpa [QF.floatRes] using hm8
          case ht =>
            intro u9 v9 w7 hD9
            simp only [List.drop_succ_cons, List.drop_zero]
            obtain ⟨hC7, ⟨p9, rfl, hp9, hq9, bc0, bc1, bc2, bf0, bf1, bf2⟩, ⟨q9, rfl, hp8, hq8, dc0, dc1, dc2, df0, df1, df2⟩, htw⟩ := hD9
            simp only [if_true] at bc0 bc1 bc2
            have hne9 : ¬ p9 = q9 := fun h => htw (by rw [h])
            have hne8 : ¬ q9 = p9 := fun h => hne9 h.symm
            obtain ⟨hc7, hf7⟩ := bcellB hC7
            have hz7 := hC7.size
            try simp only [World.size_alloc, World.size_setCell] at hz7 hp9 hp8
            clear htw
            have hb22 := hC7
            have nn : ¬ w.heap.size = p9 ∧ ¬ w.heap.size = q9 ∧ ¬ w.heap.size + 1 = p9 ∧ ¬ w.heap.size + 1 = q9 ∧ ¬ p9 = w.heap.size ∧ ¬ q9 = w.heap.size ∧ ¬ p9 = w.heap.size + 1 ∧ ¬ q9 = w.heap.size + 1 ∧ w.heap.size < w7.heap.size ∧ w.heap.size + 1 < w7.heap.size := by omega
            obtain ⟨nn1, nn2, nn3, nn4, nn5, nn6, nn7, nn8, nn9, nn10⟩ := nn
            have HB : HasL w.heap.size p9 q9 x y0 y1 y2 x0 x1 x2 (((w7.setCell ⟨q9, 0, none⟩ (.int .i64 x0)).setCell ⟨q9, 1, none⟩ (.int .i64 x1)).setCell ⟨q9, 2, none⟩ (.int .i64 x2)) := ⟨by go_simp, by go_simp, by go_simp, by go_simp, by go_simp, by go_simp, by go_simp, by (simp; omega), by (simp; omega), by (simp; omega)⟩
            have m0' : (((w7.setCell ⟨q9, 0, none⟩ (.int .i64 x0)).setCell ⟨q9, 1, none⟩ (.int .i64 x1)).setCell ⟨q9, 2, none⟩ (.int .i64 x2)).cell? ⟨w.heap.size + 1, 0, none⟩ = some (.int .i64 0) := by go_simp
            have m1' : (((w7.setCell ⟨q9, 0, none⟩ (.int .i64 x0)).setCell ⟨q9, 1, none⟩ (.int .i64 x1)).setCell ⟨q9, 2, none⟩ (.int .i64 x2)).cell? ⟨w.heap.size + 1, 1, none⟩ = some (.int .i64 0) := by go_simp
            have m2' : (((w7.setCell ⟨q9, 0, none⟩ (.int .i64 x0)).setCell ⟨q9, 1, none⟩ (.int .i64 x1)).setCell ⟨q9, 2, none⟩ (.int .i64 x2)).frozen? ⟨w.heap.size + 1, 0, none⟩ = false := by go_simp
            have m3' : (((w7.setCell ⟨q9, 0, none⟩ (.int .i64 x0)).setCell ⟨q9, 1, none⟩ (.int .i64 x1)).setCell ⟨q9, 2, none⟩ (.int .i64 x2)).frozen? ⟨w.heap.size + 1, 1, none⟩ = false := by go_simp
            have m4' : w.heap.size + 1 < (((w7.setCell ⟨q9, 0, none⟩ (.int .i64 x0)).setCell ⟨q9, 1, none⟩ (.int .i64 x1)).setCell ⟨q9, 2, none⟩ (.int .i64 x2)).heap.size := by simp; omega
            have hb23 : Below w.heap.size w (((w7.setCell ⟨q9, 0, none⟩ (.int .i64 x0)).setCell ⟨q9, 1, none⟩ (.int .i64 x1)).setCell ⟨q9, 2, none⟩ (.int .i64 x2)) := (by repeat (first | with_reducible exact Below.refl _ _ | with_reducible refine bdrew ?_ | ((with_reducible first | refine bset ?_ ?_ | refine ball ?_ ?_ | refine bth (by assumption) ?_ ?_); first | omega | (simp <;> omega))))
            go_wp2
            generalize (((w7.setCell ⟨q9, 0, none⟩ (.int .i64 x0)).setCell ⟨q9, 1, none⟩ (.int .i64 x1)).setCell ⟨q9, 2, none⟩ (.int .i64 x2)) = W at *
            have HB' := hide HB
            obtain ⟨e0, e1, e2, e3, e4, e5, e6, e7, e8, e9⟩ := HB
            clear hc7 hf7 hC7 hb22 bc0 bc1 bc2 dc0 dc1 dc2
            have F0 := fieldS0
            have F1 := fieldS1
            refine QT.tail_b 19 (by kernel_rfl) (by kernel_rfl) ?_
            simp only [List.take_succ_cons, List.take_zero, List.drop_succ_cons, List.drop_zero]
            repeat (first
              | go_big_quiet_skip
              | (go_big_quiet_want; go_big_quiet_op; first
                | go_big_quiet_on
                | (apply Exists.intro
                   refine ⟨fun _ => ?_, ?_⟩
                   · first
                       | rfl
                       | (intro hC; obtain ⟨hcq, hfq⟩ := bcellB hC; go_simp; done)
                       | (intro hC; obtain ⟨hcq, hfq⟩ := bcellB hC; go_simp; rfl)
                       | (intro hC; have hcq := bcellG hC; go_simp; done)
                       | (intro hC; have hcq := bcellG hC; go_simp; rfl)
                       | (intro hC; (first | (with_reducible refine (A1.out _ _ _ _ (HB'.out.below hC)).mono ?_) | (with_reducible refine (A2.out _ _ _ _ (HB'.out.below hC)).mono ?_)); (intro e w2 hw; exact ⟨hw.1, qtrans (by simp) hC hw.2⟩))
                   go_big_quiet_on)))
            refine wpQuiet_nil ?_
            intro w9 hC9
            obtain ⟨hc9, hf9⟩ := bcellB hC9
            have hz9 := hC9.size
            go_wp2
            refine bodyPost_ret (v := .agg #[.int .i64 (VL), .int .i64 (VH)]) (by simp only [results, Try.results103]; go_simp) rfl ⟨rfl, (by repeat (first | with_reducible exact Below.refl _ _ | with_reducible refine bdrew ?_ | ((with_reducible first | refine bset ?_ ?_ | refine ball ?_ ?_ | refine bth (by assumption) ?_ ?_); first | omega | (simp <;> omega))))⟩
end Go.Proofs.Ytbfbnmmgmkbieaa
