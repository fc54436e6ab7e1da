/- Packed: Lines Look. -/
import Derived.Laws.EntriesVeiled
import Derived.Test.YtkkanjeamngdiaaDoorP2
import Derived.Test.YtkkanjeamngdiaaDoorP6
import Derived.Test.YtkkanjeamngdiaaDoorP8
set_option linter.unusedVariables false
set_option linter.unusedSimpArgs false
namespace Go.Proofs.YtkkanjeamngdiaaDoor
section
open Go.RowKit
theorem fieldS0 (a b : Int) (w : World) : Sem.run Tryd.prog (Instr.field 25 (.agg #[.int .i64 a, .int .i64 b]) 0) w = .ok (.int .i64 a) w := by
 unfold Instr.field
 simp [go_sem, part, asAgg]
theorem fieldS1 (a b : Int) (w : World) : Sem.run Tryd.prog (Instr.field 25 (.agg #[.int .i64 a, .int .i64 b]) 1) w = .ok (.int .i64 b) w := by
 unfold Instr.field
 simp [go_sem, part, asAgg]
structure HasL (b3 b6 b7 : Nat) (x pa pl ph qa ql qh : Int) (w : World) : Prop where
 cx : w.cell? ⟨b3, 0, none⟩ = some (.int .i64 x)
 pa : w.cell? ⟨b6, 0, none⟩ = some (.int .i64 pa)
 pl : w.cell? ⟨b6, 1, none⟩ = some (.int .i64 pl)
 ph : w.cell? ⟨b6, 2, none⟩ = some (.int .i64 ph)
 qa : w.cell? ⟨b7, 0, none⟩ = some (.int .i64 qa)
 ql : w.cell? ⟨b7, 1, none⟩ = some (.int .i64 ql)
 qh : w.cell? ⟨b7, 2, none⟩ = some (.int .i64 qh)
 l3 : b3 < w.heap.size
 l6 : b6 < w.heap.size
 l7 : b7 < w.heap.size
theorem HasL.below {b3 b6 b7 : Nat} {x pa pl ph qa ql qh : Int} {w w' : World} (h : HasL b3 b6 b7 x pa pl ph qa ql qh w) (hb : Below w.heap.size w w') : HasL b3 b6 b7 x pa pl ph qa ql qh w' := by
 have hc := (bcell hb).1
 have hs := hb.size
 exact ⟨(hc b3 0 h.l3).trans h.cx, (hc b6 0 h.l6).trans h.pa, (hc b6 1 h.l6).trans h.pl, (hc b6 2 h.l6).trans h.ph, (hc b7 0 h.l7).trans h.qa, (hc b7 1 h.l7).trans h.ql, (hc b7 2 h.l7).trans h.qh, Nat.lt_of_lt_of_le h.l3 hs, Nat.lt_of_lt_of_le h.l6 hs, Nat.lt_of_lt_of_le h.l7 hs⟩
theorem along_any (b3 b6 b7 : Nat) (x pa pl ph qa ql qh fr tt : Int) (hf : -2305843009213693952 ≤ fr ∧ fr ≤ 2305843009213693952) (ht : -2305843009213693952 ≤ tt ∧ tt ≤ 2305843009213693952) (ha : -2305843009213693952 ≤ pa ∧ qa ≤ 2305843009213693952) (hx : pa ≤ x ∧ x ≤ qa) (hd : pa < qa) (w : World) (hw : HasL b3 b6 b7 x pa pl ph qa ql qh w) :
  Calls Tryd.prog 27 #[.int .i64 fr, .int .i64 tt, .pointer (some ⟨b3, 0, none⟩), .pointer (some ⟨b6, 0, none⟩), .pointer (some ⟨b7, 0, none⟩)] w fun e w' => e = .returned (.agg #[.int .i64 (fr + (tt - fr) * (x - pa) / (qa - pa)), .int .i64 (fr + cdiv ((tt - fr) * (x - pa)) (qa - pa))]) ∧ Below w.heap.size w w' := by
 obtain ⟨cx, c0, c1, c2, d0, d1, d2, l3, l6, l7⟩ := hw
 have hw := way_bd (c := tt - fr) (a := x - pa) (d := qa - pa) (by omega) (by omega) (by omega)
 have SH := share_any (tt - fr) (x - pa) (qa - pa) ⟨by omega, by omega⟩ ⟨by omega, by omega⟩ ⟨by omega, by omega⟩ (by omega)
 rw [(share_pos (x := tt - fr) (y := x - pa) (d := qa - pa) (by omega)).1, (share_pos (x := tt - fr) (y := x - pa) (d := qa - pa) (by omega)).2] at SH
 have bd : -4611686018427387904 ≤ (tt - fr) * (x - pa) / (qa - pa) ∧ (tt - fr) * (x - pa) / (qa - pa) ≤ 4611686018427387904 ∧ -4611686018427387904 ≤ cdiv ((tt - fr) * (x - pa)) (qa - pa) ∧ cdiv ((tt - fr) * (x - pa)) (qa - pa) ≤ 4611686018427387904 := by
  rcases Int.le_total 0 (tt - fr) with h | h
  ·have := hw.1 h; omega
  ·have := hw.2 h; omega
 have ft := out_t (lo := (tt - fr) * (x - pa) / (qa - pa)) (hi := cdiv ((tt - fr) * (x - pa)) (qa - pa)) (decide_eq_true (by omega))
 rw [ft.1, ft.2.1, ft.2.2] at SH
 have SH' := hide SH
 clear SH ft hw
 obtain ⟨f1, f2⟩ := hf
 obtain ⟨t1, t2⟩ := ht
 obtain ⟨a1, a2⟩ := ha
 obtain ⟨x1, x2⟩ := hx
 obtain ⟨b1, b2, b4, b5⟩ := bd
 generalize (tt - fr) * (x - pa) / (qa - pa) = L at *
 generalize cdiv ((tt - fr) * (x - pa)) (qa - pa) = H at *
 have n3 : ¬ b3 = w.heap.size := by omega
 have n6 : ¬ b6 = w.heap.size := by omega
 have n7 : ¬ b7 = w.heap.size := by omega
 go_enter Tryd.func27, Tryd.ntmps27
 go_wp2_with fail
 refine (SH'.out _).mono ?_
 rintro e w1 ⟨rfl, hb1⟩
 obtain ⟨hc1, hf1⟩ := bcell hb1
 have hz1 := hb1.size
 try simp only [World.size_alloc, World.size_setCell] at hz1
 try have : w.heap.size < w1.heap.size := by omega
 try have : w.heap.size < w1.heap.size + 1 := by omega
 try have : w.heap.size ≤ w1.heap.size := by omega
 have c1_0_0 := zci w1 w.heap.size 0 (0) (by go_simp)
 have g1_0_0 := zfe w1 w.heap.size 0 (by go_simp)
 have c1_0_1 := zci w1 w.heap.size 1 (0) (by go_simp)
 have g1_0_1 := zfe w1 w.heap.size 1 (by go_simp)
 clear hc1 hf1
 go_wp2
 refine bodyPost_ret (v := .agg #[.int .i64 (fr + L), .int .i64 (fr + H)]) (by simp only [results, Tryd.results27]; go_simp) rfl ⟨rfl, blw_⟩
set_option maxHeartbeats 4000000 in
set_option maxRecDepth 100000 in
theorem lines_any (n m cap : Nat) (ad : Addr) (at_ lo hi : Nat → Int) (hR : Right n at_ lo hi) (x : Int) (hN : Next at_ n x m) (w : World) (hT : Tab w ad n at_ lo hi) :
  Calls Tryd.prog 18 #[.slice (some ad) n cap, .int .i64 x] w fun e w' => e = .returned (.agg #[.int .i64 (lnL lo at_ n m x), .int .i64 (lnH hi at_ n m x)]) ∧ Below w.heap.size w w' := by
 obtain ⟨VL, hVL⟩ : ∃ v, lnL lo at_ n m x = v := ⟨_, rfl⟩
 obtain ⟨VH, hVH⟩ : ∃ v, lnH hi at_ n m x = v := ⟨_, rfl⟩
 rw [hVL, hVH]
 have HL := hide hVL
 have HH := hide hVH
 have HT := hide hT
 have HR := hide hR
 have HN := hide hN
 have hblk := hT.blk
 have hba := block_add ad
 have hn1 := hR.pos
 have hn2 := hR.few
 have hmn := hN.le
 clear hVL hVH hT hR hN
 go_enter Tryd.func18, Tryd.ntmps18
 go_wp2
 go_loopw [5] (fun s5 wr => ∃ k : Nat, k ≤ m ∧ s5 = .int .i64 k ∧ Below w.heap.size w wr ∧ w.heap.size + 1 < wr.heap.size ∧ wr.cell? ⟨w.heap.size, 0, none⟩ = some (.int .i64 x) ∧ wr.cell? ⟨w.heap.size + 1, 0, none⟩ = some (.int .i64 0) ∧ wr.cell? ⟨w.heap.size + 1, 1, none⟩ = some (.int .i64 0) ∧ wr.frozen? ⟨w.heap.size + 1, 0, none⟩ = false ∧ wr.frozen? ⟨w.heap.size + 1, 1, none⟩ = false) (fun s5 _ => m - (intOf s5).toNat)
 case atStart => exact ⟨0, by omega, rfl, blw_, by simp, by go_simp, by go_simp, by go_simp, by go_simp, by go_simp⟩
 case round =>
  obtain ⟨k, hk, rfl, hb20, hz0, b0, b1, b2, b3, b4⟩ := hrel
  have hTr := HT.out.below hb20
  have hbr := hTr.blk
  have hz1 : w.heap.size < wr.heap.size := by omega
  by_cases hlt : k < m
  ·have t0 := hTr.ca k (by omega)
   have g1 : decide ((k : Int) < (n : Int)) = true := decide_eq_true (by omega)
   have g1' : decide (k < n) = true := decide_eq_true (by omega)
   have g2 : decide (at_ k < x) = true := decide_eq_true (HN.out.before k hlt)
   have hkn : k < n := by omega
   clear hTr
   generalize at_ k = x0 at *
   go_wp2_with fail
   refine QT.quiet_b (by kernel_rfl) (by kernel_rfl) ?_
   repeat (first
    | go_big_quiet_skip
    | (go_big_quiet_want; go_big_quiet_op; first
     | go_big_quiet_on
     | (apply Exists.intro
        refine ⟨fun _ => ?_, ?_⟩
        ·first
         | rfl
         | (intro hC; obtain ⟨hcq, hfq⟩ := bcellB hC; go_simp; done)
         | (intro hC; obtain ⟨hcq, hfq⟩ := bcellB hC; go_simp; rfl)
         | (intro hC; have hcq := bcellG hC; go_simp; done)
         | (intro hC; have hcq := bcellG hC; go_simp; rfl)
        go_big_quiet_on)))
   refine wpQuiet_nil ?_
   intro w9 hC9
   obtain ⟨hc9, hf9⟩ := bcellB hC9
   have hz9 := hC9.size
   go_wp2
   go_roundw
   case rel => exact ⟨k + 1, by omega, by go_num, blw_, by omega, by go_simp, by go_simp, by go_simp, by go_simp, by go_simp⟩
   case measure => simp [intOf]; omega
  ·obtain rfl : k = m := by omega
   by_cases hkn : k = n
   ·subst hkn
    obtain ⟨j, rfl⟩ : ∃ j, k = j + 1 := ⟨k - 1, by omega⟩
    have t1 := hTr.cl j (by omega)
    have t2 := hTr.ch j (by omega)
    have E1 : Hid (lo j = VL) := hide (by rw [← HL.out]; unfold lnL; rw [if_pos rfl, Nat.add_sub_cancel])
    have E2 : Hid (hi j = VH) := hide (by rw [← HH.out]; unfold lnH; rw [if_pos rfl, Nat.add_sub_cancel])
    rw [E1.out] at t1
    rw [E2.out] at t2
    have g1 : decide (((j + 1 : Nat) : Int) < ((j + 1 : Nat) : Int)) = false := decide_eq_false (by omega)
    have g2 : decide (j + 1 < j + 1) = false := decide_eq_false (by omega)
    clear hTr
    go_wp2_with fail
    refine QT.quiet_b (by kernel_rfl) (by kernel_rfl) ?_
    repeat (first
     | go_big_quiet_skip
     | (go_big_quiet_want; go_big_quiet_op; first
      | go_big_quiet_on
      | (apply Exists.intro
         refine ⟨fun _ => ?_, ?_⟩
         ·first
          | rfl
          | (intro hC; obtain ⟨hcq, hfq⟩ := bcellB hC; go_simp; done)
          | (intro hC; obtain ⟨hcq, hfq⟩ := bcellB hC; go_simp; rfl)
          | (intro hC; have hcq := bcellG hC; go_simp; done)
          | (intro hC; have hcq := bcellG hC; go_simp; rfl)
         go_big_quiet_on)))
    refine wpQuiet_nil ?_
    intro w9 hC9
    obtain ⟨hc9, hf9⟩ := bcellB hC9
    have hz9 := hC9.size
    go_wp2
    refine bodyPost_ret (v := .agg #[.int .i64 (VL), .int .i64 (VH)]) (by simp only [results, Tryd.results18]; go_simp) rfl ⟨rfl, blw_⟩
   ·have hkn2 : k < n := by omega
    have hst : ¬ at_ k < x := by rcases HN.out.stop with h | h; exact absurd h hkn; exact h
    have t0 := hTr.ca k hkn2
    have g1 : decide ((k : Int) < (n : Int)) = true := decide_eq_true (by omega)
    have g1' : decide (k < n) = true := decide_eq_true (by omega)
    have g2 : decide (at_ k < x) = false := decide_eq_false hst
    have g3 : ((k : Int) == (n : Int)) = false := beq_eq_false_iff_ne.2 (by omega)
    have g3' : (k == n) = false := beq_eq_false_iff_ne.2 hkn
    by_cases hk0 : k = 0
    ·subst hk0
     have t1 := hTr.cl 0 (by omega)
     have t2 := hTr.ch 0 (by omega)
     have E1 : Hid (lo 0 = VL) := hide (by rw [← HL.out]; unfold lnL; rw [if_neg hkn, if_pos rfl])
     have E2 : Hid (hi 0 = VH) := hide (by rw [← HH.out]; unfold lnH; rw [if_neg hkn, if_pos rfl])
     rw [E1.out] at t1
     rw [E2.out] at t2
     have ha0 : ad.add (0 * 3) = ad := by simp [Addr.add]
     rw [ha0] at t0 t1 t2
     clear hTr hst ha0
     generalize at_ 0 = x0 at *
     go_wp2_with fail
     refine QT.quiet_b (by kernel_rfl) (by kernel_rfl) ?_
     repeat (first
      | go_big_quiet_skip
      | (go_big_quiet_want; go_big_quiet_op; first
       | go_big_quiet_on
       | (apply Exists.intro
          refine ⟨fun _ => ?_, ?_⟩
          ·first
           | rfl
           | (intro hC; obtain ⟨hcq, hfq⟩ := bcellB hC; go_simp; done)
           | (intro hC; obtain ⟨hcq, hfq⟩ := bcellB hC; go_simp; rfl)
           | (intro hC; have hcq := bcellG hC; go_simp; done)
           | (intro hC; have hcq := bcellG hC; go_simp; rfl)
          go_big_quiet_on)))
     refine wpQuiet_nil ?_
     intro w9 hC9
     obtain ⟨hc9, hf9⟩ := bcellB hC9
     have hz9 := hC9.size
     have t1' : w9.cell? ⟨ad.block, ad.off + 1, none⟩ = some (.int .i64 VL) := by go_simp
     have t2' : w9.cell? ⟨ad.block, ad.off + 2, none⟩ = some (.int .i64 VH) := by go_simp
     go_wp2
     refine bodyPost_ret (v := .agg #[.int .i64 (VL), .int .i64 (VH)]) (by simp only [results, Tryd.results18]; go_simp) rfl ⟨rfl, blw_⟩
    ·obtain ⟨j, rfl⟩ : ∃ j, k = j + 1 := ⟨k - 1, by omega⟩
     have t1 := hTr.cl (j + 1) (by omega)
     have t2 := hTr.ch (j + 1) (by omega)
     have u0 := hTr.ca j (by omega)
     have u1 := hTr.cl j (by omega)
     have u2 := hTr.ch j (by omega)
     have E1 : Hid (lo j + (lo (j + 1) - lo j) * (x - at_ j) / (at_ (j + 1) - at_ j) = VL) := hide (by rw [← HL.out]; unfold lnL; rw [if_neg hkn, if_neg hk0, Nat.add_sub_cancel])
     have E2 : Hid (hi j + cdiv ((hi (j + 1) - hi j) * (x - at_ j)) (at_ (j + 1) - at_ j) = VH) := hide (by rw [← HH.out]; unfold lnH; rw [if_neg hkn, if_neg hk0, Nat.add_sub_cancel])
     have px : at_ j < x := HN.out.before j (by omega)
     have hup := HR.out.up j hkn2
     have A1 := hide (fun b3 b6 b7 => along_any b3 b6 b7 x (at_ j) (lo j) (hi j) (at_ (j + 1)) (lo (j + 1)) (hi (j + 1)) (lo j) (lo (j + 1)) (HR.out.l j (by omega)) (HR.out.l (j + 1) (by omega)) ⟨(HR.out.a j (by omega)).1, (HR.out.a (j + 1) (by omega)).2⟩ ⟨by omega, by omega⟩ hup)
     have A2 := hide (fun b3 b6 b7 => along_any b3 b6 b7 x (at_ j) (lo j) (hi j) (at_ (j + 1)) (lo (j + 1)) (hi (j + 1)) (hi j) (hi (j + 1)) (HR.out.h j (by omega)) (HR.out.h (j + 1) (by omega)) ⟨(HR.out.a j (by omega)).1, (HR.out.a (j + 1) (by omega)).2⟩ ⟨by omega, by omega⟩ hup)
     rw [E1.out] at A1
     rw [E2.out] at A2
     have hb8 := hTr.blk
     have g4 : decide ((j : Int) + 1 < (n : Int)) = true := decide_eq_true (by omega)
     have g5 : ((j : Int) + 1 == (n : Int)) = false := beq_eq_false_iff_ne.2 (by omega)
     have g6 : ((j : Int) + 1 == 0) = false := beq_eq_false_iff_ne.2 (by omega)
     have g7 : (j : Int) + 1 < (n : Int) := by omega
     clear hTr hst hup px E1 E2
     generalize hi j + cdiv ((hi (j + 1) - hi j) * (x - at_ j)) (at_ (j + 1) - at_ j) = Z at *
     generalize lo j + (lo (j + 1) - lo j) * (x - at_ j) / (at_ (j + 1) - at_ j) = Y at *
     generalize at_ (j + 1) = x0 at *
     generalize lo (j + 1) = x1 at *
     generalize hi (j + 1) = x2 at *
     generalize at_ j = y0 at *
     generalize lo j = y1 at *
     generalize hi j = y2 at *
     go_wp2_with fail
     refine QT.quiet_b (by kernel_rfl) (by kernel_rfl) ?_
     repeat (first
      | go_big_quiet_skip
      | (go_big_quiet_want; go_big_quiet_op; first
       | go_big_quiet_on
       | (apply Exists.intro
          refine ⟨fun _ => ?_, ?_⟩
          ·first
           | rfl
           | (intro hC; obtain ⟨hcq, hfq⟩ := bcellB hC; go_simp; done)
           | (intro hC; obtain ⟨hcq, hfq⟩ := bcellB hC; go_simp; rfl)
           | (intro hC; have hcq := bcellG hC; go_simp; done)
           | (intro hC; have hcq := bcellG hC; go_simp; rfl)
          go_big_quiet_on)))
     refine wpQuiet_nil ?_
     intro w9 hC9
     obtain ⟨hc9, hf9⟩ := bcellB hC9
     have hz9 := hC9.size
     go_wp2
     have hb21 := hC9
     have zz : w.heap.size < w9.heap.size ∧ w.heap.size + 1 < w9.heap.size ∧ ad.block < w9.heap.size := by omega
     obtain ⟨zz1, zz2, zz3⟩ := zz
     have k0 : w9.cell? (ad.add ((j + 1) * 3)) = some (.int .i64 x0) := (bcellG hC9 _ (by rw [hba]; exact hb8)).trans t0
     have k1 : w9.cell? ⟨ad.block, (ad.add ((j + 1) * 3)).off + 1, none⟩ = some (.int .i64 x1) := (bcellG hC9 ⟨ad.block, _, none⟩ hb8).trans t1
     have k2 : w9.cell? ⟨ad.block, (ad.add ((j + 1) * 3)).off + 2, none⟩ = some (.int .i64 x2) := (bcellG hC9 ⟨ad.block, _, none⟩ hb8).trans t2
     have k3 : w9.cell? (ad.add (j * 3)) = some (.int .i64 y0) := (bcellG hC9 _ (by rw [hba]; exact hb8)).trans u0
     have k4 : w9.cell? ⟨ad.block, (ad.add (j * 3)).off + 1, none⟩ = some (.int .i64 y1) := (bcellG hC9 ⟨ad.block, _, none⟩ hb8).trans u1
     have k5 : w9.cell? ⟨ad.block, (ad.add (j * 3)).off + 2, none⟩ = some (.int .i64 y2) := (bcellG hC9 ⟨ad.block, _, none⟩ hb8).trans u2
     have m0 := zci w9 w.heap.size 0 x (by go_simp)
     have m1 := zci w9 (w.heap.size + 1) 0 0 (by go_simp)
     have m2 := zci w9 (w.heap.size + 1) 1 0 (by go_simp)
     have m3 := zfe w9 (w.heap.size + 1) 0 (by go_simp)
     have m4 := zfe w9 (w.heap.size + 1) 1 (by go_simp)
     clear hc9 hf9 t0 t1 t2 u0 u1 u2 b0 b1 b2 b3 b4
     refine QG.region_float2_ex 9 69 (QG.FD3 _ _ (.int .i64 0) (.int .i64 0) (.int .i64 0) (.int .i64 y0) (.int .i64 y1) (.int .i64 y2)) _ _ _ (by kernel_rfl) (by kernel_rfl) rfl rfl rfl rfl rfl rfl rfl (by kernel_rfl) (by kernel_rfl) rfl (show QG.FD3 _ _ _ _ _ _ _ _ (none, none, false) _ from ⟨((Below.refl w9.heap.size w9)).drew, trivial, trivial, trivial⟩) ?_
     apply Exists.intro
     refine ⟨fun j => ?h1, ?hf1, ?hf2, ?hf3, ?ht⟩
     case h1 =>
      simp only [List.take_succ_cons, List.take_zero, List.drop_succ_cons, List.drop_zero]
      repeat (first
       | go_big_quiet_skip
       | (go_big_quiet_want; go_big_quiet_op; first
        | go_big_quiet_on
        | (apply Exists.intro
           refine ⟨fun _ => ?_, ?_⟩
           ·first
            | rfl
            | (intro hC; obtain ⟨hcq, hfq⟩ := bcellB (QG.FD3.below hC); go_simp; done)
            | (intro hC; obtain ⟨hcq, hfq⟩ := bcellB (QG.FD3.below hC); go_simp; rfl)
            | (intro hC; have hcq := bcellG (QG.FD3.below hC); go_simp; done)
            | (intro hC; have hcq := bcellG (QG.FD3.below hC); go_simp; rfl)
           go_big_quiet_on)))
      exact wpQuiet_nil rfl
     case hf1 =>
      intro f8 w8 hD8
      have hm8 := QG.FD3.made1 (t := 32) (by simp) hD8
      go_simp
      simpa [QF.floatRes] using hm8
     case hf2 =>
      intro f8 b8 w8 hD8
      have hm8 := QG.FD3.made2 (t := 32) (by simp) hD8
      go_simp
      simpa [QF.floatRes] using hm8
     case hf3 =>
      intro u8 f8 w8 hD8
      obtain ⟨p8, rfl, hp8, fc0, fc1, fc2, ff0, ff1, ff2⟩ := QG.FD3.open_ hD8
      have hm8 := QG.FD3.stored (by simp) hD8
      go_simp
      simpa [QF.floatRes] using hm8
     case ht =>
      intro u9 v9 w7 hD9
      simp only [List.drop_succ_cons, List.drop_zero]
      obtain ⟨hC7, ⟨p9, rfl, hp9, hq9, bc0, bc1, bc2, bf0, bf1, bf2⟩, ⟨q9, rfl, hp8, hq8, dc0, dc1, dc2, df0, df1, df2⟩, htw⟩ := hD9
      simp only [if_true] at bc0 bc1 bc2
      have hne9 : ¬ p9 = q9 := fun h => htw (by rw [h])
      have hne8 : ¬ q9 = p9 := fun h => hne9 h.symm
      obtain ⟨hc7, hf7⟩ := bcellB hC7
      have hz7 := hC7.size
      try simp only [World.size_alloc, World.size_setCell] at hz7 hp9 hp8
      clear htw
      have hb22 := hC7
      have nn : ¬ w.heap.size = p9 ∧ ¬ w.heap.size = q9 ∧ ¬ w.heap.size + 1 = p9 ∧ ¬ w.heap.size + 1 = q9 ∧ ¬ p9 = w.heap.size ∧ ¬ q9 = w.heap.size ∧ ¬ p9 = w.heap.size + 1 ∧ ¬ q9 = w.heap.size + 1 ∧ w.heap.size < w7.heap.size ∧ w.heap.size + 1 < w7.heap.size := by omega
      obtain ⟨nn1, nn2, nn3, nn4, nn5, nn6, nn7, nn8, nn9, nn10⟩ := nn
      have HB : HasL w.heap.size p9 q9 x y0 y1 y2 x0 x1 x2 (((w7.setCell ⟨q9, 0, none⟩ (.int .i64 x0)).setCell ⟨q9, 1, none⟩ (.int .i64 x1)).setCell ⟨q9, 2, none⟩ (.int .i64 x2)) := ⟨by go_simp, by go_simp, by go_simp, by go_simp, by go_simp, by go_simp, by go_simp, by (simp; omega), by (simp; omega), by (simp; omega)⟩
      have m0' : (((w7.setCell ⟨q9, 0, none⟩ (.int .i64 x0)).setCell ⟨q9, 1, none⟩ (.int .i64 x1)).setCell ⟨q9, 2, none⟩ (.int .i64 x2)).cell? ⟨w.heap.size + 1, 0, none⟩ = some (.int .i64 0) := by go_simp
      have m1' : (((w7.setCell ⟨q9, 0, none⟩ (.int .i64 x0)).setCell ⟨q9, 1, none⟩ (.int .i64 x1)).setCell ⟨q9, 2, none⟩ (.int .i64 x2)).cell? ⟨w.heap.size + 1, 1, none⟩ = some (.int .i64 0) := by go_simp
      have m2' : (((w7.setCell ⟨q9, 0, none⟩ (.int .i64 x0)).setCell ⟨q9, 1, none⟩ (.int .i64 x1)).setCell ⟨q9, 2, none⟩ (.int .i64 x2)).frozen? ⟨w.heap.size + 1, 0, none⟩ = false := by go_simp
      have m3' : (((w7.setCell ⟨q9, 0, none⟩ (.int .i64 x0)).setCell ⟨q9, 1, none⟩ (.int .i64 x1)).setCell ⟨q9, 2, none⟩ (.int .i64 x2)).frozen? ⟨w.heap.size + 1, 1, none⟩ = false := by go_simp
      have m4' : w.heap.size + 1 < (((w7.setCell ⟨q9, 0, none⟩ (.int .i64 x0)).setCell ⟨q9, 1, none⟩ (.int .i64 x1)).setCell ⟨q9, 2, none⟩ (.int .i64 x2)).heap.size := by simp; omega
      have hb23 : Below w.heap.size w (((w7.setCell ⟨q9, 0, none⟩ (.int .i64 x0)).setCell ⟨q9, 1, none⟩ (.int .i64 x1)).setCell ⟨q9, 2, none⟩ (.int .i64 x2)) := blw_
      go_wp2
      generalize (((w7.setCell ⟨q9, 0, none⟩ (.int .i64 x0)).setCell ⟨q9, 1, none⟩ (.int .i64 x1)).setCell ⟨q9, 2, none⟩ (.int .i64 x2)) = W at *
      have HB' := hide HB
      obtain ⟨e0, e1, e2, e3, e4, e5, e6, e7, e8, e9⟩ := HB
      clear hc7 hf7 hC7 hb22 bc0 bc1 bc2 dc0 dc1 dc2
      have F0 := fieldS0
      have F1 := fieldS1
      refine QT.tail_b 19 (by kernel_rfl) (by kernel_rfl) ?_
      simp only [List.take_succ_cons, List.take_zero, List.drop_succ_cons, List.drop_zero]
      repeat (first
       | go_big_quiet_skip
       | (go_big_quiet_want; go_big_quiet_op; first
        | go_big_quiet_on
        | (apply Exists.intro
           refine ⟨fun _ => ?_, ?_⟩
           ·first
            | rfl
            | (intro hC; obtain ⟨hcq, hfq⟩ := bcellB hC; go_simp; done)
            | (intro hC; obtain ⟨hcq, hfq⟩ := bcellB hC; go_simp; rfl)
            | (intro hC; have hcq := bcellG hC; go_simp; done)
            | (intro hC; have hcq := bcellG hC; go_simp; rfl)
            | (intro hC; (first | (with_reducible refine (A1.out _ _ _ _ (HB'.out.below hC)).mono ?_) | (with_reducible refine (A2.out _ _ _ _ (HB'.out.below hC)).mono ?_)); (intro e w2 hw; exact ⟨hw.1, qtrans (by simp) hC hw.2⟩))
           go_big_quiet_on)))
      refine wpQuiet_nil ?_
      intro w9 hC9
      obtain ⟨hc9, hf9⟩ := bcellB hC9
      have hz9 := hC9.size
      go_wp2
      refine bodyPost_ret (v := .agg #[.int .i64 (VL), .int .i64 (VH)]) (by simp only [results, Tryd.results18]; go_simp) rfl ⟨rfl, blw_⟩
end
section
open Go.RowKit
def lkL (at_ v : Nat → Int) (xl xh s : Int) : Nat → Int
 | 0 => s
 | k + 1 => if xl ≤ at_ k ∧ at_ k ≤ xh then mi (lkL at_ v xl xh s k) (v k) else lkL at_ v xl xh s k
def lkH (at_ v : Nat → Int) (xl xh s : Int) : Nat → Int
 | 0 => s
 | k + 1 => if xl ≤ at_ k ∧ at_ k ≤ xh then mx (lkH at_ v xl xh s k) (v k) else lkH at_ v xl xh s k
theorem checktable_any (n cap : Nat) (A : Option Addr) (at_ lo hi : Nat → Int) (w : World) (hT : 0 < n → ∃ ad, A = some ad ∧ Tab w ad n at_ lo hi) (hI : ∀ i, i < n → I64 (at_ i) ∧ I64 (lo i) ∧ I64 (hi i)) (res : Int) (hres : (if tabB n at_ lo hi then (0 : Int) else 2) = res) :
  Calls Tryd.prog 5 #[.slice A n cap] w fun e w' => e = .returned (.int .i64 res) ∧ Below w.heap.size w w' := by
 by_cases h0 : n = 0
 ·subst h0
  obtain rfl : 2 = res := by rw [← hres]; simp [tabB]
  clear hres hT hI
  go_enter Tryd.func5, Tryd.ntmps5
  go_wp2
  go_ret
  exact ⟨rfl, blw_⟩
 ·obtain ⟨ad, rfl, hT'⟩ := hT (by omega)
  by_cases h1 : n ≤ 64
  ·exact checktable_run n cap ad at_ lo hi (by omega) h1 w hT' hI res (by rw [← hres]; simp [tabB, h1, Nat.pos_of_ne_zero h0])
  ·obtain rfl : 2 = res := by rw [← hres]; simp [tabB, h1]
   have g1 : ((n : Int) == 0) = false := by simp; omega
   have g2 : (n == 0) = false := by simp; omega
   have g3 : (64 : Int) < (n : Int) := by omega
   clear hres hT hI hT'
   go_enter Tryd.func5, Tryd.ntmps5
   go_wp2
   go_ret
   exact ⟨rfl, blw_⟩
structure LInv (w wr : World) (P : Nat) (xl xh a b : Int) : Prop where
 below : Below w.heap.size w wr
 z1 : w.heap.size + 1 < P
 z2 : P < wr.heap.size
 c0 : wr.cell? ⟨w.heap.size, 0, none⟩ = some (.int .i64 xl)
 c1 : wr.cell? ⟨w.heap.size, 1, none⟩ = some (.int .i64 xh)
 c2 : wr.cell? ⟨w.heap.size + 1, 0, none⟩ = some (.int .i64 0)
 c3 : wr.cell? ⟨w.heap.size + 1, 1, none⟩ = some (.int .i64 0)
 f2 : wr.frozen? ⟨w.heap.size + 1, 0, none⟩ = false
 f3 : wr.frozen? ⟨w.heap.size + 1, 1, none⟩ = false
 p0 : wr.cell? ⟨P, 0, none⟩ = some (.int .i64 a)
 p1 : wr.cell? ⟨P, 1, none⟩ = some (.int .i64 b)
 q0 : wr.frozen? ⟨P, 0, none⟩ = false
 q1 : wr.frozen? ⟨P, 1, none⟩ = false
set_option maxHeartbeats 8000000 in
set_option maxRecDepth 100000 in
theorem look_run (n m1 m2 cap : Nat) (ad : Addr) (at_ lo hi : Nat → Int) (hB : tabB n at_ lo hi = true) (xl xh : Int) (ix : I64 xl) (hv : vB xl xh = true) (hN1 : Next at_ n xl m1) (hN2 : Next at_ n xh m2) (w : World) (hT : Tab w ad n at_ lo hi) (hI : ∀ i, i < n → I64 (at_ i) ∧ I64 (lo i) ∧ I64 (hi i))
  (RL RH : Int) (hRL : lkL at_ lo xl xh (mi (lnL lo at_ n m1 xl) (lnL lo at_ n m2 xh)) n = RL) (hRH : lkH at_ hi xl xh (mx (lnH hi at_ n m1 xl) (lnH hi at_ n m2 xh)) n = RH) :
  Calls Tryd.prog 7 #[.slice (some ad) n cap, .agg #[.int .i64 (xl), .int .i64 (xh)]] w fun e w' => e = .returned (.tuple #[.agg #[.int .i64 (RL), .int .i64 (RH)], .int .i64 0]) ∧ Below w.heap.size w w' := by
 have hR := right_of hB
 have HT := hide hT
 have hblk := hT.blk
 have hba := block_add ad
 have CT := hide (fun W hW => checktable_any n cap (some ad) at_ lo hi W (fun _ => ⟨ad, rfl, hW⟩) hI 0 (by rw [hB]; rfl))
 have L1 := hide (fun W hW => lines_any n m1 cap ad at_ lo hi hR xl hN1 W hW)
 have L2 := hide (fun W hW => lines_any n m2 cap ad at_ lo hi hR xh hN2 W hW)
 have HV := hide hv
 have hn2 := hR.few
 have h0 := ix.1
 have HRL := hide hRL
 have HRH := hide hRH
 clear hB hN1 hN2 hT hI hRL hRH
 generalize lnL lo at_ n m1 xl = l1 at *
 generalize lnL lo at_ n m2 xh = l2 at *
 generalize lnH hi at_ n m1 xl = u1 at *
 generalize lnH hi at_ n m2 xh = u2 at *
 have SB := hide (sboth l1 u1 l2 u2)
 obtain ⟨s1, hs1⟩ : ∃ v, mi l1 l2 = v := ⟨_, rfl⟩
 obtain ⟨s2, hs2⟩ : ∃ v, mx u1 u2 = v := ⟨_, rfl⟩
 rw [hs1, hs2] at SB
 rw [hs1] at HRL
 rw [hs2] at HRH
 clear hs1 hs2
 go_enter Tryd.func7, Tryd.ntmps7
 go_wp2_with fail
 refine (CT.out _ (HT.out.below blw_)).mono ?_
 rintro e w1 ⟨rfl, hb1⟩
 obtain ⟨hc1, hf1⟩ := bcell hb1
 have hz1 := hb1.size
 try simp only [World.size_alloc, World.size_setCell] at hz1
 try refine zw2 w w1 (by omega) fun _ _ _ _ => ?_
 have c1_0_0 := zci w1 w.heap.size 0 (xl) (by go_simp)
 have c1_0_1 := zci w1 w.heap.size 1 (xh) (by go_simp)
 have c1_1_0 := zci w1 (w.heap.size + 1) 0 (0) (by go_simp)
 have g1_1_0 := zfe w1 (w.heap.size + 1) 0 (by go_simp)
 have c1_1_1 := zci w1 (w.heap.size + 1) 1 (0) (by go_simp)
 have g1_1_1 := zfe w1 (w.heap.size + 1) 1 (by go_simp)
 clear hc1 hf1
 go_wp2_with fail
 go_at_call 16
 refine (invalid1 xl xh _ _ _ h0 (by go_simp) (by go_simp) (by go_simp) false (by simpa using HV.out)).mono ?_
 rintro e w2 ⟨rfl, hb2⟩
 obtain ⟨hc2, hf2⟩ := bcell hb2
 have hz2 := hb2.size
 simp only [World.size_alloc] at hz2
 have y : w.heap.size < w1.heap.size + 1 ∧ w.heap.size + 1 < w1.heap.size + 1 ∧ w.heap.size < w2.heap.size ∧ w.heap.size + 1 < w2.heap.size := by omega
 obtain ⟨y1, y2, y3, y4⟩ := y
 have c0 := zci w2 w.heap.size 0 xl (by go_simp)
 have c1 := zci w2 w.heap.size 1 xh (by go_simp)
 have c2 := zci w2 (w.heap.size + 1) 0 0 (by go_simp)
 have c3 := zci w2 (w.heap.size + 1) 1 0 (by go_simp)
 have f2 := zfe w2 (w.heap.size + 1) 0 (by go_simp)
 have f3 := zfe w2 (w.heap.size + 1) 1 (by go_simp)
 have hb20 : Below w.heap.size w w2 := blw_
 have HT2 := hide (HT.out.below hb20)
 clear hc2 hf2
 go_wp2_with fail
 refine QF.region_float_ex 9 43 (QF.FD _ _ (.int .i64 0) (.int .i64 0)) _ (by kernel_rfl) (by kernel_rfl) rfl rfl rfl (show Below _ _ _ from ((Below.refl w2.heap.size w2)).drew) ?_
 apply Exists.intro
 refine ⟨fun j => ?h1, ?hf, ?ht⟩
 case h1 =>
  simp only [List.take_succ_cons, List.take_zero, List.drop_succ_cons, List.drop_zero]
  repeat (first
   | go_big_quiet_skip
   | (go_big_quiet_want; go_big_quiet_op; first
    | go_big_quiet_on
    | (apply Exists.intro
       refine ⟨fun _ => ?_, ?_⟩
       ·first
        | rfl
        | (intro hC; obtain ⟨hcq, hfq⟩ := bcellB (QF.FD.below hC); go_simp; done)
        | (intro hC; obtain ⟨hcq, hfq⟩ := bcellB (QF.FD.below hC); go_simp; rfl)
        | (intro hC; have hcq := bcellG (QF.FD.below hC); go_simp; done)
        | (intro hC; have hcq := bcellG (QF.FD.below hC); go_simp; rfl)
        | (intro hC; go_at_call 18; (first | (with_reducible refine (L1.out _ (HT2.out.below (QF.FD.below hC))).mono ?_) | (with_reducible refine (L2.out _ (HT2.out.below (QF.FD.below hC))).mono ?_)); (intro e w2 hw; exact ⟨hw.1, QF.FD.call (by simp) hC hw.2⟩))
        | (intro hC; go_at_call 17; (first | (with_reducible refine (SB.out _).mono ?_)); (intro e w2 hw; exact ⟨hw.1, QF.FD.call (by simp) hC hw.2⟩))
       go_big_quiet_on)))
  exact wpQuiet_nil rfl
 case hf =>
  intro w8 hD8
  have hm8 := QF.FD.made (t := 25) (by simp) hD8
  go_simp
  simpa [QF.floatRes] using hm8
 case ht =>
  intro u9 w9 hD9
  simp only [List.drop_succ_cons, List.drop_zero]
  obtain ⟨hC9, p9, rfl, hp9, hq9, bc0, bc1, bf0, bf1⟩ := hD9
  obtain ⟨hc9, hf9⟩ := bcellB hC9
  have hz9 := hC9.size
  try simp only [World.size_alloc, World.size_setCell] at hz9 hp9
  try have hs9 : w.heap.size < p9 := by omega
  try have hs9' : w.heap.size ≤ p9 := by omega
  try have ht9 : w.heap.size < w9.heap.size := by omega
  have nn : ¬ w.heap.size = p9 ∧ ¬ w.heap.size + 1 = p9 ∧ ¬ p9 = w.heap.size ∧ ¬ p9 = w.heap.size + 1 ∧ w.heap.size + 1 < w9.heap.size ∧ w.heap.size + 1 < p9 := by omega
  obtain ⟨nn1, nn2, nn3, nn4, nn5, nn6⟩ := nn
  go_wp2
  go_loopw [29, 8] (fun s29 s8 wr => ∃ (k : Nat) (a b : Int), k ≤ n ∧ s29 = .int .i64 k ∧ a = lkL at_ lo xl xh s1 k ∧ b = lkH at_ hi xl xh s2 k ∧ LInv w wr p9 xl xh a b) (fun s29 _ _ => n - (intOf s29).toNat)
  case atStart => exact ⟨0, s1, s2, by omega, rfl, rfl, rfl, ⟨blw_, by omega, by first | omega | (simp <;> omega), by go_simp, by go_simp, by go_simp, by go_simp, by go_simp, by go_simp, by go_simp, by go_simp, by go_simp, by go_simp⟩⟩
  case round =>
   obtain ⟨k, a, b, hk, rfl, hla, hlb, hb21, z1, z2, e0, e1, e2, e3, g2, g3, p0, p1, q0, q1⟩ := hrel
   clear hc9 hf9 bc0 bc1 bf0 bf1 hC9 c0 c1 c2 c3 f2 f3 HT2 hb20 hb1 hb2
   by_cases hlt : k < n
   ·have hTr := HT.out.below hb21
    have t0 := hTr.ca k hlt
    have t1 := hTr.cl k hlt
    have t2 := hTr.ch k hlt
    have hbr := hTr.blk
    have mm : w.heap.size < wr.heap.size ∧ w.heap.size + 1 < wr.heap.size ∧ ¬ p9 = wr.heap.size ∧ ¬ wr.heap.size = p9 := by omega
    obtain ⟨mm1, mm2, mm3, mm4⟩ := mm
    have IN := in_any xl xh (at_ k) h0
    by_cases ci : xl ≤ at_ k ∧ at_ k ≤ xh
    ·rw [show inB xl xh (at_ k) = true by unfold inB; rw [HV.out, decide_eq_true ci.1, decide_eq_true ci.2]; rfl] at IN
     subst hla hlb
     have N1 : Hid (mi (lkL at_ lo xl xh s1 k) (lo k) = lkL at_ lo xl xh s1 (k + 1)) := hide (by simp only [lkL]; rw [if_pos ci])
     have N2 : Hid (mx (lkH at_ hi xl xh s2 k) (hi k) = lkH at_ hi xl xh s2 (k + 1)) := hide (by simp only [lkH]; rw [if_pos ci])
     have SB2 := sboth (lkL at_ lo xl xh s1 k) (lkH at_ hi xl xh s2 k) (lo k) (hi k)
     rw [N1.out, N2.out] at SB2
     have IN' := hide IN
     have SB2' := hide SB2
     clear IN SB2 ci hTr N1 N2 HRL HRH
     generalize hn1 : lkL at_ lo xl xh s1 (k + 1) = n1 at *
     have M1 := hide hn1
     clear hn1
     generalize hn2 : lkH at_ hi xl xh s2 (k + 1) = n2 at *
     have M2 := hide hn2
     clear hn2
     generalize lkL at_ lo xl xh s1 k = o1 at *
     generalize lkH at_ hi xl xh s2 k = o2 at *
     generalize at_ k = x0 at *
     generalize lo k = x1 at *
     generalize hi k = x2 at *
     go_wp2_with fail
     refine (IN'.out _).mono ?_
     rintro e w11 ⟨rfl, hb11⟩
     obtain ⟨hc11, hf11⟩ := bcell hb11
     have hz11 := hb11.size
     try simp only [World.size_alloc, World.size_setCell] at hz11
     try refine zw2 w w11 (by omega) fun _ _ _ _ => ?_
     try refine zb p9 w11 (by omega) fun _ _ => ?_
     try have : wr.heap.size < w11.heap.size := by omega
     try have : wr.heap.size ≤ w11.heap.size := by omega
     have c11_0_0 := zci w11 w.heap.size 0 (xl) (by go_simp)
     have c11_0_1 := zci w11 w.heap.size 1 (xh) (by go_simp)
     have c11_1_0 := zci w11 (w.heap.size + 1) 0 (0) (by go_simp)
     have g11_1_0 := zfe w11 (w.heap.size + 1) 0 (by go_simp)
     have c11_1_1 := zci w11 (w.heap.size + 1) 1 (0) (by go_simp)
     have g11_1_1 := zfe w11 (w.heap.size + 1) 1 (by go_simp)
     have c11_2_0 := zci w11 p9 0 (o1) (by go_simp)
     have g11_2_0 := zfe w11 p9 0 (by go_simp)
     have c11_2_1 := zci w11 p9 1 (o2) (by go_simp)
     have g11_2_1 := zfe w11 p9 1 (by go_simp)
     have c11_3_0 := zci w11 wr.heap.size 0 (x0) (by go_simp)
     have c11_3_1 := zci w11 wr.heap.size 1 (x1) (by go_simp)
     have c11_3_2 := zci w11 wr.heap.size 2 (x2) (by go_simp)
     clear hc11 hf11
     go_wp2_with fail
     refine (SB2'.out _).mono ?_
     rintro e w12 ⟨rfl, hb12⟩
     obtain ⟨hc12, hf12⟩ := bcell hb12
     have hz12 := hb12.size
     try simp only [World.size_alloc, World.size_setCell] at hz12
     try refine zw2 w w12 (by omega) fun _ _ _ _ => ?_
     try refine zb p9 w12 (by omega) fun _ _ => ?_
     try have : wr.heap.size < w12.heap.size := by omega
     try have : wr.heap.size ≤ w12.heap.size := by omega
     have c12_0_0 := zci w12 w.heap.size 0 (xl) (by go_simp)
     have c12_0_1 := zci w12 w.heap.size 1 (xh) (by go_simp)
     have c12_1_0 := zci w12 (w.heap.size + 1) 0 (0) (by go_simp)
     have g12_1_0 := zfe w12 (w.heap.size + 1) 0 (by go_simp)
     have c12_1_1 := zci w12 (w.heap.size + 1) 1 (0) (by go_simp)
     have g12_1_1 := zfe w12 (w.heap.size + 1) 1 (by go_simp)
     have c12_2_0 := zci w12 p9 0 (o1) (by go_simp)
     have g12_2_0 := zfe w12 p9 0 (by go_simp)
     have c12_2_1 := zci w12 p9 1 (o2) (by go_simp)
     have g12_2_1 := zfe w12 p9 1 (by go_simp)
     have c12_3_0 := zci w12 wr.heap.size 0 (x0) (by go_simp)
     have c12_3_1 := zci w12 wr.heap.size 1 (x1) (by go_simp)
     have c12_3_2 := zci w12 wr.heap.size 2 (x2) (by go_simp)
     clear hc12 hf12 c11_0_0 c11_0_1 c11_1_0 g11_1_0 c11_1_1 g11_1_1 c11_2_0 g11_2_0 c11_2_1 g11_2_1 c11_3_0 c11_3_1 c11_3_2
     go_wp2
     go_roundw
     case rel => exact ⟨k + 1, n1, n2, by omega, by go_num, M1.out.symm, M2.out.symm, ⟨blw_, by omega, by first | omega | (simp <;> omega), by go_simp, by go_simp, by go_simp, by go_simp, by go_simp, by go_simp, by go_simp, by go_simp, by go_simp, by go_simp⟩⟩
     case measure => simp [intOf]; omega
    ·rw [show inB xl xh (at_ k) = false by unfold inB; rw [HV.out, Bool.true_and, ← Bool.decide_and]; exact decide_eq_false ci] at IN
     subst hla hlb
     have N1 : Hid (lkL at_ lo xl xh s1 k = lkL at_ lo xl xh s1 (k + 1)) := hide (by simp only [lkL]; rw [if_neg ci])
     have N2 : Hid (lkH at_ hi xl xh s2 k = lkH at_ hi xl xh s2 (k + 1)) := hide (by simp only [lkH]; rw [if_neg ci])
     rw [N1.out] at p0
     rw [N2.out] at p1
     have IN' := hide IN
     clear IN ci hTr N1 N2 HRL HRH
     generalize hn1 : lkL at_ lo xl xh s1 (k + 1) = n1 at *
     have M1 := hide hn1
     clear hn1
     generalize hn2 : lkH at_ hi xl xh s2 (k + 1) = n2 at *
     have M2 := hide hn2
     clear hn2
     generalize at_ k = x0 at *
     generalize lo k = x1 at *
     generalize hi k = x2 at *
     go_wp2_with fail
     refine (IN'.out _).mono ?_
     rintro e w11 ⟨rfl, hb11⟩
     obtain ⟨hc11, hf11⟩ := bcell hb11
     have hz11 := hb11.size
     try simp only [World.size_alloc, World.size_setCell] at hz11
     try refine zw2 w w11 (by omega) fun _ _ _ _ => ?_
     try refine zb p9 w11 (by omega) fun _ _ => ?_
     try have : wr.heap.size < w11.heap.size := by omega
     try have : wr.heap.size ≤ w11.heap.size := by omega
     have c11_0_0 := zci w11 w.heap.size 0 (xl) (by go_simp)
     have c11_0_1 := zci w11 w.heap.size 1 (xh) (by go_simp)
     have c11_1_0 := zci w11 (w.heap.size + 1) 0 (0) (by go_simp)
     have g11_1_0 := zfe w11 (w.heap.size + 1) 0 (by go_simp)
     have c11_1_1 := zci w11 (w.heap.size + 1) 1 (0) (by go_simp)
     have g11_1_1 := zfe w11 (w.heap.size + 1) 1 (by go_simp)
     have c11_2_0 := zci w11 p9 0 (n1) (by go_simp)
     have g11_2_0 := zfe w11 p9 0 (by go_simp)
     have c11_2_1 := zci w11 p9 1 (n2) (by go_simp)
     have g11_2_1 := zfe w11 p9 1 (by go_simp)
     have c11_3_0 := zci w11 wr.heap.size 0 (x0) (by go_simp)
     have c11_3_1 := zci w11 wr.heap.size 1 (x1) (by go_simp)
     have c11_3_2 := zci w11 wr.heap.size 2 (x2) (by go_simp)
     clear hc11 hf11
     go_wp2
     go_roundw
     case rel => exact ⟨k + 1, n1, n2, by omega, by go_num, M1.out.symm, M2.out.symm, ⟨blw_, by omega, by first | omega | (simp <;> omega), by go_simp, by go_simp, by go_simp, by go_simp, by go_simp, by go_simp, by go_simp, by go_simp, by go_simp, by go_simp⟩⟩
     case measure => simp [intOf]; omega
   ·obtain rfl : k = n := by omega
    rw [hla, HRL.out] at p0
    rw [hlb, HRH.out] at p1
    clear hla hlb
    have zz : w.heap.size + 1 < wr.heap.size := by omega
    clear HRL HRH
    go_wp2
    refine bodyPost_ret (v := .tuple #[.agg #[.int .i64 (RL), .int .i64 (RH)], .int .i64 0]) (by simp only [results, Tryd.results7]; go_simp) rfl ⟨rfl, blw_⟩
end
end Go.Proofs.YtkkanjeamngdiaaDoor
