/- Packed: RLook. -/
import Derived.OwnWalk
import Derived.Test.YtcjlpgmhlghdkaaGreatP17
import Derived.Test.YtcjlpgmhlghdkaaGreatP18
set_option linter.unusedVariables false
set_option linter.unusedSimpArgs false
namespace Go.Proofs.YtcjlpgmhlghdkaaGreat
section
open Go.RowKit
theorem num_info : (Tryz.prog.info? 22).map (fun i => (i.zero, i.size, i.bytes)) = some (some (.int .i64 0), 1, 8) := by kernel_rfl
theorem rchecktable_any (n cap : Nat) (A : Option Addr) (at_ lo hi : Nat → Int) (w : World) (hT : 0 < n → ∃ ad, A = some ad ∧ Tab w ad n at_ lo hi) (hI : ∀ i, i < n → I64 (at_ i) ∧ I64 (lo i) ∧ I64 (hi i)) (res : Int) (hres : (if tabB n at_ lo hi then (0 : Int) else 2) = res) :
  Calls Tryz.prog 35 #[.slice A n cap] w fun e w' => e = .returned (.int .i64 res) ∧ Below w.heap.size w w' := by
 by_cases h0 : n = 0
 ·subst h0
  obtain rfl : 2 = res := by rw [← hres]; simp [tabB]
  clear hres hT hI
  go_enter Tryz.func35, Tryz.ntmps35
  go_wp2
  go_ret
  exact ⟨rfl, blw_⟩
 ·obtain ⟨ad, rfl, hT'⟩ := hT (by omega)
  by_cases h1 : n ≤ 64
  ·exact rchecktable_run n cap ad at_ lo hi (by omega) h1 w hT' hI res (by rw [← hres]; simp [tabB, h1, Nat.pos_of_ne_zero h0])
  ·obtain rfl : 2 = res := by rw [← hres]; simp [tabB, h1]
   have g1 : ((n : Int) == 0) = false := by simp; omega
   have g2 : (n == 0) = false := by simp; omega
   have g3 : (64 : Int) < (n : Int) := by omega
   clear hres hT hI hT'
   go_enter Tryz.func35, Tryz.ntmps35
   go_wp2
   go_ret
   exact ⟨rfl, blw_⟩
theorem own_below {w w' : World} {base : Nat} {e : TypeId} {size : Nat} {v : Value} {n : Nat} {xs : List Value} (h : w.ownsRow base e size v n xs) (hb : Below w.heap.size w w') : w'.ownsRow base e size v n xs := by
 refine ⟨h.1, ?_⟩
 rcases h.2 with h1 | ⟨g, cap, cur, rfl, h1, h2, h3⟩
 ·exact .inl h1
 ·exact .inr ⟨g, cap, cur, rfl, h1, (hb.block g (Array.getElem?_eq_some_iff.1 h2).1).trans h2, h3⟩
theorem below_own {B : Nat} {a w w' : World} {base : Nat} {e : TypeId} {size : Nat} {v : Value} {n : Nat} {xs : List Value} (h : Below B a w) (ho : w.ownsRow base e size v n xs) (hg : w.grownBy w' v.ownBlock) (hB : B ≤ base) (hs : B ≤ w.heap.size) : Below B a w' :=
 h.grown hg hs (fun k hk => Nat.le_trans hB (ho.lt k hk).1)
theorem pls_map (at_ : Nat → Int) (xl xh : Int) (k : Nat) (h : xl ≤ at_ k ∧ at_ k ≤ xh) : (pls at_ xl xh (k + 1)).length = (pls at_ xl xh k).length + 1 ∧ (pls at_ xl xh (k + 1)).map (Value.int .i64) = (pls at_ xl xh k).map (Value.int .i64) ++ [.int .i64 (at_ k)] := by
 simp only [pls]
 rw [if_pos h]
 simp
theorem pls_same (at_ : Nat → Int) (xl xh : Int) (k : Nat) (h : ¬ (xl ≤ at_ k ∧ at_ k ≤ xh)) : pls at_ xl xh (k + 1) = pls at_ xl xh k := by
 simp only [pls]
 rw [if_neg h]
structure LV2 (W0 wq : World) (a b : Int) : Prop where
 below : Below W0.heap.size W0 wq
 z : W0.heap.size + 1 < wq.heap.size
 a0 : wq.cell? ⟨W0.heap.size, 0, none⟩ = some (.int .i64 (wH a))
 a1 : wq.cell? ⟨W0.heap.size, 1, none⟩ = some (.int .u64 (wL a))
 b0 : wq.cell? ⟨W0.heap.size + 1, 0, none⟩ = some (.int .i64 (wH b))
 b1 : wq.cell? ⟨W0.heap.size + 1, 1, none⟩ = some (.int .u64 (wL b))
 q0 : wq.frozen? ⟨W0.heap.size, 0, none⟩ = false
 q1 : wq.frozen? ⟨W0.heap.size, 1, none⟩ = false
 q2 : wq.frozen? ⟨W0.heap.size + 1, 0, none⟩ = false
 q3 : wq.frozen? ⟨W0.heap.size + 1, 1, none⟩ = false
set_option maxHeartbeats 8000000 in
set_option maxRecDepth 100000 in
theorem rlook_run (n cap : Nat) (ad : Addr) (at_ lo hi : Nat → Int) (hB : tabB n at_ lo hi = true) (xl xh : Int) (ix : I64 xl) (jx : I64 xh) (hv : vB xl xh = true) (w : World) (hT : Tab w ad n at_ lo hi) (hI : ∀ i, i < n → I64 (at_ i) ∧ I64 (lo i) ∧ I64 (hi i))
  (RL RH RE : Int) (fin : oLo (mnOf (fun p => lnL lo at_ n (nxt at_ n p) p) (pls at_ xl xh n)) (mxOf (fun p => lnH hi at_ n (nxt at_ n p) p) (pls at_ xl xh n)) = RL ∧ oHi (mnOf (fun p => lnL lo at_ n (nxt at_ n p) p) (pls at_ xl xh n)) (mxOf (fun p => lnH hi at_ n (nxt at_ n p) p) (pls at_ xl xh n)) = RH ∧ oE (mnOf (fun p => lnL lo at_ n (nxt at_ n p) p) (pls at_ xl xh n)) (mxOf (fun p => lnH hi at_ n (nxt at_ n p) p) (pls at_ xl xh n)) = RE) :
  Calls Tryz.prog 78 #[.slice (some ad) n cap, .agg #[.int .i64 (xl), .int .i64 (xh)]] w fun e w' => e = .returned (.tuple #[.agg #[.int .i64 (RL), .int .i64 (RH)], .int .i64 RE]) ∧ Below w.heap.size w w' := by
 obtain ⟨i0, hi0, hq0, hq1, hq2⟩ := info_parts num_info
 have hR := right_of hB
 have HT := hide hT
 have hblk := hT.blk
 have hba := block_add ad
 have CT := hide (fun W hW => rchecktable_any n cap (some ad) at_ lo hi W (fun _ => ⟨ad, rfl, hW⟩) hI 0 (by rw [hB]; rfl))
 have HRR := hide hR
 have hn2 := hR.few
 have RC := hide (rcheck xl xh 0 (by simp [chkI, hv]))
 have FIN := hide fin
 have HX := hide (And.intro ix jx)
 clear hB hT hI fin hR hv ix jx
 go_enter Tryz.func78, Tryz.ntmps78
 go_wp2_with fail
 refine (CT.out _ (HT.out.below blw_)).mono ?_
 rintro e w1 ⟨rfl, hb1⟩
 obtain ⟨hc1, hf1⟩ := bcell hb1
 have hz1 := hb1.size
 try simp only [World.size_alloc, World.size_setCell] at hz1
 try refine zw2 w w1 (by omega) fun _ _ _ _ => ?_
 have c1_0_0 := zci w1 w.heap.size 0 (xl) (by go_simp)
 have c1_0_1 := zci w1 w.heap.size 1 (xh) (by go_simp)
 have c1_1_0 := zci w1 (w.heap.size + 1) 0 (0) (by go_simp)
 have g1_1_0 := zfe w1 (w.heap.size + 1) 0 (by go_simp)
 have c1_1_1 := zci w1 (w.heap.size + 1) 1 (0) (by go_simp)
 have g1_1_1 := zfe w1 (w.heap.size + 1) 1 (by go_simp)
 clear hc1 hf1
 go_wp2_with fail
 refine (RC.out _).mono ?_
 rintro e w2 ⟨rfl, hb2⟩
 obtain ⟨hc2, hf2⟩ := bcell hb2
 have hz2 := hb2.size
 try simp only [World.size_alloc, World.size_setCell] at hz2
 try refine zw2 w w2 (by omega) fun _ _ _ _ => ?_
 have c2_0_0 := zci w2 w.heap.size 0 (xl) (by go_simp)
 have c2_0_1 := zci w2 w.heap.size 1 (xh) (by go_simp)
 have c2_1_0 := zci w2 (w.heap.size + 1) 0 (0) (by go_simp)
 have g2_1_0 := zfe w2 (w.heap.size + 1) 0 (by go_simp)
 have c2_1_1 := zci w2 (w.heap.size + 1) 1 (0) (by go_simp)
 have g2_1_1 := zfe w2 (w.heap.size + 1) 1 (by go_simp)
 clear hc2 hf2 c1_0_0 c1_0_1 c1_1_0 g1_1_0 c1_1_1 g1_1_1
 have hb20 : Below w.heap.size w w2 := blw_
 have hPL := pls_len at_ xl xh
 have HPL := hide hPL
 clear hPL
 go_wp2
 go_loopw [6, 7] (fun s6 s7 wr => ∃ k : Nat, k ≤ n ∧ s7 = .int .i64 k ∧ wr.ownsRow w2.heap.size 22 1 s6 (pls at_ xl xh k).length ((pls at_ xl xh k).map (Value.int .i64)) ∧ Below w2.heap.size w2 wr) (fun _ s7 _ => n - (intOf s7).toNat)
 case atStart => exact ⟨0, by omega, rfl, World.ownsRow_lit _ _ _ (Nat.le_refl _) (by unfold maxLen; omega) rfl, blw_⟩
 case round =>
  obtain ⟨k, hk, rfl, hown, hb21⟩ := hrel
  have hb22 := hide (hb20.trans (hb21.mono hb20.size))
  have hTr := HT.out.below hb22.out
  have hbr := hTr.blk
  obtain ⟨hc3, hf3⟩ := bcellB hb21
  have hz3 := hb21.size
  have zz : w.heap.size < wr.heap.size ∧ w.heap.size + 1 < wr.heap.size := by omega
  obtain ⟨zz1, zz2⟩ := zz
  have e0 := zci wr w.heap.size 0 xl (by go_simp)
  have e1 := zci wr w.heap.size 1 xh (by go_simp)
  clear hc3 hf3
  by_cases hlt : k < n
  ·have t0 := hTr.ca k hlt
   clear hTr
   have g1 : decide ((k : Int) < (n : Int)) = true := decide_eq_true (by omega)
   by_cases c1 : xl ≤ at_ k
   ·by_cases c2 : at_ k ≤ xh
    ·have PM := hide (pls_map at_ xl xh k ⟨c1, c2⟩)
     have PL := HPL.out k
     have d1 : decide (xl ≤ at_ k) = true := decide_eq_true c1
     have d2 : decide (at_ k ≤ xh) = true := decide_eq_true c2
     generalize at_ k = x0 at *
     go_wp2_with fail
     refine QT.quiet_b (by kernel_rfl) (by kernel_rfl) ?_
     repeat (first
      | go_big_quiet_skip
      | (go_big_quiet_want; go_big_quiet_op; first
       | go_big_quiet_on
       | (apply Exists.intro
          refine ⟨fun _ => ?_, ?_⟩
          ·first
           | rfl
           | (intro hC; obtain ⟨hcq, hfq⟩ := bcellB hC; go_simp; done)
           | (intro hC; obtain ⟨hcq, hfq⟩ := bcellB hC; go_simp; rfl)
           | (intro hC; have hcq := bcellG hC; go_simp; done)
           | (intro hC; have hcq := bcellG hC; go_simp; rfl)
          go_big_quiet_on)))
     refine wpQuiet_nil ?_
     intro w9 hC9
     obtain ⟨hc9, hf9⟩ := bcellB hC9
     have hz9 := hC9.size
     have t0' : w9.cell? (ad.add (k * 3)) = some (.int .i64 x0) := (bcellG hC9 _ (by rw [hba]; exact hbr)).trans t0
     go_wp2_with (at_builtin; refine wpList_append_own _ rfl _ _ 136 rfl w2.heap.size 22 i0 (.int .i64 0) 1 8 Tryz.underlying136 hi0 hq0 hq1 hq2 rfl (by decide) _ _ _ rfl ((own_below hown hC9).alloc _) ⟨w9.heap.size, 0, none⟩ 1 1 [.int .i64 x0] rfl rfl (by intro j u hj; match j, hj with | 0, hj => (simp at hj; subst hj; simp [Addr.add])) (by intro u hu; simp at hu; subst hu; rfl) (by unfold maxLen; omega) (by omega) (by simp; omega) ?_; intro v8 w8 hown8 hgrow8 _)
     have hb8 := below_own (B := w2.heap.size) (a := w2) (w := w9.alloc (.cells #[.int .i64 x0] 22)) (blw_) ((own_below hown hC9).alloc _) hgrow8 (Nat.le_refl _) (by simp; omega)
     rw [← PM.out.1, ← PM.out.2] at hown8
     clear hgrow8 hown
     go_wp2
     go_roundw
     case rel => exact ⟨k + 1, by omega, by go_num, hown8, hb8⟩
     case measure => simp [intOf]; omega
    ·have PS := hide (pls_same at_ xl xh k (fun h => c2 h.2))
     rw [← PS.out] at hown
     have d1 : decide (xl ≤ at_ k) = true := decide_eq_true c1
     have d2 : decide (at_ k ≤ xh) = false := decide_eq_false c2
     generalize at_ k = x0 at *
     go_wp2_with fail
     refine QT.quiet_b (by kernel_rfl) (by kernel_rfl) ?_
     repeat (first
      | go_big_quiet_skip
      | (go_big_quiet_want; go_big_quiet_op; first
       | go_big_quiet_on
       | (apply Exists.intro
          refine ⟨fun _ => ?_, ?_⟩
          ·first
           | rfl
           | (intro hC; obtain ⟨hcq, hfq⟩ := bcellB hC; go_simp; done)
           | (intro hC; obtain ⟨hcq, hfq⟩ := bcellB hC; go_simp; rfl)
           | (intro hC; have hcq := bcellG hC; go_simp; done)
           | (intro hC; have hcq := bcellG hC; go_simp; rfl)
          go_big_quiet_on)))
     refine wpQuiet_nil ?_
     intro w9 hC9
     obtain ⟨hc9, hf9⟩ := bcellB hC9
     have hz9 := hC9.size
     go_wp2
     go_roundw
     case rel => exact ⟨k + 1, by omega, by go_num, own_below hown hC9, blw_⟩
     case measure => simp [intOf]; omega
   ·have PS := hide (pls_same at_ xl xh k (fun h => c1 h.1))
    rw [← PS.out] at hown
    have d1 : decide (xl ≤ at_ k) = false := decide_eq_false c1
    generalize at_ k = x0 at *
    go_wp2_with fail
    refine QT.quiet_b (by kernel_rfl) (by kernel_rfl) ?_
    repeat (first
     | go_big_quiet_skip
     | (go_big_quiet_want; go_big_quiet_op; first
      | go_big_quiet_on
      | (apply Exists.intro
         refine ⟨fun _ => ?_, ?_⟩
         ·first
          | rfl
          | (intro hC; obtain ⟨hcq, hfq⟩ := bcellB hC; go_simp; done)
          | (intro hC; obtain ⟨hcq, hfq⟩ := bcellB hC; go_simp; rfl)
          | (intro hC; have hcq := bcellG hC; go_simp; done)
          | (intro hC; have hcq := bcellG hC; go_simp; rfl)
         go_big_quiet_on)))
    refine wpQuiet_nil ?_
    intro w9 hC9
    obtain ⟨hc9, hf9⟩ := bcellB hC9
    have hz9 := hC9.size
    go_wp2
    go_roundw
    case rel => exact ⟨k + 1, by omega, by go_num, own_below hown hC9, blw_⟩
    case measure => simp [intOf]; omega
  ·obtain rfl : k = n := by omega
   have PL := HPL.out k
   obtain ⟨g, cp, cur, rfl, hg1, hg2, -⟩ : ∃ g cp cur, u6 = .slice (some ⟨g, 0, none⟩) (pls at_ xl xh k).length cp ∧ w2.heap.size ≤ g ∧ wr.heap[g]? = some (.cells cur 22 (0, 0)) ∧ True := by
    rcases hown.2 with ⟨_, h⟩ | ⟨g, cp, cur, h1, h2, h3, _⟩
    ·omega
    ·exact ⟨g, cp, cur, h1, h2, h3, trivial⟩
   have hg := (Array.getElem?_eq_some_iff.1 hg2).1
   have hps : ∀ j (h : j < (pls at_ xl xh k).length), wr.cell? ⟨g, j, none⟩ = some (.int .i64 ((pls at_ xl xh k)[j])) := fun j h => by
    rw [hown.cellAt j (by omega)]
    simp [h]
   have hpi : ∀ p, p ∈ pls at_ xl xh k → I64 p := pls_mem HX.out.1 HX.out.2 k (fun i hi => ⟨by have := (HRR.out.a i hi).1; omega, by have := (HRR.out.a i hi).2; omega⟩)
   have L1 := hide (fun p hp W hW => rline_any false k (nxt at_ k p) cap ad at_ lo hi lo (by funext i; rfl) HRR.out p (hpi p hp) (nxt_is at_ k p) W hW)
   have L2 := hide (fun p hp W hW => rline_any true k (nxt at_ k p) cap ad at_ lo hi hi (by funext i; rfl) HRR.out p (hpi p hp) (nxt_is at_ k p) W hW)
   have f0 : wr.cell? ⟨w.heap.size + 1, 0, none⟩ = some (.int .i64 0) := ((bcellB hb21).1 _ _ (by omega)).trans (by go_simp)
   have f1 : wr.cell? ⟨w.heap.size + 1, 1, none⟩ = some (.int .i64 0) := ((bcellB hb21).1 _ _ (by omega)).trans (by go_simp)
   have f2 : wr.frozen? ⟨w.heap.size + 1, 0, none⟩ = false := ((bcellB hb21).2 _ _ (by omega)).trans (by go_simp)
   have f3 : wr.frozen? ⟨w.heap.size + 1, 1, none⟩ = false := ((bcellB hb21).2 _ _ (by omega)).trans (by go_simp)
   have HPS := hide hps
   have hbW := hb22.out
   clear hTr hps hpi hown hg2 HPL CT RC hb21 hb22 hb20 hb1 hb2
   generalize hQ : pls at_ xl xh k = ps at *
   clear hQ
   generalize hF : (fun p => lnL lo at_ k (nxt at_ k p) p) = F at *
   generalize hG : (fun p => lnH hi at_ k (nxt at_ k p) p) = G at *
   have hF' := fun p => (congrFun hF p : lnL lo at_ k (nxt at_ k p) p = F p)
   have hG' := fun p => (congrFun hG p : lnH hi at_ k (nxt at_ k p) p = G p)
   have HF := hide hF'
   have HG := hide hG'
   clear hF hG hF' hG'
   obtain ⟨W0, hW0⟩ : ∃ W, W = wr := ⟨wr, rfl⟩
   subst hW0
   have z0 : wH 0 = 0 := rfl
   have z1 : wL 0 = 0 := rfl
   go_wp2
   go_loopw [10, 11, 12, 13, 14] (fun s10 s11 s12 s13 s14 wr => ∃ (j : Nat) (a b : Int), j ≤ ps.length ∧ s10 = .int .i64 j ∧ ((j = 0 ∧ a = 0 ∧ b = 0) ∨ (0 < j ∧ a = mnOf F (ps.take j) ∧ b = mxOf G (ps.take j))) ∧ LV2 W0 wr a b) (fun s10 _ _ _ _ _ => ps.length - (intOf s10).toNat)
   case atStart => exact ⟨0, 0, 0, by omega, rfl, Or.inl ⟨rfl, rfl, rfl⟩, ⟨blw_, by first | omega | (simp <;> omega), by go_simp, by go_simp, by go_simp, by go_simp, by go_simp, by go_simp, by go_simp, by go_simp⟩⟩
   case round =>
    obtain ⟨j, a, b, hj, rfl, hab, hb24, hzz, a0, a1, b0, b1, q0, q1, q2, q3⟩ := hrel
    have hb25 := hide (hbW.trans (hb24.mono hbW.size))
    have hs24 := hb24.size
    by_cases hlt : j < ps.length
    ·have t5 : wr.cell? ⟨g, j, none⟩ = some (.int .i64 (ps[j])) := ((bcellB hb24).1 g j hg).trans (HPS.out j hlt)
     have C1 := L1.out ps[j] (List.getElem_mem hlt)
     have C2 := L2.out ps[j] (List.getElem_mem hlt)
     have tn := take_next hlt
     have N1 : Hid (0 < j → mi (mnOf F (ps.take j)) (F ps[j]) = mnOf F (ps.take (j + 1))) := hide (fun h => by rw [tn, mnOf_snoc _ _ _ (by intro e; have h9 : (ps.take j).length = j := (by rw [List.length_take]; omega); rw [e] at h9; simp only [List.length_nil] at h9; omega)])
     have N2 : Hid (0 < j → mx (mxOf G (ps.take j)) (G ps[j]) = mxOf G (ps.take (j + 1))) := hide (fun h => by rw [tn, mxOf_snoc _ _ _ (by intro e; have h9 : (ps.take j).length = j := (by rw [List.length_take]; omega); rw [e] at h9; simp only [List.length_nil] at h9; omega)])
     have N3 : Hid (j = 0 → F ps[j] = mnOf F (ps.take (j + 1)) ∧ G ps[j] = mxOf G (ps.take (j + 1))) := hide (fun h => by subst h; rw [tn]; simp [mnOf, mxOf])
     rw [HF.out] at C1
     rw [HG.out] at C2
     have C1' := hide C1
     have C2' := hide C2
     have g1 : decide ((j : Int) < (ps.length : Int)) = true := decide_eq_true (by omega)
     have hgq : g < wr.heap.size := by omega
     clear C1 C2 tn
     generalize F ps[j] = PF at *
     generalize G ps[j] = QF at *
     generalize lnH lo at_ k (nxt at_ k ps[j]) ps[j] = X1 at *
     generalize lnL hi at_ k (nxt at_ k ps[j]) ps[j] = X2 at *
     generalize ps[j] = p at *
     have sz1 : W0.heap.size < wr.heap.size := by omega
     go_wp2_with fail
     refine (C1'.out _ (HT.out.below hb25.out)).mono ?_
     rintro e w11 ⟨rfl, hb11⟩
     obtain ⟨hc11, hf11⟩ := bcell hb11
     have hz11 := hb11.size
     try simp only [World.size_alloc, World.size_setCell] at hz11
     try have : W0.heap.size < w11.heap.size := by omega
     try have : W0.heap.size < w11.heap.size + 1 := by omega
     try have : W0.heap.size < w11.heap.size + 1 + 1 := by omega
     try have : W0.heap.size ≤ w11.heap.size := by omega
     try have : W0.heap.size + 1 < w11.heap.size := by omega
     try have : W0.heap.size + 1 < w11.heap.size + 1 := by omega
     try have : W0.heap.size + 1 < w11.heap.size + 1 + 1 := by omega
     try have : W0.heap.size + 1 ≤ w11.heap.size := by omega
     have c11_0_0 := zci w11 W0.heap.size 0 (wH (a)) (by go_simp)
     have g11_0_0 := zfe w11 W0.heap.size 0 (by go_simp)
     have c11_0_1 := zcu w11 W0.heap.size 1 (wL (a)) (by go_simp)
     have g11_0_1 := zfe w11 W0.heap.size 1 (by go_simp)
     have c11_1_0 := zci w11 (W0.heap.size + 1) 0 (wH (b)) (by go_simp)
     have g11_1_0 := zfe w11 (W0.heap.size + 1) 0 (by go_simp)
     have c11_1_1 := zcu w11 (W0.heap.size + 1) 1 (wL (b)) (by go_simp)
     have g11_1_1 := zfe w11 (W0.heap.size + 1) 1 (by go_simp)
     clear hc11 hf11
     have t6 : w11.cell? ⟨g, j, none⟩ = some (.int .i64 p) := ((bcell hb11).1 g j hgq).trans t5
     have hg11 : g < w11.heap.size ∧ g < w11.heap.size + 1 ∧ g < w11.heap.size + 1 + 1 := by omega
     obtain ⟨hg12, hg13, hg14⟩ := hg11
     have hbb := hide ((hb25.out).trans (hb11.mono (by have := hb25.out.size; omega)))
     have ybb : w.heap.size ≤ w11.heap.size := hbb.out.size
     go_wp2_with fail
     refine (C2'.out _ (HT.out.below (ball (by simp; omega) (ball ybb hbb.out)))).mono ?_
     rintro e w12 ⟨rfl, hb12⟩
     obtain ⟨hc12, hf12⟩ := bcell hb12
     have hz12 := hb12.size
     try simp only [World.size_alloc, World.size_setCell] at hz12
     try have : W0.heap.size < w12.heap.size := by omega
     try have : W0.heap.size < w12.heap.size + 1 := by omega
     try have : W0.heap.size < w12.heap.size + 1 + 1 := by omega
     try have : W0.heap.size ≤ w12.heap.size := by omega
     try have : W0.heap.size + 1 < w12.heap.size := by omega
     try have : W0.heap.size + 1 < w12.heap.size + 1 := by omega
     try have : W0.heap.size + 1 < w12.heap.size + 1 + 1 := by omega
     try have : W0.heap.size + 1 ≤ w12.heap.size := by omega
     try have : w11.heap.size < w12.heap.size := by omega
     try have : w11.heap.size < w12.heap.size + 1 := by omega
     try have : w11.heap.size < w12.heap.size + 1 + 1 := by omega
     try have : w11.heap.size ≤ w12.heap.size := by omega
     have c12_0_0 := zci w12 W0.heap.size 0 (wH (a)) (by go_simp)
     have g12_0_0 := zfe w12 W0.heap.size 0 (by go_simp)
     have c12_0_1 := zcu w12 W0.heap.size 1 (wL (a)) (by go_simp)
     have g12_0_1 := zfe w12 W0.heap.size 1 (by go_simp)
     have c12_1_0 := zci w12 (W0.heap.size + 1) 0 (wH (b)) (by go_simp)
     have g12_1_0 := zfe w12 (W0.heap.size + 1) 0 (by go_simp)
     have c12_1_1 := zcu w12 (W0.heap.size + 1) 1 (wL (b)) (by go_simp)
     have g12_1_1 := zfe w12 (W0.heap.size + 1) 1 (by go_simp)
     have c12_2_0 := zci w12 w11.heap.size 0 (wH (PF)) (by go_simp)
     have c12_2_1 := zcu w12 w11.heap.size 1 (wL (PF)) (by go_simp)
     clear hc12 hf12
     rcases hab with ⟨rfl, rfl, rfl⟩ | ⟨hj0, ha, hb⟩
     ·have M := hide (N3.out rfl)
      clear N1 N2 N3
      go_wp2
      go_roundw
      case rel => exact ⟨0 + 1, PF, QF, by omega, by go_num, Or.inr ⟨by omega, M.out.1, M.out.2⟩, ⟨blw_, by first | omega | (simp <;> omega), by go_simp, by go_simp, by go_simp, by go_simp, by go_simp, by go_simp, by go_simp, by go_simp⟩⟩
      case measure => simp [intOf]; omega
     ·have gj : ((j : Int) == 0) = false := beq_eq_false_iff_ne.2 (by omega)
      have n1 := N1.out hj0
      have n2 := N2.out hj0
      rw [← ha] at n1
      rw [← hb] at n2
      clear N1 N2 N3 ha hb
      have N1 := hide n1
      have N2 := hide n2
      clear n1 n2
      by_cases c1 : PF < a
      ·by_cases c2 : b < QF
       ·have D1 := hide (rless_r PF a true (decide_eq_true c1))
        have D2 := hide (rless_r b QF true (decide_eq_true c2))
        have EL : Hid (PF = mi a PF) := hide ((if_pos c1).symm)
        have EH : Hid (QF = mx b QF) := hide ((if_pos c2).symm)
        clear c1 c2
        go_wp2_with fail
        refine (D1.out _).mono ?_
        rintro e w13 ⟨rfl, hb13⟩
        obtain ⟨hc13, hf13⟩ := bcell hb13
        have hz13 := hb13.size
        try simp only [World.size_alloc, World.size_setCell] at hz13
        try have : W0.heap.size < w13.heap.size := by omega
        try have : W0.heap.size ≤ w13.heap.size := by omega
        try have : W0.heap.size + 1 < w13.heap.size := by omega
        try have : W0.heap.size + 1 ≤ w13.heap.size := by omega
        try have : w11.heap.size < w13.heap.size := by omega
        try have : w11.heap.size ≤ w13.heap.size := by omega
        try have : w12.heap.size < w13.heap.size := by omega
        try have : w12.heap.size ≤ w13.heap.size := by omega
        try have : w12.heap.size + 1 < w13.heap.size := by omega
        try have : w12.heap.size + 1 ≤ w13.heap.size := by omega
        have c13_0_0 := zci w13 W0.heap.size 0 (wH (a)) (by go_simp)
        have g13_0_0 := zfe w13 W0.heap.size 0 (by go_simp)
        have c13_0_1 := zcu w13 W0.heap.size 1 (wL (a)) (by go_simp)
        have g13_0_1 := zfe w13 W0.heap.size 1 (by go_simp)
        have c13_1_0 := zci w13 (W0.heap.size + 1) 0 (wH (b)) (by go_simp)
        have g13_1_0 := zfe w13 (W0.heap.size + 1) 0 (by go_simp)
        have c13_1_1 := zcu w13 (W0.heap.size + 1) 1 (wL (b)) (by go_simp)
        have g13_1_1 := zfe w13 (W0.heap.size + 1) 1 (by go_simp)
        have c13_2_0 := zci w13 w11.heap.size 0 (wH (PF)) (by go_simp)
        have c13_2_1 := zcu w13 w11.heap.size 1 (wL (PF)) (by go_simp)
        have c13_3_0 := zci w13 (w12.heap.size + 1) 0 (wH (QF)) (by go_simp)
        have c13_3_1 := zcu w13 (w12.heap.size + 1) 1 (wL (QF)) (by go_simp)
        clear hc13 hf13
        go_wp2_with fail
        refine (D2.out _).mono ?_
        rintro e w14 ⟨rfl, hb14⟩
        obtain ⟨hc14, hf14⟩ := bcell hb14
        have hz14 := hb14.size
        try simp only [World.size_alloc, World.size_setCell] at hz14
        try have : W0.heap.size < w14.heap.size := by omega
        try have : W0.heap.size ≤ w14.heap.size := by omega
        try have : W0.heap.size + 1 < w14.heap.size := by omega
        try have : W0.heap.size + 1 ≤ w14.heap.size := by omega
        try have : w11.heap.size < w14.heap.size := by omega
        try have : w11.heap.size ≤ w14.heap.size := by omega
        try have : w12.heap.size < w14.heap.size := by omega
        try have : w12.heap.size ≤ w14.heap.size := by omega
        try have : w12.heap.size + 1 < w14.heap.size := by omega
        try have : w12.heap.size + 1 ≤ w14.heap.size := by omega
        have c14_0_0 := zci w14 W0.heap.size 0 (wH (PF)) (by go_simp)
        have g14_0_0 := zfe w14 W0.heap.size 0 (by go_simp)
        have c14_0_1 := zcu w14 W0.heap.size 1 (wL (PF)) (by go_simp)
        have g14_0_1 := zfe w14 W0.heap.size 1 (by go_simp)
        have c14_1_0 := zci w14 (W0.heap.size + 1) 0 (wH (b)) (by go_simp)
        have g14_1_0 := zfe w14 (W0.heap.size + 1) 0 (by go_simp)
        have c14_1_1 := zcu w14 (W0.heap.size + 1) 1 (wL (b)) (by go_simp)
        have g14_1_1 := zfe w14 (W0.heap.size + 1) 1 (by go_simp)
        have c14_2_0 := zci w14 w11.heap.size 0 (wH (PF)) (by go_simp)
        have c14_2_1 := zcu w14 w11.heap.size 1 (wL (PF)) (by go_simp)
        have c14_3_0 := zci w14 (w12.heap.size + 1) 0 (wH (QF)) (by go_simp)
        have c14_3_1 := zcu w14 (w12.heap.size + 1) 1 (wL (QF)) (by go_simp)
        clear hc14 hf14 c13_0_0 g13_0_0 c13_0_1 g13_0_1 c13_1_0 g13_1_0 c13_1_1 g13_1_1 c13_2_0 c13_2_1 c13_3_0 c13_3_1
        go_wp2
        go_roundw
        case rel => exact ⟨j + 1, PF, QF, by omega, by go_num, Or.inr ⟨by omega, EL.out.trans N1.out, EH.out.trans N2.out⟩, ⟨blw_, by first | omega | (simp <;> omega), by go_simp, by go_simp, by go_simp, by go_simp, by go_simp, by go_simp, by go_simp, by go_simp⟩⟩
        case measure => simp [intOf]; omega
       ·have D1 := hide (rless_r PF a true (decide_eq_true c1))
        have D2 := hide (rless_r b QF false (decide_eq_false c2))
        have EL : Hid (PF = mi a PF) := hide ((if_pos c1).symm)
        have EH : Hid (b = mx b QF) := hide ((if_neg c2).symm)
        clear c1 c2
        go_wp2_with fail
        refine (D1.out _).mono ?_
        rintro e w13 ⟨rfl, hb13⟩
        obtain ⟨hc13, hf13⟩ := bcell hb13
        have hz13 := hb13.size
        try simp only [World.size_alloc, World.size_setCell] at hz13
        try have : W0.heap.size < w13.heap.size := by omega
        try have : W0.heap.size ≤ w13.heap.size := by omega
        try have : W0.heap.size + 1 < w13.heap.size := by omega
        try have : W0.heap.size + 1 ≤ w13.heap.size := by omega
        try have : w11.heap.size < w13.heap.size := by omega
        try have : w11.heap.size ≤ w13.heap.size := by omega
        try have : w12.heap.size < w13.heap.size := by omega
        try have : w12.heap.size ≤ w13.heap.size := by omega
        try have : w12.heap.size + 1 < w13.heap.size := by omega
        try have : w12.heap.size + 1 ≤ w13.heap.size := by omega
        have c13_0_0 := zci w13 W0.heap.size 0 (wH (a)) (by go_simp)
        have g13_0_0 := zfe w13 W0.heap.size 0 (by go_simp)
        have c13_0_1 := zcu w13 W0.heap.size 1 (wL (a)) (by go_simp)
        have g13_0_1 := zfe w13 W0.heap.size 1 (by go_simp)
        have c13_1_0 := zci w13 (W0.heap.size + 1) 0 (wH (b)) (by go_simp)
        have g13_1_0 := zfe w13 (W0.heap.size + 1) 0 (by go_simp)
        have c13_1_1 := zcu w13 (W0.heap.size + 1) 1 (wL (b)) (by go_simp)
        have g13_1_1 := zfe w13 (W0.heap.size + 1) 1 (by go_simp)
        have c13_2_0 := zci w13 w11.heap.size 0 (wH (PF)) (by go_simp)
        have c13_2_1 := zcu w13 w11.heap.size 1 (wL (PF)) (by go_simp)
        have c13_3_0 := zci w13 (w12.heap.size + 1) 0 (wH (QF)) (by go_simp)
        have c13_3_1 := zcu w13 (w12.heap.size + 1) 1 (wL (QF)) (by go_simp)
        clear hc13 hf13
        go_wp2_with fail
        refine (D2.out _).mono ?_
        rintro e w14 ⟨rfl, hb14⟩
        obtain ⟨hc14, hf14⟩ := bcell hb14
        have hz14 := hb14.size
        try simp only [World.size_alloc, World.size_setCell] at hz14
        try have : W0.heap.size < w14.heap.size := by omega
        try have : W0.heap.size ≤ w14.heap.size := by omega
        try have : W0.heap.size + 1 < w14.heap.size := by omega
        try have : W0.heap.size + 1 ≤ w14.heap.size := by omega
        try have : w11.heap.size < w14.heap.size := by omega
        try have : w11.heap.size ≤ w14.heap.size := by omega
        try have : w12.heap.size < w14.heap.size := by omega
        try have : w12.heap.size ≤ w14.heap.size := by omega
        try have : w12.heap.size + 1 < w14.heap.size := by omega
        try have : w12.heap.size + 1 ≤ w14.heap.size := by omega
        have c14_0_0 := zci w14 W0.heap.size 0 (wH (PF)) (by go_simp)
        have g14_0_0 := zfe w14 W0.heap.size 0 (by go_simp)
        have c14_0_1 := zcu w14 W0.heap.size 1 (wL (PF)) (by go_simp)
        have g14_0_1 := zfe w14 W0.heap.size 1 (by go_simp)
        have c14_1_0 := zci w14 (W0.heap.size + 1) 0 (wH (b)) (by go_simp)
        have g14_1_0 := zfe w14 (W0.heap.size + 1) 0 (by go_simp)
        have c14_1_1 := zcu w14 (W0.heap.size + 1) 1 (wL (b)) (by go_simp)
        have g14_1_1 := zfe w14 (W0.heap.size + 1) 1 (by go_simp)
        have c14_2_0 := zci w14 w11.heap.size 0 (wH (PF)) (by go_simp)
        have c14_2_1 := zcu w14 w11.heap.size 1 (wL (PF)) (by go_simp)
        have c14_3_0 := zci w14 (w12.heap.size + 1) 0 (wH (QF)) (by go_simp)
        have c14_3_1 := zcu w14 (w12.heap.size + 1) 1 (wL (QF)) (by go_simp)
        clear hc14 hf14 c13_0_0 g13_0_0 c13_0_1 g13_0_1 c13_1_0 g13_1_0 c13_1_1 g13_1_1 c13_2_0 c13_2_1 c13_3_0 c13_3_1
        go_wp2
        go_roundw
        case rel => exact ⟨j + 1, PF, b, by omega, by go_num, Or.inr ⟨by omega, EL.out.trans N1.out, EH.out.trans N2.out⟩, ⟨blw_, by first | omega | (simp <;> omega), by go_simp, by go_simp, by go_simp, by go_simp, by go_simp, by go_simp, by go_simp, by go_simp⟩⟩
        case measure => simp [intOf]; omega
      ·by_cases c2 : b < QF
       ·have D1 := hide (rless_r PF a false (decide_eq_false c1))
        have D2 := hide (rless_r b QF true (decide_eq_true c2))
        have EL : Hid (a = mi a PF) := hide ((if_neg c1).symm)
        have EH : Hid (QF = mx b QF) := hide ((if_pos c2).symm)
        clear c1 c2
        go_wp2_with fail
        refine (D1.out _).mono ?_
        rintro e w13 ⟨rfl, hb13⟩
        obtain ⟨hc13, hf13⟩ := bcell hb13
        have hz13 := hb13.size
        try simp only [World.size_alloc, World.size_setCell] at hz13
        try have : W0.heap.size < w13.heap.size := by omega
        try have : W0.heap.size ≤ w13.heap.size := by omega
        try have : W0.heap.size + 1 < w13.heap.size := by omega
        try have : W0.heap.size + 1 ≤ w13.heap.size := by omega
        try have : w11.heap.size < w13.heap.size := by omega
        try have : w11.heap.size ≤ w13.heap.size := by omega
        try have : w12.heap.size < w13.heap.size := by omega
        try have : w12.heap.size ≤ w13.heap.size := by omega
        try have : w12.heap.size + 1 < w13.heap.size := by omega
        try have : w12.heap.size + 1 ≤ w13.heap.size := by omega
        have c13_0_0 := zci w13 W0.heap.size 0 (wH (a)) (by go_simp)
        have g13_0_0 := zfe w13 W0.heap.size 0 (by go_simp)
        have c13_0_1 := zcu w13 W0.heap.size 1 (wL (a)) (by go_simp)
        have g13_0_1 := zfe w13 W0.heap.size 1 (by go_simp)
        have c13_1_0 := zci w13 (W0.heap.size + 1) 0 (wH (b)) (by go_simp)
        have g13_1_0 := zfe w13 (W0.heap.size + 1) 0 (by go_simp)
        have c13_1_1 := zcu w13 (W0.heap.size + 1) 1 (wL (b)) (by go_simp)
        have g13_1_1 := zfe w13 (W0.heap.size + 1) 1 (by go_simp)
        have c13_2_0 := zci w13 w11.heap.size 0 (wH (PF)) (by go_simp)
        have c13_2_1 := zcu w13 w11.heap.size 1 (wL (PF)) (by go_simp)
        have c13_3_0 := zci w13 (w12.heap.size + 1) 0 (wH (QF)) (by go_simp)
        have c13_3_1 := zcu w13 (w12.heap.size + 1) 1 (wL (QF)) (by go_simp)
        clear hc13 hf13
        go_wp2_with fail
        refine (D2.out _).mono ?_
        rintro e w14 ⟨rfl, hb14⟩
        obtain ⟨hc14, hf14⟩ := bcell hb14
        have hz14 := hb14.size
        try simp only [World.size_alloc, World.size_setCell] at hz14
        try have : W0.heap.size < w14.heap.size := by omega
        try have : W0.heap.size ≤ w14.heap.size := by omega
        try have : W0.heap.size + 1 < w14.heap.size := by omega
        try have : W0.heap.size + 1 ≤ w14.heap.size := by omega
        try have : w11.heap.size < w14.heap.size := by omega
        try have : w11.heap.size ≤ w14.heap.size := by omega
        try have : w12.heap.size < w14.heap.size := by omega
        try have : w12.heap.size ≤ w14.heap.size := by omega
        try have : w12.heap.size + 1 < w14.heap.size := by omega
        try have : w12.heap.size + 1 ≤ w14.heap.size := by omega
        have c14_0_0 := zci w14 W0.heap.size 0 (wH (a)) (by go_simp)
        have g14_0_0 := zfe w14 W0.heap.size 0 (by go_simp)
        have c14_0_1 := zcu w14 W0.heap.size 1 (wL (a)) (by go_simp)
        have g14_0_1 := zfe w14 W0.heap.size 1 (by go_simp)
        have c14_1_0 := zci w14 (W0.heap.size + 1) 0 (wH (b)) (by go_simp)
        have g14_1_0 := zfe w14 (W0.heap.size + 1) 0 (by go_simp)
        have c14_1_1 := zcu w14 (W0.heap.size + 1) 1 (wL (b)) (by go_simp)
        have g14_1_1 := zfe w14 (W0.heap.size + 1) 1 (by go_simp)
        have c14_2_0 := zci w14 w11.heap.size 0 (wH (PF)) (by go_simp)
        have c14_2_1 := zcu w14 w11.heap.size 1 (wL (PF)) (by go_simp)
        have c14_3_0 := zci w14 (w12.heap.size + 1) 0 (wH (QF)) (by go_simp)
        have c14_3_1 := zcu w14 (w12.heap.size + 1) 1 (wL (QF)) (by go_simp)
        clear hc14 hf14 c13_0_0 g13_0_0 c13_0_1 g13_0_1 c13_1_0 g13_1_0 c13_1_1 g13_1_1 c13_2_0 c13_2_1 c13_3_0 c13_3_1
        go_wp2
        go_roundw
        case rel => exact ⟨j + 1, a, QF, by omega, by go_num, Or.inr ⟨by omega, EL.out.trans N1.out, EH.out.trans N2.out⟩, ⟨blw_, by first | omega | (simp <;> omega), by go_simp, by go_simp, by go_simp, by go_simp, by go_simp, by go_simp, by go_simp, by go_simp⟩⟩
        case measure => simp [intOf]; omega
       ·have D1 := hide (rless_r PF a false (decide_eq_false c1))
        have D2 := hide (rless_r b QF false (decide_eq_false c2))
        have EL : Hid (a = mi a PF) := hide ((if_neg c1).symm)
        have EH : Hid (b = mx b QF) := hide ((if_neg c2).symm)
        clear c1 c2
        go_wp2_with fail
        refine (D1.out _).mono ?_
        rintro e w13 ⟨rfl, hb13⟩
        obtain ⟨hc13, hf13⟩ := bcell hb13
        have hz13 := hb13.size
        try simp only [World.size_alloc, World.size_setCell] at hz13
        try have : W0.heap.size < w13.heap.size := by omega
        try have : W0.heap.size ≤ w13.heap.size := by omega
        try have : W0.heap.size + 1 < w13.heap.size := by omega
        try have : W0.heap.size + 1 ≤ w13.heap.size := by omega
        try have : w11.heap.size < w13.heap.size := by omega
        try have : w11.heap.size ≤ w13.heap.size := by omega
        try have : w12.heap.size < w13.heap.size := by omega
        try have : w12.heap.size ≤ w13.heap.size := by omega
        try have : w12.heap.size + 1 < w13.heap.size := by omega
        try have : w12.heap.size + 1 ≤ w13.heap.size := by omega
        have c13_0_0 := zci w13 W0.heap.size 0 (wH (a)) (by go_simp)
        have g13_0_0 := zfe w13 W0.heap.size 0 (by go_simp)
        have c13_0_1 := zcu w13 W0.heap.size 1 (wL (a)) (by go_simp)
        have g13_0_1 := zfe w13 W0.heap.size 1 (by go_simp)
        have c13_1_0 := zci w13 (W0.heap.size + 1) 0 (wH (b)) (by go_simp)
        have g13_1_0 := zfe w13 (W0.heap.size + 1) 0 (by go_simp)
        have c13_1_1 := zcu w13 (W0.heap.size + 1) 1 (wL (b)) (by go_simp)
        have g13_1_1 := zfe w13 (W0.heap.size + 1) 1 (by go_simp)
        have c13_2_0 := zci w13 w11.heap.size 0 (wH (PF)) (by go_simp)
        have c13_2_1 := zcu w13 w11.heap.size 1 (wL (PF)) (by go_simp)
        have c13_3_0 := zci w13 (w12.heap.size + 1) 0 (wH (QF)) (by go_simp)
        have c13_3_1 := zcu w13 (w12.heap.size + 1) 1 (wL (QF)) (by go_simp)
        clear hc13 hf13
        go_wp2_with fail
        refine (D2.out _).mono ?_
        rintro e w14 ⟨rfl, hb14⟩
        obtain ⟨hc14, hf14⟩ := bcell hb14
        have hz14 := hb14.size
        try simp only [World.size_alloc, World.size_setCell] at hz14
        try have : W0.heap.size < w14.heap.size := by omega
        try have : W0.heap.size ≤ w14.heap.size := by omega
        try have : W0.heap.size + 1 < w14.heap.size := by omega
        try have : W0.heap.size + 1 ≤ w14.heap.size := by omega
        try have : w11.heap.size < w14.heap.size := by omega
        try have : w11.heap.size ≤ w14.heap.size := by omega
        try have : w12.heap.size < w14.heap.size := by omega
        try have : w12.heap.size ≤ w14.heap.size := by omega
        try have : w12.heap.size + 1 < w14.heap.size := by omega
        try have : w12.heap.size + 1 ≤ w14.heap.size := by omega
        have c14_0_0 := zci w14 W0.heap.size 0 (wH (a)) (by go_simp)
        have g14_0_0 := zfe w14 W0.heap.size 0 (by go_simp)
        have c14_0_1 := zcu w14 W0.heap.size 1 (wL (a)) (by go_simp)
        have g14_0_1 := zfe w14 W0.heap.size 1 (by go_simp)
        have c14_1_0 := zci w14 (W0.heap.size + 1) 0 (wH (b)) (by go_simp)
        have g14_1_0 := zfe w14 (W0.heap.size + 1) 0 (by go_simp)
        have c14_1_1 := zcu w14 (W0.heap.size + 1) 1 (wL (b)) (by go_simp)
        have g14_1_1 := zfe w14 (W0.heap.size + 1) 1 (by go_simp)
        have c14_2_0 := zci w14 w11.heap.size 0 (wH (PF)) (by go_simp)
        have c14_2_1 := zcu w14 w11.heap.size 1 (wL (PF)) (by go_simp)
        have c14_3_0 := zci w14 (w12.heap.size + 1) 0 (wH (QF)) (by go_simp)
        have c14_3_1 := zcu w14 (w12.heap.size + 1) 1 (wL (QF)) (by go_simp)
        clear hc14 hf14 c13_0_0 g13_0_0 c13_0_1 g13_0_1 c13_1_0 g13_1_0 c13_1_1 g13_1_1 c13_2_0 c13_2_1 c13_3_0 c13_3_1
        go_wp2
        go_roundw
        case rel => exact ⟨j + 1, a, b, by omega, by go_num, Or.inr ⟨by omega, EL.out.trans N1.out, EH.out.trans N2.out⟩, ⟨blw_, by first | omega | (simp <;> omega), by go_simp, by go_simp, by go_simp, by go_simp, by go_simp, by go_simp, by go_simp, by go_simp⟩⟩
        case measure => simp [intOf]; omega
    ·obtain rfl : j = ps.length := by omega
     have hh : a = mnOf F ps ∧ b = mxOf G ps := by
      rcases hab with ⟨h, _⟩ | ⟨_, h1, h2⟩
      ·omega
      ·rw [List.take_length] at h1 h2; exact ⟨h1, h2⟩
     have RO := rout a b
     rw [hh.1, hh.2, FIN.out.1, FIN.out.2.1, FIN.out.2.2, ← hh.1, ← hh.2] at RO
     have RO' := hide RO
     have r0 : wr.cell? ⟨w.heap.size + 1, 0, none⟩ = some (.int .i64 0) := ((bcellB hb24).1 _ _ (by omega)).trans f0
     have r1 : wr.cell? ⟨w.heap.size + 1, 1, none⟩ = some (.int .i64 0) := ((bcellB hb24).1 _ _ (by omega)).trans f1
     have r2 : wr.frozen? ⟨w.heap.size + 1, 0, none⟩ = false := ((bcellB hb24).2 _ _ (by omega)).trans f2
     have r3 : wr.frozen? ⟨w.heap.size + 1, 1, none⟩ = false := ((bcellB hb24).2 _ _ (by omega)).trans f3
     have rs : w.heap.size + 1 < wr.heap.size := by omega
     have hbF := hb25.out
     clear RO hh FIN hb24 hb25 hbW hab
     go_wp2_with fail
     refine (RO'.out _).mono ?_
     rintro e w13 ⟨rfl, hb13⟩
     obtain ⟨hc13, hf13⟩ := bcell hb13
     have hz13 := hb13.size
     try simp only [World.size_alloc, World.size_setCell] at hz13
     try refine zw2 w w13 (by omega) fun _ _ _ _ => ?_
     have c13_0_0 := zci w13 (w.heap.size + 1) 0 (0) (by go_simp)
     have g13_0_0 := zfe w13 (w.heap.size + 1) 0 (by go_simp)
     have c13_0_1 := zci w13 (w.heap.size + 1) 1 (0) (by go_simp)
     have g13_0_1 := zfe w13 (w.heap.size + 1) 1 (by go_simp)
     clear hc13 hf13
     go_wp2
     refine bodyPost_ret (v := .tuple #[.agg #[.int .i64 (RL), .int .i64 (RH)], .int .i64 RE]) (by simp only [results, Tryz.results78]; go_simp) rfl ⟨rfl, blw_⟩
end
end Go.Proofs.YtcjlpgmhlghdkaaGreat
