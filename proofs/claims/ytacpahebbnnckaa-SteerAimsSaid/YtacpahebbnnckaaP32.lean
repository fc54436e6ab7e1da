/- Packed: AmF AmG AmH. -/
import Derived.Test.YtacpahebbnnckaaP31
set_option linter.unusedVariables false
set_option linter.unusedSimpArgs false
namespace Go.Proofs.Ytacpahebbnnckaa
section
set_option maxRecDepth 100000
open Go.RowKit
open FP
namespace Sw
def nar (S : Int → FD.Sp) (want : Int) : Nat → Int → Int → Int → Int × Int × Int
 | 0, lo, hi, u => (lo, hi, u)
 | k + 1, lo, hi, u => if hi - lo < 2 then (lo, hi, u) else
  if (S (midI lo hi)).hi < want then nar S want k (midI lo hi) hi (u + 1) else
  if want < (S (midI lo hi)).lo then nar S want k lo (midI lo hi) (u + 1) else (lo, hi, u + 1)
theorem nar_end {S : Int → FD.Sp} {want : Int} {k : Nat} {lo hi u : Int} (h : hi - lo < 2) : nar S want k lo hi u = (lo, hi, u) := by
 cases k
 ·rfl
 ·simp only [nar]; rw [if_pos h]
theorem nar_up {S : Int → FD.Sp} {want : Int} {k : Nat} {lo hi u : Int} (h : ¬ hi - lo < 2) (h1 : (S (midI lo hi)).hi < want) : nar S want (k + 1) lo hi u = nar S want k (midI lo hi) hi (u + 1) := by
 simp only [nar]; rw [if_neg h, if_pos h1]
theorem nar_down {S : Int → FD.Sp} {want : Int} {k : Nat} {lo hi u : Int} (h : ¬ hi - lo < 2) (h1 : ¬ (S (midI lo hi)).hi < want) (h2 : want < (S (midI lo hi)).lo) : nar S want (k + 1) lo hi u = nar S want k lo (midI lo hi) (u + 1) := by
 simp only [nar]; rw [if_neg h, if_neg h1, if_pos h2]
theorem nar_stay {S : Int → FD.Sp} {want : Int} {k : Nat} {lo hi u : Int} (h : ¬ hi - lo < 2) (h1 : ¬ (S (midI lo hi)).hi < want) (h2 : ¬ want < (S (midI lo hi)).lo) : nar S want (k + 1) lo hi u = (lo, hi, u + 1) := by
 simp only [nar]; rw [if_neg h, if_neg h1, if_neg h2]
theorem mid_in {lo hi : Int} (h : lo ≤ hi) : lo ≤ midI lo hi ∧ midI lo hi ≤ hi := by unfold midI; omega
def ptC (m : Int) : FD.Sp := ⟨SX.clampI m, SX.clampI m, SX.clampI_R64 m, SX.clampI_R64 m⟩
theorem ptC_eq {m : Int} (h : FD.In64 m) : ptC m = pt m h := by
 unfold ptC pt
 have e := SX.clampI_eq h
 simp only [e]
structure QL (W0 W : World) (L : List (Nat × FD.Sp)) : Prop where
 below : Below W0.heap.size W0 W
 box : ∀ p ∈ L, Box W p.1 p.2 ∧ W0.heap.size ≤ p.1
 nd : L.Pairwise fun p q => ¬ p.1 = q.1
section
variable {W0 W W' : World} {L : List (Nat × FD.Sp)}
theorem QL.start (W : World) : QL W W [] := ⟨Below.refl _ _, (fun p h => by cases h), List.Pairwise.nil⟩
theorem QL.quiet (h : QL W0 W L) (hb : Below W.heap.size W W') : QL W0 W' L := ⟨h.below.trans (hb.mono h.below.size), fun p hp => ⟨(h.box p hp).1.quiet hb, (h.box p hp).2⟩, h.nd⟩
theorem QL.drew (h : QL W0 W L) : QL W0 W.drew L := h.quiet (Below.refl _ _).drew
theorem QL.new (h : QL W0 W L) (x : FD.Sp) : QL W0 (W.alloc (.cells #[.int .i64 x.lo, .int .i64 x.hi] 24)) ((W.heap.size, x) :: L) := by
 have hq := h.quiet ((Below.refl W.heap.size W).alloc (Nat.le_refl _) (.cells #[.int .i64 x.lo, .int .i64 x.hi] 24))
 refine ⟨hq.below, fun p hp => ?_, List.pairwise_cons.2 ⟨fun p hp => Nat.ne_of_gt (h.box p hp).1.1, h.nd⟩⟩
 rcases List.mem_cons.1 hp with rfl | hp
 ·exact ⟨Box.new W x, h.below.size⟩
 ·exact hq.box p hp
theorem QL.new0 (h : QL W0 W L) : QL W0 (W.alloc (.cells #[.int .i64 0, .int .i64 0] 24)) ((W.heap.size, .zero) :: L) := h.new .zero
theorem QL.head {p : Nat} {x : FD.Sp} (h : QL W0 W ((p, x) :: L)) : Box W p x := (h.box _ (List.mem_cons_self ..)).1
theorem QL.sethead {p : Nat} {x : FD.Sp} (h : QL W0 W ((p, x) :: L)) (y : FD.Sp) : QL W0 ((W.setCell ⟨p, 0, none⟩ (.int .i64 y.lo)).setCell ⟨p, 1, none⟩ (.int .i64 y.hi)) ((p, y) :: L) := by
 obtain ⟨h1, h3⟩ := h.box _ (List.mem_cons_self ..)
 obtain ⟨n1, n2⟩ := List.pairwise_cons.1 h.nd
 refine ⟨(h.below.setCell h3 _).setCell h3 _, fun q hq => ?_, List.pairwise_cons.2 ⟨n1, n2⟩⟩
 rcases List.mem_cons.1 hq with rfl | hq
 ·exact ⟨h1.set y, h3⟩
 ·have := h.box q (List.mem_cons_of_mem _ hq)
  exact ⟨(this.1.far (n1 q hq)).far (n1 q hq), this.2⟩
theorem QL.at {p : Nat} {x : FD.Sp} (h : QL W0 W L) (hp : (p, x) ∈ L) : Box W p x := (h.box _ hp).1
theorem QL.old (h : QL W0 W L) {b o : Nat} {x : Value} (hb : b < W0.heap.size) (d : W0.cell? ⟨b, o, none⟩ = some x) : W.cell? ⟨b, o, none⟩ = some x := ((bcell h.below).1 _ _ hb).trans d
theorem QL.oldf (h : QL W0 W L) {b o : Nat} (hb : b < W0.heap.size) (d : W0.frozen? ⟨b, o, none⟩ = false) : W.frozen? ⟨b, o, none⟩ = false := ((bcell h.below).2 _ _ hb).trans d
theorem Q_of {f : FuncId} {args : Array Value} {v : Value} (k : ∀ W, Calls Try.prog f args W fun e W' => e = .returned v ∧ Below W.heap.size W W') (W : World) (L : List (Nat × FD.Sp)) (h : QL W0 W L) : Calls Try.prog f args W fun e W' => e = .returned v ∧ QL W0 W' L := by
 refine (k W).mono ?_
 rintro e W' ⟨rfl, hb⟩
 exact ⟨rfl, h.quiet hb⟩
end

set_option maxHeartbeats 4000000 in
theorem narrow_any (v push pull tm : FD.Sp) (time : Int) (t0 : tm.lo = time) (t1 : tm.hi = time) (want : Int) (hw : numB want = true) (R : Nat) (hR : R ≤ 40) (hS : ∀ m, Unit1 m → vB (lfQ v push pull tm (ptC m)).1.lo (lfQ v push pull tm (ptC m)).1.hi = true) (G : Int × Int × Int) (hG : nar (fun m => (lfQ v push pull tm (ptC m)).1) want R (-4294967296) 4294967296 0 = G) (w : World) :
  Calls Try.prog 28 #[clv v push pull time, .int .i64 want, .int .i64 R] w fun e w' => e = .returned (.tuple #[.agg #[.int .i64 (G.1), .int .i64 (G.2.1)], .int .i64 G.2.2]) ∧ Below w.heap.size w w' := by
 have LF := hide (fun m W => lift_any v push pull tm (ptC m) time t0 t1 W)
 have PT := hide (fun x W => pointU_any x W)
 have hwv : vB want want = true := vB_t (of_decide_eq_true hw) (Int.le_refl _)
 have HS := hide hS
 have HV := hide hwv
 have OR := hide (fun al ah h W => order_any al ah want want h (by have := (vB_tt hwv).1; omega) W)
 obtain ⟨G1, G2, G3⟩ := G
 dsimp only
 have HG := hide hG
 clear hS hwv hw hG t0 t1
 go_enter Try.func28, Try.ntmps28
 go_wp2_with fail
 go_loopw [7] (fun s7 wr => ∃ (k : Nat) (lo hi u : Int), s7 = .int .i64 u ∧ u + k = R ∧ 0 ≤ u ∧ -4294967296 ≤ lo ∧ lo ≤ hi ∧ hi ≤ 4294967296 ∧ nar (fun m => (lfQ v push pull tm (ptC m)).1) want k lo hi u = (G1, G2, G3) ∧ Below w.heap.size w wr ∧ w.heap.size + 1 < wr.heap.size ∧ (∀ o x, clC v push pull time o = some x → wr.cell? ⟨w.heap.size, o, none⟩ = some x) ∧ wr.cell? ⟨w.heap.size + 1, 0, none⟩ = some (.int .i64 lo) ∧ wr.cell? ⟨w.heap.size + 1, 1, none⟩ = some (.int .i64 hi) ∧ wr.frozen? ⟨w.heap.size + 1, 0, none⟩ = false ∧ wr.frozen? ⟨w.heap.size + 1, 1, none⟩ = false) (fun s7 _ => R - (intOf s7).toNat)
 case atStart => exact ⟨R, _, _, 0, rfl, by omega, by omega, by omega, by omega, by omega, HG.out, blw_, by simp, cl_at (w := w) (v := v) (push := push) (pull := pull) (time := time) (by exact blw_), by go_simp, by go_simp, by go_simp, by go_simp⟩
 case round =>
  obtain ⟨k, lo, hi, u, rfl, hk, hu, b1, b2, b3, hN, hW, hz, hcc, a0, a1, fa0, fa1⟩ := hrel
  by_cases hk0 : k = 0
  ·subst hk0
   obtain ⟨rfl, rfl, rfl⟩ : lo = G1 ∧ hi = G2 ∧ u = G3 := by simpa [nar] using hN
   have hu1 : ¬ u < (R : Int) := by omega
   clear hcc
   go_wp2
   refine bodyPost_ret (v := (.tuple #[.agg #[.int .i64 (lo), .int .i64 (hi)], .int .i64 u])) (by simp only [results, Try.results28]; go_simp) rfl ⟨rfl, blw_⟩
  ·have hu1 : u < (R : Int) := by omega
   have hwd : wrap64 (hi - lo) = hi - lo := by unfold wrap64; omega
   have hwd2 : IntKind.i64.wrap (hi - lo) = hi - lo := by rw [IntKind.wrap_i64]; omega
   by_cases hd : hi - lo < 2
   ·obtain ⟨rfl, rfl, rfl⟩ : lo = G1 ∧ hi = G2 ∧ u = G3 := by rw [nar_end hd] at hN; simpa using hN
    have hd' : ¬ 2 ≤ hi - lo := by omega
    clear hcc
    go_wp2
    refine bodyPost_ret (v := (.tuple #[.agg #[.int .i64 (lo), .int .i64 (hi)], .int .i64 u])) (by simp only [results, Try.results28]; go_simp) rfl ⟨rfl, blw_⟩
   ·have hd' : 2 ≤ hi - lo := by omega
    obtain ⟨j, rfl⟩ : ∃ j, k = j + 1 := ⟨k - 1, by omega⟩
    have hm := mid_in b2
    have hvb : vB lo hi = true := vB_t (by omega) b2
    have MI := hide (fun W => mid_any lo hi ⟨by omega, by omega⟩ ⟨by omega, by omega⟩ W)
    rw [hvb, show ∀ x, okI true x = x from fun _ => rfl, show ∀ x, errE true x = x from fun _ => rfl] at MI
    obtain ⟨m, hmm⟩ : ∃ m, midI lo hi = m := ⟨_, rfl⟩
    rw [hmm] at MI hm
    have LM := hide (LF.out m)
    have VS := hide (HS.out m ⟨by omega, by omega⟩)
    have U1 := hide (fun h1 => nar_up (S := fun m => (lfQ v push pull tm (ptC m)).1) (want := want) (k := j) (u := u) hd h1)
    have U2 := hide (fun h1 h2 => nar_down (S := fun m => (lfQ v push pull tm (ptC m)).1) (want := want) (k := j) (u := u) hd h1 h2)
    have U3 := hide (fun h1 h2 => nar_stay (S := fun m => (lfQ v push pull tm (ptC m)).1) (want := want) (k := j) (u := u) hd h1 h2)
    rw [hmm] at U1 U2 U3
    have HNN := hide hN
    clear hN hvb hmm
    have hIm : FD.In64 m := ⟨by omega, by omega⟩
    have em : ptC m = pt m hIm := ptC_eq hIm
    have LM2 : Hid (∀ W, Calls Try.prog 19 #[clv v push pull time, .agg #[.int .i64 (m), .int .i64 (m)]] W fun e w' => e = .returned (.tuple #[FD.spv (lfQ v push pull tm (ptC m)).1, .int .i64 (lfQ v push pull tm (ptC m)).2]) ∧ Below W.heap.size W w') := hide (fun W => by have h := LM.out W; rw [show FD.spv (ptC m) = (.agg #[.int .i64 (m), .int .i64 (m)]) by rw [em]; rfl] at h; exact h)
    clear LM em
    have OM := hide (fun W => OR.out (lfQ v push pull tm (ptC m)).1.lo (lfQ v push pull tm (ptC m)).1.hi (lfQ v push pull tm (ptC m)).1.ok.1.1 W)
    try dsimp only at U1 U2 U3
    generalize lfQ v push pull tm (ptC m) = q at *
    obtain ⟨⟨s0, s1, s2⟩, se⟩ := q
    try dsimp only [FD.spv] at LM2 OM VS U1 U2 U3
    have c0 := hcc 0 _ rfl
    have c1 := hcc 1 _ rfl
    have c2 := hcc 2 _ rfl
    have c3 := hcc 3 _ rfl
    have c4 := hcc 4 _ rfl
    have c5 := hcc 5 _ rfl
    have c6 := hcc 6 _ rfl
    have hu2 : wrap64 (u + 1) = u + 1 := by unfold wrap64; omega
    have ov : orderI s0 s1 want want = if s1 < want then -1 else if want < s0 then 1 else 0 := by unfold orderI; rw [VS.out, HV.out]; rfl
    rw [ov] at OM
    clear ov
    have hs := hW.size
    have y0 : w.heap.size < wr.heap.size := by omega
    have hCC := hide hcc
    clear hcc
    go_wp2_with fail
    refine (MI.out _).mono ?_
    rintro e w1 ⟨rfl, hb1⟩
    obtain ⟨hc1, hf1⟩ := bcell hb1
    have hz1 := hb1.size
    have y1 : w.heap.size < w1.heap.size := by omega
    have y2 : w.heap.size + 1 < w1.heap.size := by omega
    have d0 := zci w1 w.heap.size 0 v.lo (by go_simp)
    have d1 := zci w1 w.heap.size 1 v.hi (by go_simp)
    have d2 := zci w1 w.heap.size 2 push.lo (by go_simp)
    have d3 := zci w1 w.heap.size 3 push.hi (by go_simp)
    have d4 := zci w1 w.heap.size 4 pull.lo (by go_simp)
    have d5 := zci w1 w.heap.size 5 pull.hi (by go_simp)
    have d6 := zci w1 w.heap.size 6 time (by go_simp)
    have da0 := zci w1 (w.heap.size + 1) 0 lo (by go_simp)
    have da1 := zci w1 (w.heap.size + 1) 1 hi (by go_simp)
    have df0 := zfe w1 (w.heap.size + 1) 0 (by go_simp)
    have df1 := zfe w1 (w.heap.size + 1) 1 (by go_simp)
    have hW1 : Below w.heap.size w w1 := hW.trans (hb1.mono (by omega))
    have hCC1 : Hid (∀ o x, clC v push pull time o = some x → w1.cell? ⟨w.heap.size, o, none⟩ = some x) := hide (fun o x h => (hc1 _ _ (by omega)).trans (hCC.out o x h))
    clear hc1 hf1 c0 c1 c2 c3 c4 c5 c6 a0 a1 fa0 fa1 hCC hb1
    go_wp2_with fail
    have hQ0 := QL.start w1
    have K1 := hide (fun x => Q_of (W0 := w1) (PT.out x))
    have K2 := hide (Q_of (W0 := w1) LM2.out)
    have hsv : FD.spv ⟨s0, s1, s2⟩ = (.agg #[.int .i64 (s0), .int .i64 (s1)]) := rfl
    go_upto_region 5 with fail
    go_cut [10, 11] from 31 to 37 (fun s10 s11 wx => ∃ p : Nat, s10 = .pointer (some ⟨p, 0, none⟩) ∧ s11 = .int .i64 se ∧ QL w1 wx [(p, ⟨s0, s1, s2⟩)])
    case first =>
     have hP_a := hQ0.drew
     have hQ_a := hQ0.new0.drew
     go_region_held3 (fun w' => w'.cell? ⟨w.heap.size, 0, none⟩ = some (.int .i64 v.lo) ∧ w'.cell? ⟨w.heap.size, 1, none⟩ = some (.int .i64 v.hi) ∧ w'.cell? ⟨w.heap.size, 2, none⟩ = some (.int .i64 push.lo) ∧ w'.cell? ⟨w.heap.size, 3, none⟩ = some (.int .i64 push.hi) ∧ w'.cell? ⟨w.heap.size, 4, none⟩ = some (.int .i64 pull.lo) ∧ w'.cell? ⟨w.heap.size, 5, none⟩ = some (.int .i64 pull.hi) ∧ w'.cell? ⟨w.heap.size, 6, none⟩ = some (.int .i64 time))
      (first | exact ⟨(hQ_a.old y1 d0), (hQ_a.old y1 d1), (hQ_a.old y1 d2), (hQ_a.old y1 d3), (hQ_a.old y1 d4), (hQ_a.old y1 d5), (hQ_a.old y1 d6)⟩ | exact ⟨((hP_a1.sethead ⟨s0, s1, s2⟩).old y1 d0), ((hP_a1.sethead ⟨s0, s1, s2⟩).old y1 d1), ((hP_a1.sethead ⟨s0, s1, s2⟩).old y1 d2), ((hP_a1.sethead ⟨s0, s1, s2⟩).old y1 d3), ((hP_a1.sethead ⟨s0, s1, s2⟩).old y1 d4), ((hP_a1.sethead ⟨s0, s1, s2⟩).old y1 d5), ((hP_a1.sethead ⟨s0, s1, s2⟩).old y1 d6)⟩ | exact ⟨((hP_a1.new ⟨s0, s1, s2⟩).old y1 d0), ((hP_a1.new ⟨s0, s1, s2⟩).old y1 d1), ((hP_a1.new ⟨s0, s1, s2⟩).old y1 d2), ((hP_a1.new ⟨s0, s1, s2⟩).old y1 d3), ((hP_a1.new ⟨s0, s1, s2⟩).old y1 d4), ((hP_a1.new ⟨s0, s1, s2⟩).old y1 d5), ((hP_a1.new ⟨s0, s1, s2⟩).old y1 d6)⟩ | exact ⟨(hP_a1.new0.old y1 d0), (hP_a1.new0.old y1 d1), (hP_a1.new0.old y1 d2), (hP_a1.new0.old y1 d3), (hP_a1.new0.old y1 d4), (hP_a1.new0.old y1 d5), (hP_a1.new0.old y1 d6)⟩ | exact ⟨(hP_a1.old y1 d0), (hP_a1.old y1 d1), (hP_a1.old y1 d2), (hP_a1.old y1 d3), (hP_a1.old y1 d4), (hP_a1.old y1 d5), (hP_a1.old y1 d6)⟩ | exact ⟨(hP_a0.new0.old y1 d0), (hP_a0.new0.old y1 d1), (hP_a0.new0.old y1 d2), (hP_a0.new0.old y1 d3), (hP_a0.new0.old y1 d4), (hP_a0.new0.old y1 d5), (hP_a0.new0.old y1 d6)⟩ | exact ⟨(hP_a0.old y1 d0), (hP_a0.old y1 d1), (hP_a0.old y1 d2), (hP_a0.old y1 d3), (hP_a0.old y1 d4), (hP_a0.old y1 d5), (hP_a0.old y1 d6)⟩ | exact ⟨(hP_a.new0.old y1 d0), (hP_a.new0.old y1 d1), (hP_a.new0.old y1 d2), (hP_a.new0.old y1 d3), (hP_a.new0.old y1 d4), (hP_a.new0.old y1 d5), (hP_a.new0.old y1 d6)⟩ | exact ⟨(hP_a.old y1 d0), (hP_a.old y1 d1), (hP_a.old y1 d2), (hP_a.old y1 d3), (hP_a.old y1 d4), (hP_a.old y1 d5), (hP_a.old y1 d6)⟩)
      (first | (go_at_call 19; (first | with_reducible refine (K2.out _ _ hP_a0).mono ?_ | with_reducible refine (K2.out _ _ (hP_a0.new0)).mono ?_); rintro r w_hP_a1 ⟨rfl, hP_a1⟩; try (obtain ⟨x0_hP_a1, x1_hP_a1, x2_hP_a1, x3_hP_a1, x4_hP_a1⟩ := hP_a1.head)) | (go_at_call 49; (first | with_reducible refine (K1.out _ _ _ hP_a).mono ?_ | with_reducible refine (K1.out _ _ _ (hQ_a)).mono ?_); rintro r w_hP_a0 ⟨rfl, hP_a0⟩; try (obtain ⟨x0_hP_a0, x1_hP_a0, x2_hP_a0, x3_hP_a0, x4_hP_a0⟩ := hP_a0.head)))
     all_goals go_wp2_with fail
     all_goals go_meet
     all_goals (refine ⟨_, rfl, rfl, ?_⟩; first | exact hP_a1.sethead ⟨s0, s1, s2⟩ | exact hP_a1.new ⟨s0, s1, s2⟩)
    case rest =>
     obtain ⟨p, rfl, rfl, hQ⟩ := hcut
     obtain ⟨l0, p0, p1, pf0, pf1⟩ := hQ.head
     dsimp only at p0 p1
     have hWc := hW1.trans (hQ.below.mono (by omega))
     have hsz := hQ.below.size
     have ea0 := hQ.old y2 da0
     have ea1 := hQ.old y2 da1
     have ef0 := hQ.oldf y2 df0
     have ef1 := hQ.oldf y2 df1
     have hCC2 : Hid (∀ o x, clC v push pull time o = some x → wc.cell? ⟨w.heap.size, o, none⟩ = some x) := hide (fun o x h => hQ.old y1 (hCC1.out o x h))
     clear d0 d1 d2 d3 d4 d5 d6 da0 da1 df0 df1 hCC1 hQ hQ0 K1 K2 hsv LM2 MI HS HV OR VS HG hW
     by_cases h1 : s1 < want
     ·rw [if_pos h1] at OM
      have HN2 := hide ((U1.out (by omega)).symm.trans HNN.out)
      clear U1 U2 U3 HNN h1
      go_wp2_with fail
      refine QT.quiet_b (by kernel_rfl) (by kernel_rfl) ?_
      repeat (first
       | go_big_quiet_skip
       | (go_big_quiet_want; go_big_quiet_op; first
        | go_big_quiet_on
        | (apply Exists.intro
           refine ⟨fun _ => ?_, ?_⟩
           ·first
            | rfl
            | (intro hC; obtain ⟨hcq, hfq⟩ := bcellB hC; go_simp; done)
            | (intro hC; obtain ⟨hcq, hfq⟩ := bcellB hC; go_simp; rfl)
            | (intro hC; have hcq := bcellG hC; go_simp; done)
            | (intro hC; have hcq := bcellG hC; go_simp; rfl)
            | (intro hC; go_at_call 49; (first | (with_reducible refine (PT.out _ _).mono ?_)); (intro e w2 hw; exact ⟨hw.1, qtrans (by simp) hC hw.2⟩))
            | (intro hC; go_at_call 76; (first | (with_reducible refine (OM.out _).mono ?_)); (intro e w2 hw; exact ⟨hw.1, qtrans (by simp) hC hw.2⟩))
           go_big_quiet_on)))
      refine wpQuiet_nil ?_
      intro w9 hC9
      obtain ⟨hc9, hf9⟩ := bcellB hC9
      have hz9 := hC9.size
      have g0 : w9.cell? ⟨w.heap.size + 1, 0, none⟩ = some (.int .i64 lo) := (hc9 _ _ (by omega)).trans ea0
      have g1 : w9.cell? ⟨w.heap.size + 1, 1, none⟩ = some (.int .i64 hi) := (hc9 _ _ (by omega)).trans ea1
      have gf0 : w9.frozen? ⟨w.heap.size + 1, 0, none⟩ = false := (hf9 _ _ (by omega)).trans ef0
      have gf1 : w9.frozen? ⟨w.heap.size + 1, 1, none⟩ = false := (hf9 _ _ (by omega)).trans ef1
      have hW9 := hWc.trans (hC9.mono (by omega))
      have yz : w.heap.size + 1 < w9.heap.size := by omega
      have hCC9 : Hid (∀ o x, clC v push pull time o = some x → w9.cell? ⟨w.heap.size, o, none⟩ = some x) := hide (fun o x h => (hc9 _ _ (by omega)).trans (hCC2.out o x h))
      clear hc9 hf9 ea0 ea1 ef0 ef1 hCC2 p0 p1 pf0 pf1 l0
      go_wp2
      go_roundw
      case rel => exact ⟨j, m, hi, u + 1, rfl, by omega, by omega, by omega, by omega, by omega, HN2.out, hW9.setCell (by show w.heap.size ≤ w.heap.size + 1; omega) _, by simpa using yz, fun o x h => (far (by omega)).trans (hCC9.out o x h), by go_simp, by go_simp, by go_simp, by go_simp⟩
      case measure => simp [intOf]; omega
     ·rw [if_neg h1] at OM
      by_cases h2 : want < s0
      ·rw [if_pos h2] at OM
       have HN2 := hide ((U2.out (by omega) (by omega)).symm.trans HNN.out)
       clear U1 U2 U3 HNN h1 h2
       go_wp2_with fail
       refine QT.quiet_b (by kernel_rfl) (by kernel_rfl) ?_
       repeat (first
        | go_big_quiet_skip
        | (go_big_quiet_want; go_big_quiet_op; first
         | go_big_quiet_on
         | (apply Exists.intro
            refine ⟨fun _ => ?_, ?_⟩
            ·first
             | rfl
             | (intro hC; obtain ⟨hcq, hfq⟩ := bcellB hC; go_simp; done)
             | (intro hC; obtain ⟨hcq, hfq⟩ := bcellB hC; go_simp; rfl)
             | (intro hC; have hcq := bcellG hC; go_simp; done)
             | (intro hC; have hcq := bcellG hC; go_simp; rfl)
             | (intro hC; go_at_call 49; (first | (with_reducible refine (PT.out _ _).mono ?_)); (intro e w2 hw; exact ⟨hw.1, qtrans (by simp) hC hw.2⟩))
             | (intro hC; go_at_call 76; (first | (with_reducible refine (OM.out _).mono ?_)); (intro e w2 hw; exact ⟨hw.1, qtrans (by simp) hC hw.2⟩))
            go_big_quiet_on)))
       refine wpQuiet_nil ?_
       intro w9 hC9
       obtain ⟨hc9, hf9⟩ := bcellB hC9
       have hz9 := hC9.size
       have g0 : w9.cell? ⟨w.heap.size + 1, 0, none⟩ = some (.int .i64 lo) := (hc9 _ _ (by omega)).trans ea0
       have g1 : w9.cell? ⟨w.heap.size + 1, 1, none⟩ = some (.int .i64 hi) := (hc9 _ _ (by omega)).trans ea1
       have gf0 : w9.frozen? ⟨w.heap.size + 1, 0, none⟩ = false := (hf9 _ _ (by omega)).trans ef0
       have gf1 : w9.frozen? ⟨w.heap.size + 1, 1, none⟩ = false := (hf9 _ _ (by omega)).trans ef1
       have hW9 := hWc.trans (hC9.mono (by omega))
       have yz : w.heap.size + 1 < w9.heap.size := by omega
       have hCC9 : Hid (∀ o x, clC v push pull time o = some x → w9.cell? ⟨w.heap.size, o, none⟩ = some x) := hide (fun o x h => (hc9 _ _ (by omega)).trans (hCC2.out o x h))
       clear hc9 hf9 ea0 ea1 ef0 ef1 hCC2 p0 p1 pf0 pf1 l0
       go_wp2
       go_roundw
       case rel => exact ⟨j, lo, m, u + 1, rfl, by omega, by omega, by omega, by omega, by omega, HN2.out, hW9.setCell (by show w.heap.size ≤ w.heap.size + 1; omega) _, by simpa using yz, fun o x h => (far (by omega)).trans (hCC9.out o x h), by go_simp, by go_simp, by go_simp, by go_simp⟩
       case measure => simp [intOf]; omega
      ·rw [if_neg h2] at OM
       obtain ⟨rfl, rfl, rfl⟩ : lo = G1 ∧ hi = G2 ∧ u + 1 = G3 := by have := (U3.out (by omega) (by omega)).symm.trans HNN.out; simpa using this
       clear U1 U2 U3 HNN h1 h2
       go_wp2_with fail
       refine QT.quiet_b (by kernel_rfl) (by kernel_rfl) ?_
       repeat (first
        | go_big_quiet_skip
        | (go_big_quiet_want; go_big_quiet_op; first
         | go_big_quiet_on
         | (apply Exists.intro
            refine ⟨fun _ => ?_, ?_⟩
            ·first
             | rfl
             | (intro hC; obtain ⟨hcq, hfq⟩ := bcellB hC; go_simp; done)
             | (intro hC; obtain ⟨hcq, hfq⟩ := bcellB hC; go_simp; rfl)
             | (intro hC; have hcq := bcellG hC; go_simp; done)
             | (intro hC; have hcq := bcellG hC; go_simp; rfl)
             | (intro hC; go_at_call 49; (first | (with_reducible refine (PT.out _ _).mono ?_)); (intro e w2 hw; exact ⟨hw.1, qtrans (by simp) hC hw.2⟩))
             | (intro hC; go_at_call 76; (first | (with_reducible refine (OM.out _).mono ?_)); (intro e w2 hw; exact ⟨hw.1, qtrans (by simp) hC hw.2⟩))
            go_big_quiet_on)))
       refine wpQuiet_nil ?_
       intro w9 hC9
       obtain ⟨hc9, hf9⟩ := bcellB hC9
       have hz9 := hC9.size
       have g0 : w9.cell? ⟨w.heap.size + 1, 0, none⟩ = some (.int .i64 lo) := (hc9 _ _ (by omega)).trans ea0
       have g1 : w9.cell? ⟨w.heap.size + 1, 1, none⟩ = some (.int .i64 hi) := (hc9 _ _ (by omega)).trans ea1
       have gf0 : w9.frozen? ⟨w.heap.size + 1, 0, none⟩ = false := (hf9 _ _ (by omega)).trans ef0
       have gf1 : w9.frozen? ⟨w.heap.size + 1, 1, none⟩ = false := (hf9 _ _ (by omega)).trans ef1
       have hW9 := hWc.trans (hC9.mono (by omega))
       have yz : w.heap.size + 1 < w9.heap.size := by omega
       have hCC9 : Hid (∀ o x, clC v push pull time o = some x → w9.cell? ⟨w.heap.size, o, none⟩ = some x) := hide (fun o x h => (hc9 _ _ (by omega)).trans (hCC2.out o x h))
       clear hc9 hf9 ea0 ea1 ef0 ef1 hCC2 p0 p1 pf0 pf1 l0
       go_wp2
       refine bodyPost_ret (v := (.tuple #[.agg #[.int .i64 (lo), .int .i64 (hi)], .int .i64 (u + 1)])) (by simp only [results, Try.results28]; go_simp) rfl ⟨rfl, blw_⟩
end Sw
end
section
set_option maxRecDepth 100000
open Go.RowKit
open FP
namespace Sw
theorem i1 : FD.In64 4294967296 := ⟨by decide, by decide⟩
theorem i2 : FD.In64 (-4294967296) := ⟨by decide, by decide⟩
abbrev aimT (x y u e : Int) : Value := .tuple #[.agg #[.int .i64 (x), .int .i64 (y)], .int .i64 u, .int .i64 e]

set_option maxHeartbeats 2000000 in
theorem aim_b1 (v push pull : FD.Sp) (time want r : Int) (hk : okC v push pull time = false) (w : World) :
  Calls Try.prog 8 #[FD.spv v, FD.spv push, FD.spv pull, .int .i64 time, .int .i64 want, .int .i64 r] w fun e w' => e = .returned (aimT 0 0 0 2) ∧ Below w.heap.size w w' := by
 have IV := hide (fun W => isv_any v push pull time W)
 rw [hk] at IV
 clear hk
 go_enter Try.func8, Try.ntmps8
 go_wp2_with fail
 refine (IV.out _).mono ?_
 rintro e w1 ⟨rfl, hb1⟩
 obtain ⟨hc1, hf1⟩ := bcell hb1
 have hz1 := hb1.size
 try simp only [World.size_alloc, World.size_setCell] at hz1
 try refine zw5 w w1 (by omega) fun _ _ _ _ _ _ _ _ _ _ => ?_
 have c1_0_0 := zci w1 (w.heap.size + 1 + 1 + 1) 0 (0) (by go_simp)
 have g1_0_0 := zfe w1 (w.heap.size + 1 + 1 + 1) 0 (by go_simp)
 have c1_0_1 := zci w1 (w.heap.size + 1 + 1 + 1) 1 (0) (by go_simp)
 have g1_0_1 := zfe w1 (w.heap.size + 1 + 1 + 1) 1 (by go_simp)
 clear hc1 hf1
 go_wp2
 refine bodyPost_ret (v := aimT 0 0 0 2) (by simp only [results, Try.results8]; go_simp) rfl ⟨rfl, blw_⟩
set_option maxHeartbeats 2000000 in
theorem aim_b2 (v push pull : FD.Sp) (time want r : Int) (hk : okC v push pull time = true) (hw : FD.In64 want) (hn : numB want = false) (w : World) :
  Calls Try.prog 8 #[FD.spv v, FD.spv push, FD.spv pull, .int .i64 time, .int .i64 want, .int .i64 r] w fun e w' => e = .returned (aimT 0 0 0 2) ∧ Below w.heap.size w w' := by
 have IV := hide (fun W => isv_any v push pull time W)
 rw [hk] at IV
 have NU := hide (fun W => isNumber_any want hw W)
 rw [hn] at NU
 clear hk hn hw
 go_enter Try.func8, Try.ntmps8
 go_wp2_with fail
 refine (IV.out _).mono ?_
 rintro e w1 ⟨rfl, hb1⟩
 obtain ⟨hc1, hf1⟩ := bcell hb1
 have hz1 := hb1.size
 try simp only [World.size_alloc, World.size_setCell] at hz1
 try refine zw5 w w1 (by omega) fun _ _ _ _ _ _ _ _ _ _ => ?_
 have c1_0_0 := zci w1 (w.heap.size + 1 + 1 + 1) 0 (0) (by go_simp)
 have g1_0_0 := zfe w1 (w.heap.size + 1 + 1 + 1) 0 (by go_simp)
 have c1_0_1 := zci w1 (w.heap.size + 1 + 1 + 1) 1 (0) (by go_simp)
 have g1_0_1 := zfe w1 (w.heap.size + 1 + 1 + 1) 1 (by go_simp)
 clear hc1 hf1
 go_wp2_with fail
 refine (NU.out _).mono ?_
 rintro e w2 ⟨rfl, hb2⟩
 obtain ⟨hc2, hf2⟩ := bcell hb2
 have hz2 := hb2.size
 try simp only [World.size_alloc, World.size_setCell] at hz2
 try refine zw5 w w2 (by omega) fun _ _ _ _ _ _ _ _ _ _ => ?_
 have c2_0_0 := zci w2 (w.heap.size + 1 + 1 + 1) 0 (0) (by go_simp)
 have g2_0_0 := zfe w2 (w.heap.size + 1 + 1 + 1) 0 (by go_simp)
 have c2_0_1 := zci w2 (w.heap.size + 1 + 1 + 1) 1 (0) (by go_simp)
 have g2_0_1 := zfe w2 (w.heap.size + 1 + 1 + 1) 1 (by go_simp)
 clear hc2 hf2 c1_0_0 g1_0_0 c1_0_1 g1_0_1
 go_wp2
 refine bodyPost_ret (v := aimT 0 0 0 2) (by simp only [results, Try.results8]; go_simp) rfl ⟨rfl, blw_⟩
set_option maxHeartbeats 2000000 in
theorem aim_b3 (v push pull : FD.Sp) (time want r : Int) (hk : okC v push pull time = true) (hw : FD.In64 want) (hn : numB want = true) (hr : r < 0) (w : World) :
  Calls Try.prog 8 #[FD.spv v, FD.spv push, FD.spv pull, .int .i64 time, .int .i64 want, .int .i64 r] w fun e w' => e = .returned (aimT 0 0 0 2) ∧ Below w.heap.size w w' := by
 have IV := hide (fun W => isv_any v push pull time W)
 rw [hk] at IV
 have NU := hide (fun W => isNumber_any want hw W)
 rw [hn] at NU
 clear hk hn hw
 go_enter Try.func8, Try.ntmps8
 go_wp2_with fail
 refine (IV.out _).mono ?_
 rintro e w1 ⟨rfl, hb1⟩
 obtain ⟨hc1, hf1⟩ := bcell hb1
 have hz1 := hb1.size
 try simp only [World.size_alloc, World.size_setCell] at hz1
 try refine zw5 w w1 (by omega) fun _ _ _ _ _ _ _ _ _ _ => ?_
 have c1_0_0 := zci w1 (w.heap.size + 1 + 1 + 1) 0 (0) (by go_simp)
 have g1_0_0 := zfe w1 (w.heap.size + 1 + 1 + 1) 0 (by go_simp)
 have c1_0_1 := zci w1 (w.heap.size + 1 + 1 + 1) 1 (0) (by go_simp)
 have g1_0_1 := zfe w1 (w.heap.size + 1 + 1 + 1) 1 (by go_simp)
 clear hc1 hf1
 go_wp2_with fail
 refine (NU.out _).mono ?_
 rintro e w2 ⟨rfl, hb2⟩
 obtain ⟨hc2, hf2⟩ := bcell hb2
 have hz2 := hb2.size
 try simp only [World.size_alloc, World.size_setCell] at hz2
 try refine zw5 w w2 (by omega) fun _ _ _ _ _ _ _ _ _ _ => ?_
 have c2_0_0 := zci w2 (w.heap.size + 1 + 1 + 1) 0 (0) (by go_simp)
 have g2_0_0 := zfe w2 (w.heap.size + 1 + 1 + 1) 0 (by go_simp)
 have c2_0_1 := zci w2 (w.heap.size + 1 + 1 + 1) 1 (0) (by go_simp)
 have g2_0_1 := zfe w2 (w.heap.size + 1 + 1 + 1) 1 (by go_simp)
 clear hc2 hf2 c1_0_0 g1_0_0 c1_0_1 g1_0_1
 go_wp2
 refine bodyPost_ret (v := aimT 0 0 0 2) (by simp only [results, Try.results8]; go_simp) rfl ⟨rfl, blw_⟩
set_option maxHeartbeats 2000000 in
theorem aim_b4 (v push pull : FD.Sp) (time want r : Int) (hk : okC v push pull time = true) (hw : FD.In64 want) (hn : numB want = true) (hr : 40 < r) (w : World) :
  Calls Try.prog 8 #[FD.spv v, FD.spv push, FD.spv pull, .int .i64 time, .int .i64 want, .int .i64 r] w fun e w' => e = .returned (aimT 0 0 0 2) ∧ Below w.heap.size w w' := by
 have IV := hide (fun W => isv_any v push pull time W)
 rw [hk] at IV
 have NU := hide (fun W => isNumber_any want hw W)
 rw [hn] at NU
 have hr0 : ¬ r < 0 := by omega
 clear hk hn hw
 go_enter Try.func8, Try.ntmps8
 go_wp2_with fail
 refine (IV.out _).mono ?_
 rintro e w1 ⟨rfl, hb1⟩
 obtain ⟨hc1, hf1⟩ := bcell hb1
 have hz1 := hb1.size
 try simp only [World.size_alloc, World.size_setCell] at hz1
 try refine zw5 w w1 (by omega) fun _ _ _ _ _ _ _ _ _ _ => ?_
 have c1_0_0 := zci w1 (w.heap.size + 1 + 1 + 1) 0 (0) (by go_simp)
 have g1_0_0 := zfe w1 (w.heap.size + 1 + 1 + 1) 0 (by go_simp)
 have c1_0_1 := zci w1 (w.heap.size + 1 + 1 + 1) 1 (0) (by go_simp)
 have g1_0_1 := zfe w1 (w.heap.size + 1 + 1 + 1) 1 (by go_simp)
 clear hc1 hf1
 go_wp2_with fail
 refine (NU.out _).mono ?_
 rintro e w2 ⟨rfl, hb2⟩
 obtain ⟨hc2, hf2⟩ := bcell hb2
 have hz2 := hb2.size
 try simp only [World.size_alloc, World.size_setCell] at hz2
 try refine zw5 w w2 (by omega) fun _ _ _ _ _ _ _ _ _ _ => ?_
 have c2_0_0 := zci w2 (w.heap.size + 1 + 1 + 1) 0 (0) (by go_simp)
 have g2_0_0 := zfe w2 (w.heap.size + 1 + 1 + 1) 0 (by go_simp)
 have c2_0_1 := zci w2 (w.heap.size + 1 + 1 + 1) 1 (0) (by go_simp)
 have g2_0_1 := zfe w2 (w.heap.size + 1 + 1 + 1) 1 (by go_simp)
 clear hc2 hf2 c1_0_0 g1_0_0 c1_0_1 g1_0_1
 go_wp2
 refine bodyPost_ret (v := aimT 0 0 0 2) (by simp only [results, Try.results8]; go_simp) rfl ⟨rfl, blw_⟩
set_option maxHeartbeats 4000000 in
theorem aim_main (v push pull tm : FD.Sp) (time : Int) (t0 : tm.lo = time) (t1 : tm.hi = time) (want : Int) (hw : FD.In64 want) (hn : numB want = true) (R : Nat) (hR : R ≤ 40) (hk : okC v push pull time = true) (T D : FD.Sp × Int) (hT : lfQ v push pull tm (pt 4294967296 i1) = T) (hD : lfQ v push pull tm (pt (-4294967296) i2) = D) (G : Int × Int × Int)
  (hN : T.2 = 0 → D.2 = 0 → ∀ W, Calls Try.prog 28 #[clv v push pull time, .int .i64 want, .int .i64 R] W fun e W' => e = .returned (.tuple #[.agg #[.int .i64 (G.1), .int .i64 (G.2.1)], .int .i64 G.2.2]) ∧ Below W.heap.size W W')
  (RV : Value) (r1 : ¬ T.2 = 0 → RV = aimT 0 0 0 T.2) (r2 : T.2 = 0 → ¬ D.2 = 0 → RV = aimT 0 0 0 D.2) (r3 : T.2 = 0 → D.2 = 0 → (T.1.hi < want ∨ want < D.1.lo) → RV = aimT 0 0 0 7) (r4 : T.2 = 0 → D.2 = 0 → ¬ (T.1.hi < want ∨ want < D.1.lo) → RV = aimT G.1 G.2.1 G.2.2 0) (w : World) :
  Calls Try.prog 8 #[FD.spv v, FD.spv push, FD.spv pull, .int .i64 time, .int .i64 want, .int .i64 R] w fun e w' => e = .returned (RV) ∧ Below w.heap.size w w' := by
 have IV := hide (fun W => isv_any v push pull time W)
 rw [hk] at IV
 have NU := hide (fun W => isNumber_any want hw W)
 rw [hn] at NU
 have W1 := hide whole_one
 have W2 := hide whole_neg
 have LT : Hid (∀ W, Calls Try.prog 19 #[clv v push pull time, .agg #[.int .i64 (4294967296), .int .i64 (4294967296)]] W fun e w' => e = .returned (.tuple #[FD.spv T.1, .int .i64 T.2]) ∧ Below W.heap.size W w') := hide (fun W => by have h := lift_any v push pull tm (pt 4294967296 i1) time t0 t1 W; rw [hT] at h; exact h)
 have LD : Hid (∀ W, Calls Try.prog 19 #[clv v push pull time, .agg #[.int .i64 (-4294967296), .int .i64 (-4294967296)]] W fun e w' => e = .returned (.tuple #[FD.spv D.1, .int .i64 D.2]) ∧ Below W.heap.size W w') := hide (fun W => by have h := lift_any v push pull tm (pt (-4294967296) i2) time t0 t1 W; rw [hD] at h; exact h)
 have Q1 := hide r1
 have Q2 := hide r2
 have Q3 := hide r3
 have Q4 := hide r4
 have HN := hide hN
 clear hk hn hw hT hD t0 t1 r1 r2 r3 r4 hN
 obtain ⟨G1, G2, G3⟩ := G
 obtain ⟨⟨T0, T1, T2⟩, TE⟩ := T
 obtain ⟨⟨D0, D1, D2⟩, DE⟩ := D
 dsimp only at *
 have hR1 : ¬ (40 : Int) < (R : Int) := by omega
 have hR2 : ¬ (R : Int) < 0 := by omega
 go_enter Try.func8, Try.ntmps8
 go_wp2_with fail
 refine (IV.out _).mono ?_
 rintro e w1 ⟨rfl, hb1⟩
 obtain ⟨hc1, hf1⟩ := bcell hb1
 have hz1 := hb1.size
 try simp only [World.size_alloc, World.size_setCell] at hz1
 try refine zw5 w w1 (by omega) fun _ _ _ _ _ _ _ _ _ _ => ?_
 have c1_0_0 := zci w1 (w.heap.size + 1 + 1 + 1) 0 (0) (by go_simp)
 have g1_0_0 := zfe w1 (w.heap.size + 1 + 1 + 1) 0 (by go_simp)
 have c1_0_1 := zci w1 (w.heap.size + 1 + 1 + 1) 1 (0) (by go_simp)
 have g1_0_1 := zfe w1 (w.heap.size + 1 + 1 + 1) 1 (by go_simp)
 have c1_1_0 := zci w1 (w.heap.size + 1 + 1 + 1 + 1) 0 (v.lo) (by go_simp)
 have c1_1_1 := zci w1 (w.heap.size + 1 + 1 + 1 + 1) 1 (v.hi) (by go_simp)
 have c1_1_2 := zci w1 (w.heap.size + 1 + 1 + 1 + 1) 2 (push.lo) (by go_simp)
 have c1_1_3 := zci w1 (w.heap.size + 1 + 1 + 1 + 1) 3 (push.hi) (by go_simp)
 have c1_1_4 := zci w1 (w.heap.size + 1 + 1 + 1 + 1) 4 (pull.lo) (by go_simp)
 have c1_1_5 := zci w1 (w.heap.size + 1 + 1 + 1 + 1) 5 (pull.hi) (by go_simp)
 have c1_1_6 := zci w1 (w.heap.size + 1 + 1 + 1 + 1) 6 (time) (by go_simp)
 clear hc1 hf1
 go_wp2_with fail
 refine (NU.out _).mono ?_
 rintro e w2 ⟨rfl, hb2⟩
 obtain ⟨hc2, hf2⟩ := bcell hb2
 have hz2 := hb2.size
 try simp only [World.size_alloc, World.size_setCell] at hz2
 try refine zw5 w w2 (by omega) fun _ _ _ _ _ _ _ _ _ _ => ?_
 have c2_0_0 := zci w2 (w.heap.size + 1 + 1 + 1) 0 (0) (by go_simp)
 have g2_0_0 := zfe w2 (w.heap.size + 1 + 1 + 1) 0 (by go_simp)
 have c2_0_1 := zci w2 (w.heap.size + 1 + 1 + 1) 1 (0) (by go_simp)
 have g2_0_1 := zfe w2 (w.heap.size + 1 + 1 + 1) 1 (by go_simp)
 have c2_1_0 := zci w2 (w.heap.size + 1 + 1 + 1 + 1) 0 (v.lo) (by go_simp)
 have c2_1_1 := zci w2 (w.heap.size + 1 + 1 + 1 + 1) 1 (v.hi) (by go_simp)
 have c2_1_2 := zci w2 (w.heap.size + 1 + 1 + 1 + 1) 2 (push.lo) (by go_simp)
 have c2_1_3 := zci w2 (w.heap.size + 1 + 1 + 1 + 1) 3 (push.hi) (by go_simp)
 have c2_1_4 := zci w2 (w.heap.size + 1 + 1 + 1 + 1) 4 (pull.lo) (by go_simp)
 have c2_1_5 := zci w2 (w.heap.size + 1 + 1 + 1 + 1) 5 (pull.hi) (by go_simp)
 have c2_1_6 := zci w2 (w.heap.size + 1 + 1 + 1 + 1) 6 (time) (by go_simp)
 clear hc2 hf2 c1_0_0 g1_0_0 c1_0_1 g1_0_1 c1_1_0 c1_1_1 c1_1_2 c1_1_3 c1_1_4 c1_1_5 c1_1_6
 have hW2 : Below w.heap.size w w2 := blw_
 have yr : w.heap.size + 1 + 1 + 1 + 1 < w2.heap.size := by omega
 have yb : w.heap.size + 1 + 1 + 1 < w2.heap.size := by omega
 have hQ0 := QL.start w2
 have K1 := hide (Q_of (W0 := w2) W1.out)
 have K2 := hide (Q_of (W0 := w2) W2.out)
 have K3 := hide (Q_of (W0 := w2) LT.out)
 have K4 := hide (Q_of (W0 := w2) LD.out)
 clear IV NU W1 W2 LT LD hb1 hb2
 go_upto_region 4 with fail
 go_cut [16, 14] from 40 to 45 (fun s16 s14 wx => ∃ p : Nat, s16 = .pointer (some ⟨p, 0, none⟩) ∧ s14 = .int .i64 TE ∧ QL w2 wx [(p, ⟨T0, T1, T2⟩)])
 case first =>
  have hP_a := hQ0.drew
  have hQ_a := hQ0.new0.drew
  go_region_held3 (fun w' => w'.cell? ⟨w.heap.size + 1 + 1 + 1 + 1, 0, none⟩ = some (.int .i64 v.lo) ∧ w'.cell? ⟨w.heap.size + 1 + 1 + 1 + 1, 1, none⟩ = some (.int .i64 v.hi) ∧ w'.cell? ⟨w.heap.size + 1 + 1 + 1 + 1, 2, none⟩ = some (.int .i64 push.lo) ∧ w'.cell? ⟨w.heap.size + 1 + 1 + 1 + 1, 3, none⟩ = some (.int .i64 push.hi) ∧ w'.cell? ⟨w.heap.size + 1 + 1 + 1 + 1, 4, none⟩ = some (.int .i64 pull.lo) ∧ w'.cell? ⟨w.heap.size + 1 + 1 + 1 + 1, 5, none⟩ = some (.int .i64 pull.hi) ∧ w'.cell? ⟨w.heap.size + 1 + 1 + 1 + 1, 6, none⟩ = some (.int .i64 time))
   (first | exact ⟨(hQ_a.old yr c2_1_0), (hQ_a.old yr c2_1_1), (hQ_a.old yr c2_1_2), (hQ_a.old yr c2_1_3), (hQ_a.old yr c2_1_4), (hQ_a.old yr c2_1_5), (hQ_a.old yr c2_1_6)⟩ | exact ⟨((hP_a1.sethead ⟨T0, T1, T2⟩).old yr c2_1_0), ((hP_a1.sethead ⟨T0, T1, T2⟩).old yr c2_1_1), ((hP_a1.sethead ⟨T0, T1, T2⟩).old yr c2_1_2), ((hP_a1.sethead ⟨T0, T1, T2⟩).old yr c2_1_3), ((hP_a1.sethead ⟨T0, T1, T2⟩).old yr c2_1_4), ((hP_a1.sethead ⟨T0, T1, T2⟩).old yr c2_1_5), ((hP_a1.sethead ⟨T0, T1, T2⟩).old yr c2_1_6)⟩ | exact ⟨((hP_a1.new ⟨T0, T1, T2⟩).old yr c2_1_0), ((hP_a1.new ⟨T0, T1, T2⟩).old yr c2_1_1), ((hP_a1.new ⟨T0, T1, T2⟩).old yr c2_1_2), ((hP_a1.new ⟨T0, T1, T2⟩).old yr c2_1_3), ((hP_a1.new ⟨T0, T1, T2⟩).old yr c2_1_4), ((hP_a1.new ⟨T0, T1, T2⟩).old yr c2_1_5), ((hP_a1.new ⟨T0, T1, T2⟩).old yr c2_1_6)⟩ | exact ⟨(hP_a1.new0.old yr c2_1_0), (hP_a1.new0.old yr c2_1_1), (hP_a1.new0.old yr c2_1_2), (hP_a1.new0.old yr c2_1_3), (hP_a1.new0.old yr c2_1_4), (hP_a1.new0.old yr c2_1_5), (hP_a1.new0.old yr c2_1_6)⟩ | exact ⟨(hP_a1.old yr c2_1_0), (hP_a1.old yr c2_1_1), (hP_a1.old yr c2_1_2), (hP_a1.old yr c2_1_3), (hP_a1.old yr c2_1_4), (hP_a1.old yr c2_1_5), (hP_a1.old yr c2_1_6)⟩ | exact ⟨(hP_a0.new0.old yr c2_1_0), (hP_a0.new0.old yr c2_1_1), (hP_a0.new0.old yr c2_1_2), (hP_a0.new0.old yr c2_1_3), (hP_a0.new0.old yr c2_1_4), (hP_a0.new0.old yr c2_1_5), (hP_a0.new0.old yr c2_1_6)⟩ | exact ⟨(hP_a0.old yr c2_1_0), (hP_a0.old yr c2_1_1), (hP_a0.old yr c2_1_2), (hP_a0.old yr c2_1_3), (hP_a0.old yr c2_1_4), (hP_a0.old yr c2_1_5), (hP_a0.old yr c2_1_6)⟩ | exact ⟨(hP_a.new0.old yr c2_1_0), (hP_a.new0.old yr c2_1_1), (hP_a.new0.old yr c2_1_2), (hP_a.new0.old yr c2_1_3), (hP_a.new0.old yr c2_1_4), (hP_a.new0.old yr c2_1_5), (hP_a.new0.old yr c2_1_6)⟩ | exact ⟨(hP_a.old yr c2_1_0), (hP_a.old yr c2_1_1), (hP_a.old yr c2_1_2), (hP_a.old yr c2_1_3), (hP_a.old yr c2_1_4), (hP_a.old yr c2_1_5), (hP_a.old yr c2_1_6)⟩)
   (first | (go_at_call 19; (first | with_reducible refine (K3.out _ _ hP_a0).mono ?_ | with_reducible refine (K3.out _ _ (hP_a0.new0)).mono ?_); rintro r w_hP_a1 ⟨rfl, hP_a1⟩; try (obtain ⟨x0_hP_a1, x1_hP_a1, x2_hP_a1, x3_hP_a1, x4_hP_a1⟩ := hP_a1.head)) | (go_at_call 27; (first | with_reducible refine (K1.out _ _ hP_a).mono ?_ | with_reducible refine (K1.out _ _ (hQ_a)).mono ?_); rintro r w_hP_a0 ⟨rfl, hP_a0⟩; try (obtain ⟨x0_hP_a0, x1_hP_a0, x2_hP_a0, x3_hP_a0, x4_hP_a0⟩ := hP_a0.head)))
  all_goals go_wp2_with fail
  all_goals go_meet
  all_goals (refine ⟨_, rfl, rfl, ?_⟩; first | exact hP_a1.sethead ⟨T0, T1, T2⟩ | exact hP_a1.new ⟨T0, T1, T2⟩)
 case rest =>
  obtain ⟨p9, rfl, rfl, hQ⟩ := hcut
  clear K1 K3 hQ0
  have hW3 := hW2.trans (hQ.below.mono (by omega))
  have hsz := hQ.below.size
  have b0 := hQ.old yb c2_0_0
  have b1 := hQ.old yb c2_0_1
  have bf0 := hQ.oldf yb g2_0_0
  have bf1 := hQ.oldf yb g2_0_1
  by_cases hTE : TE = 0
  ·subst hTE
   go_wp2_with fail
   go_upto_region 7 with fail
   go_cut [17, 14] from 50 to 55 (fun s17 s14 wx => ∃ p : Nat, s17 = .pointer (some ⟨p, 0, none⟩) ∧ s14 = .int .i64 DE ∧ QL w2 wx ((p, ⟨D0, D1, D2⟩) :: [(p9, ⟨T0, T1, T2⟩)]))
   case first =>
    have hP_b := hQ.drew
    have hQ_b := hQ.new0.drew
    go_region_held3 (fun w' => w'.cell? ⟨w.heap.size + 1 + 1 + 1 + 1, 0, none⟩ = some (.int .i64 v.lo) ∧ w'.cell? ⟨w.heap.size + 1 + 1 + 1 + 1, 1, none⟩ = some (.int .i64 v.hi) ∧ w'.cell? ⟨w.heap.size + 1 + 1 + 1 + 1, 2, none⟩ = some (.int .i64 push.lo) ∧ w'.cell? ⟨w.heap.size + 1 + 1 + 1 + 1, 3, none⟩ = some (.int .i64 push.hi) ∧ w'.cell? ⟨w.heap.size + 1 + 1 + 1 + 1, 4, none⟩ = some (.int .i64 pull.lo) ∧ w'.cell? ⟨w.heap.size + 1 + 1 + 1 + 1, 5, none⟩ = some (.int .i64 pull.hi) ∧ w'.cell? ⟨w.heap.size + 1 + 1 + 1 + 1, 6, none⟩ = some (.int .i64 time))
     (first | exact ⟨(hQ_b.old yr c2_1_0), (hQ_b.old yr c2_1_1), (hQ_b.old yr c2_1_2), (hQ_b.old yr c2_1_3), (hQ_b.old yr c2_1_4), (hQ_b.old yr c2_1_5), (hQ_b.old yr c2_1_6)⟩ | exact ⟨((hP_b1.sethead ⟨D0, D1, D2⟩).old yr c2_1_0), ((hP_b1.sethead ⟨D0, D1, D2⟩).old yr c2_1_1), ((hP_b1.sethead ⟨D0, D1, D2⟩).old yr c2_1_2), ((hP_b1.sethead ⟨D0, D1, D2⟩).old yr c2_1_3), ((hP_b1.sethead ⟨D0, D1, D2⟩).old yr c2_1_4), ((hP_b1.sethead ⟨D0, D1, D2⟩).old yr c2_1_5), ((hP_b1.sethead ⟨D0, D1, D2⟩).old yr c2_1_6)⟩ | exact ⟨((hP_b1.new ⟨D0, D1, D2⟩).old yr c2_1_0), ((hP_b1.new ⟨D0, D1, D2⟩).old yr c2_1_1), ((hP_b1.new ⟨D0, D1, D2⟩).old yr c2_1_2), ((hP_b1.new ⟨D0, D1, D2⟩).old yr c2_1_3), ((hP_b1.new ⟨D0, D1, D2⟩).old yr c2_1_4), ((hP_b1.new ⟨D0, D1, D2⟩).old yr c2_1_5), ((hP_b1.new ⟨D0, D1, D2⟩).old yr c2_1_6)⟩ | exact ⟨(hP_b1.new0.old yr c2_1_0), (hP_b1.new0.old yr c2_1_1), (hP_b1.new0.old yr c2_1_2), (hP_b1.new0.old yr c2_1_3), (hP_b1.new0.old yr c2_1_4), (hP_b1.new0.old yr c2_1_5), (hP_b1.new0.old yr c2_1_6)⟩ | exact ⟨(hP_b1.old yr c2_1_0), (hP_b1.old yr c2_1_1), (hP_b1.old yr c2_1_2), (hP_b1.old yr c2_1_3), (hP_b1.old yr c2_1_4), (hP_b1.old yr c2_1_5), (hP_b1.old yr c2_1_6)⟩ | exact ⟨(hP_b0.new0.old yr c2_1_0), (hP_b0.new0.old yr c2_1_1), (hP_b0.new0.old yr c2_1_2), (hP_b0.new0.old yr c2_1_3), (hP_b0.new0.old yr c2_1_4), (hP_b0.new0.old yr c2_1_5), (hP_b0.new0.old yr c2_1_6)⟩ | exact ⟨(hP_b0.old yr c2_1_0), (hP_b0.old yr c2_1_1), (hP_b0.old yr c2_1_2), (hP_b0.old yr c2_1_3), (hP_b0.old yr c2_1_4), (hP_b0.old yr c2_1_5), (hP_b0.old yr c2_1_6)⟩ | exact ⟨(hP_b.new0.old yr c2_1_0), (hP_b.new0.old yr c2_1_1), (hP_b.new0.old yr c2_1_2), (hP_b.new0.old yr c2_1_3), (hP_b.new0.old yr c2_1_4), (hP_b.new0.old yr c2_1_5), (hP_b.new0.old yr c2_1_6)⟩ | exact ⟨(hP_b.old yr c2_1_0), (hP_b.old yr c2_1_1), (hP_b.old yr c2_1_2), (hP_b.old yr c2_1_3), (hP_b.old yr c2_1_4), (hP_b.old yr c2_1_5), (hP_b.old yr c2_1_6)⟩)
     (first | (go_at_call 19; (first | with_reducible refine (K4.out _ _ hP_b0).mono ?_ | with_reducible refine (K4.out _ _ (hP_b0.new0)).mono ?_); rintro r w_hP_b1 ⟨rfl, hP_b1⟩; try (obtain ⟨x0_hP_b1, x1_hP_b1, x2_hP_b1, x3_hP_b1, x4_hP_b1⟩ := hP_b1.head)) | (go_at_call 27; (first | with_reducible refine (K2.out _ _ hP_b).mono ?_ | with_reducible refine (K2.out _ _ (hQ_b)).mono ?_); rintro r w_hP_b0 ⟨rfl, hP_b0⟩; try (obtain ⟨x0_hP_b0, x1_hP_b0, x2_hP_b0, x3_hP_b0, x4_hP_b0⟩ := hP_b0.head)))
    all_goals go_wp2_with fail
    all_goals go_meet
    all_goals (refine ⟨_, rfl, rfl, ?_⟩; first | exact hP_b1.sethead ⟨D0, D1, D2⟩ | exact hP_b1.new ⟨D0, D1, D2⟩)
   case rest =>
    obtain ⟨p8, rfl, rfl, hQ2⟩ := hcut
    clear K2 K4 b0 b1 bf0 bf1 hQ hW3 hsz
    have hW3 := hW2.trans (hQ2.below.mono (by omega))
    have hsz := hQ2.below.size
    have b0 := hQ2.old yb c2_0_0
    have b1 := hQ2.old yb c2_0_1
    have bf0 := hQ2.oldf yb g2_0_0
    have bf1 := hQ2.oldf yb g2_0_1
    have e0 := hQ2.old yr c2_1_0
    have e1 := hQ2.old yr c2_1_1
    have e2 := hQ2.old yr c2_1_2
    have e3 := hQ2.old yr c2_1_3
    have e4 := hQ2.old yr c2_1_4
    have e5 := hQ2.old yr c2_1_5
    have e6 := hQ2.old yr c2_1_6
    obtain ⟨x0, x1, x2, x3, x4⟩ := hQ2.head
    obtain ⟨z0, z1, z2, z3, z4⟩ := hQ2.at (p := p9) (x := ⟨T0, T1, T2⟩) (by simp)
    dsimp only at x1 x2 z1 z2
    clear c2_1_0 c2_1_1 c2_1_2 c2_1_3 c2_1_4 c2_1_5 c2_1_6 c2_0_0 c2_0_1 g2_0_0 g2_0_1 hQ2
    by_cases hDE : DE = 0
    ·subst hDE
     have NA := hide (HN.out (by first | rfl | trivial) (by first | rfl | trivial))
     clear Q1 Q2 HN
     by_cases h1 : T1 < want
     ·have hR := Q3.out (by first | rfl | trivial) (by first | rfl | trivial) (.inl h1)
      subst hR
      clear Q3 Q4 NA
      go_wp2
      refine bodyPost_ret (v := aimT 0 0 0 7) (by simp only [results, Try.results8]; go_simp) rfl ⟨rfl, blw_⟩
     ·by_cases h2 : want < D0
      ·have hR := Q3.out (by first | rfl | trivial) (by first | rfl | trivial) (.inr h2)
       subst hR
       clear Q3 Q4 NA
       go_wp2
       refine bodyPost_ret (v := aimT 0 0 0 7) (by simp only [results, Try.results8]; go_simp) rfl ⟨rfl, blw_⟩
      ·have hR := Q4.out (by first | rfl | trivial) (by first | rfl | trivial) (by omega)
       subst hR
       clear Q3 Q4
       go_wp2_with fail
       refine (NA.out _).mono ?_
       rintro r wn ⟨rfl, hbn⟩
       obtain ⟨hcn, hfn⟩ := bcell hbn
       have hzn := hbn.size
       have yn : w.heap.size + 1 + 1 + 1 < wn.heap.size := by omega
       have n0 := (hcn (w.heap.size + 1 + 1 + 1) 0 (by omega)).trans b0
       have n1 := (hcn (w.heap.size + 1 + 1 + 1) 1 (by omega)).trans b1
       have n2 := (hfn (w.heap.size + 1 + 1 + 1) 0 (by omega)).trans bf0
       have n3 := (hfn (w.heap.size + 1 + 1 + 1) 1 (by omega)).trans bf1
       have hWn := hW3.trans (hbn.mono (by omega))
       clear hcn hfn b0 b1 bf0 bf1 NA x0 x1 x2 x3 x4 z0 z1 z2 z3 z4 hbn hW3
       go_upto_region 13 with fail
       have k0 : ((wn.setCell ⟨w.heap.size + 1 + 1 + 1, 0, none⟩ (.int .i64 G1)).setCell ⟨w.heap.size + 1 + 1 + 1, 1, none⟩ (.int .i64 G2)).cell? ⟨w.heap.size + 1 + 1 + 1, 0, none⟩ = some (.int .i64 G1) := (far2 (by decide)).trans (World.cell?_setCell_same _ _ _ n0)
       have k1 : ((wn.setCell ⟨w.heap.size + 1 + 1 + 1, 0, none⟩ (.int .i64 G1)).setCell ⟨w.heap.size + 1 + 1 + 1, 1, none⟩ (.int .i64 G2)).cell? ⟨w.heap.size + 1 + 1 + 1, 1, none⟩ = some (.int .i64 G2) := World.cell?_setCell_same _ _ _ ((far2 (by decide)).trans n1)
       have k2 : ((wn.setCell ⟨w.heap.size + 1 + 1 + 1, 0, none⟩ (.int .i64 G1)).setCell ⟨w.heap.size + 1 + 1 + 1, 1, none⟩ (.int .i64 G2)).frozen? ⟨w.heap.size + 1 + 1 + 1, 0, none⟩ = false := by rw [World.frozen?_setCell, World.frozen?_setCell]; exact n2
       have k3 : ((wn.setCell ⟨w.heap.size + 1 + 1 + 1, 0, none⟩ (.int .i64 G1)).setCell ⟨w.heap.size + 1 + 1 + 1, 1, none⟩ (.int .i64 G2)).frozen? ⟨w.heap.size + 1 + 1 + 1, 1, none⟩ = false := by rw [World.frozen?_setCell, World.frozen?_setCell]; exact n3
       have hWz : Below w.heap.size w ((wn.setCell ⟨w.heap.size + 1 + 1 + 1, 0, none⟩ (.int .i64 G1)).setCell ⟨w.heap.size + 1 + 1 + 1, 1, none⟩ (.int .i64 G2)) := blw_
       have yz : w.heap.size + 1 + 1 + 1 < ((wn.setCell ⟨w.heap.size + 1 + 1 + 1, 0, none⟩ (.int .i64 G1)).setCell ⟨w.heap.size + 1 + 1 + 1, 1, none⟩ (.int .i64 G2)).heap.size := by simpa using yn
       clear n0 n1 n2 n3 hWn yn hzn
       generalize ((wn.setCell ⟨w.heap.size + 1 + 1 + 1, 0, none⟩ (.int .i64 G1)).setCell ⟨w.heap.size + 1 + 1 + 1, 1, none⟩ (.int .i64 G2)) = wz at *
       go_wp2
       refine bodyPost_ret (v := aimT G1 G2 G3 0) (by simp only [results, Try.results8]; go_simp) rfl ⟨rfl, blw_⟩
    ·have hR := Q2.out (by first | rfl | trivial) hDE
     subst hR
     have hs1 : (DE == 0) = false := by simpa using hDE
     have hs2 : (DE != 0) = true := by simpa using hDE
     clear Q1 Q2 Q3 Q4 HN
     go_wp2
     refine bodyPost_ret (v := aimT 0 0 0 DE) (by simp only [results, Try.results8]; go_simp) rfl ⟨rfl, blw_⟩
  ·have hR := Q1.out hTE
   subst hR
   have hs1 : (TE == 0) = false := by simpa using hTE
   have hs2 : (TE != 0) = true := by simpa using hTE
   clear Q1 Q2 Q3 Q4 HN
   go_wp2
   refine bodyPost_ret (v := aimT 0 0 0 TE) (by simp only [results, Try.results8]; go_simp) rfl ⟨rfl, blw_⟩
end Sw
end
section
set_option maxRecDepth 100000
open Go.RowKit
open FP
namespace Sw

set_option maxHeartbeats 2000000 in
theorem raim_b1 (v push pull : FD.Sp) (time want r : Int) (hk : okC v push pull time = false) (w : World) :
  Calls Try.prog 9 #[FD.spv v, FD.spv push, FD.spv pull, .int .i64 time, .int .i64 want, .int .i64 r] w fun e w' => e = .returned (aimT 0 0 0 2) ∧ Below w.heap.size w w' := by
 have IV := hide (fun W => lifted_any v push pull time W)
 rw [hk] at IV
 clear hk
 go_enter Try.func9, Try.ntmps9
 go_wp2_with fail
 refine (IV.out _).mono ?_
 rintro e w1 ⟨rfl, hb1⟩
 obtain ⟨hc1, hf1⟩ := bcell hb1
 have hz1 := hb1.size
 try simp only [World.size_alloc, World.size_setCell] at hz1
 try refine zw4 w w1 (by omega) fun _ _ _ _ _ _ _ _ => ?_
 have c1_0_0 := zci w1 (w.heap.size + 1 + 1 + 1) 0 (0) (by go_simp)
 have g1_0_0 := zfe w1 (w.heap.size + 1 + 1 + 1) 0 (by go_simp)
 have c1_0_1 := zci w1 (w.heap.size + 1 + 1 + 1) 1 (0) (by go_simp)
 have g1_0_1 := zfe w1 (w.heap.size + 1 + 1 + 1) 1 (by go_simp)
 clear hc1 hf1
 go_wp2
 refine bodyPost_ret (v := aimT 0 0 0 2) (by simp only [results, Try.results9]; go_simp) rfl ⟨rfl, blw_⟩
set_option maxHeartbeats 2000000 in
theorem raim_b2 (v push pull : FD.Sp) (time want r : Int) (hk : okC v push pull time = true) (hw : FD.In64 want) (hn : numB want = false) (w : World) :
  Calls Try.prog 9 #[FD.spv v, FD.spv push, FD.spv pull, .int .i64 time, .int .i64 want, .int .i64 r] w fun e w' => e = .returned (aimT 0 0 0 2) ∧ Below w.heap.size w w' := by
 have IV := hide (fun W => lifted_any v push pull time W)
 rw [hk] at IV
 have NU := hide (fun W => number_any want W)
 rw [hn] at NU
 clear hk hn hw
 go_enter Try.func9, Try.ntmps9
 go_wp2_with fail
 refine (IV.out _).mono ?_
 rintro e w1 ⟨rfl, hb1⟩
 obtain ⟨hc1, hf1⟩ := bcell hb1
 have hz1 := hb1.size
 try simp only [World.size_alloc, World.size_setCell] at hz1
 try refine zw4 w w1 (by omega) fun _ _ _ _ _ _ _ _ => ?_
 have c1_0_0 := zci w1 (w.heap.size + 1 + 1 + 1) 0 (0) (by go_simp)
 have g1_0_0 := zfe w1 (w.heap.size + 1 + 1 + 1) 0 (by go_simp)
 have c1_0_1 := zci w1 (w.heap.size + 1 + 1 + 1) 1 (0) (by go_simp)
 have g1_0_1 := zfe w1 (w.heap.size + 1 + 1 + 1) 1 (by go_simp)
 clear hc1 hf1
 go_wp2_with fail
 refine (NU.out _).mono ?_
 rintro e w2 ⟨rfl, hb2⟩
 obtain ⟨hc2, hf2⟩ := bcell hb2
 have hz2 := hb2.size
 try simp only [World.size_alloc, World.size_setCell] at hz2
 try refine zw4 w w2 (by omega) fun _ _ _ _ _ _ _ _ => ?_
 have c2_0_0 := zci w2 (w.heap.size + 1 + 1 + 1) 0 (0) (by go_simp)
 have g2_0_0 := zfe w2 (w.heap.size + 1 + 1 + 1) 0 (by go_simp)
 have c2_0_1 := zci w2 (w.heap.size + 1 + 1 + 1) 1 (0) (by go_simp)
 have g2_0_1 := zfe w2 (w.heap.size + 1 + 1 + 1) 1 (by go_simp)
 clear hc2 hf2 c1_0_0 g1_0_0 c1_0_1 g1_0_1
 go_wp2
 refine bodyPost_ret (v := aimT 0 0 0 2) (by simp only [results, Try.results9]; go_simp) rfl ⟨rfl, blw_⟩
set_option maxHeartbeats 2000000 in
theorem raim_b3 (v push pull : FD.Sp) (time want r : Int) (hk : okC v push pull time = true) (hw : FD.In64 want) (hn : numB want = true) (hr : r < 0) (w : World) :
  Calls Try.prog 9 #[FD.spv v, FD.spv push, FD.spv pull, .int .i64 time, .int .i64 want, .int .i64 r] w fun e w' => e = .returned (aimT 0 0 0 2) ∧ Below w.heap.size w w' := by
 have IV := hide (fun W => lifted_any v push pull time W)
 rw [hk] at IV
 have NU := hide (fun W => number_any want W)
 rw [hn] at NU
 clear hk hn hw
 go_enter Try.func9, Try.ntmps9
 go_wp2_with fail
 refine (IV.out _).mono ?_
 rintro e w1 ⟨rfl, hb1⟩
 obtain ⟨hc1, hf1⟩ := bcell hb1
 have hz1 := hb1.size
 try simp only [World.size_alloc, World.size_setCell] at hz1
 try refine zw4 w w1 (by omega) fun _ _ _ _ _ _ _ _ => ?_
 have c1_0_0 := zci w1 (w.heap.size + 1 + 1 + 1) 0 (0) (by go_simp)
 have g1_0_0 := zfe w1 (w.heap.size + 1 + 1 + 1) 0 (by go_simp)
 have c1_0_1 := zci w1 (w.heap.size + 1 + 1 + 1) 1 (0) (by go_simp)
 have g1_0_1 := zfe w1 (w.heap.size + 1 + 1 + 1) 1 (by go_simp)
 clear hc1 hf1
 go_wp2_with fail
 refine (NU.out _).mono ?_
 rintro e w2 ⟨rfl, hb2⟩
 obtain ⟨hc2, hf2⟩ := bcell hb2
 have hz2 := hb2.size
 try simp only [World.size_alloc, World.size_setCell] at hz2
 try refine zw4 w w2 (by omega) fun _ _ _ _ _ _ _ _ => ?_
 have c2_0_0 := zci w2 (w.heap.size + 1 + 1 + 1) 0 (0) (by go_simp)
 have g2_0_0 := zfe w2 (w.heap.size + 1 + 1 + 1) 0 (by go_simp)
 have c2_0_1 := zci w2 (w.heap.size + 1 + 1 + 1) 1 (0) (by go_simp)
 have g2_0_1 := zfe w2 (w.heap.size + 1 + 1 + 1) 1 (by go_simp)
 clear hc2 hf2 c1_0_0 g1_0_0 c1_0_1 g1_0_1
 go_wp2
 refine bodyPost_ret (v := aimT 0 0 0 2) (by simp only [results, Try.results9]; go_simp) rfl ⟨rfl, blw_⟩
set_option maxHeartbeats 2000000 in
theorem raim_b4 (v push pull : FD.Sp) (time want r : Int) (hk : okC v push pull time = true) (hw : FD.In64 want) (hn : numB want = true) (hr : 40 < r) (w : World) :
  Calls Try.prog 9 #[FD.spv v, FD.spv push, FD.spv pull, .int .i64 time, .int .i64 want, .int .i64 r] w fun e w' => e = .returned (aimT 0 0 0 2) ∧ Below w.heap.size w w' := by
 have IV := hide (fun W => lifted_any v push pull time W)
 rw [hk] at IV
 have NU := hide (fun W => number_any want W)
 rw [hn] at NU
 have hr0 : ¬ r < 0 := by omega
 clear hk hn hw
 go_enter Try.func9, Try.ntmps9
 go_wp2_with fail
 refine (IV.out _).mono ?_
 rintro e w1 ⟨rfl, hb1⟩
 obtain ⟨hc1, hf1⟩ := bcell hb1
 have hz1 := hb1.size
 try simp only [World.size_alloc, World.size_setCell] at hz1
 try refine zw4 w w1 (by omega) fun _ _ _ _ _ _ _ _ => ?_
 have c1_0_0 := zci w1 (w.heap.size + 1 + 1 + 1) 0 (0) (by go_simp)
 have g1_0_0 := zfe w1 (w.heap.size + 1 + 1 + 1) 0 (by go_simp)
 have c1_0_1 := zci w1 (w.heap.size + 1 + 1 + 1) 1 (0) (by go_simp)
 have g1_0_1 := zfe w1 (w.heap.size + 1 + 1 + 1) 1 (by go_simp)
 clear hc1 hf1
 go_wp2_with fail
 refine (NU.out _).mono ?_
 rintro e w2 ⟨rfl, hb2⟩
 obtain ⟨hc2, hf2⟩ := bcell hb2
 have hz2 := hb2.size
 try simp only [World.size_alloc, World.size_setCell] at hz2
 try refine zw4 w w2 (by omega) fun _ _ _ _ _ _ _ _ => ?_
 have c2_0_0 := zci w2 (w.heap.size + 1 + 1 + 1) 0 (0) (by go_simp)
 have g2_0_0 := zfe w2 (w.heap.size + 1 + 1 + 1) 0 (by go_simp)
 have c2_0_1 := zci w2 (w.heap.size + 1 + 1 + 1) 1 (0) (by go_simp)
 have g2_0_1 := zfe w2 (w.heap.size + 1 + 1 + 1) 1 (by go_simp)
 clear hc2 hf2 c1_0_0 g1_0_0 c1_0_1 g1_0_1
 go_wp2
 refine bodyPost_ret (v := aimT 0 0 0 2) (by simp only [results, Try.results9]; go_simp) rfl ⟨rfl, blw_⟩
theorem rl_at (v push pull tm : FD.Sp) (time : Int) (t0 : tm.lo = time) (t1 : tm.hi = time) (hk : okC v push pull time = true) (t : FD.Sp) (W : World) : Calls Try.prog 7 #[FD.spv v, FD.spv push, FD.spv pull, .int .i64 time, FD.spv t] W fun e w' => e = .returned (.tuple #[FD.spv (lfQ v push pull tm t).1, .int .i64 (lfQ v push pull tm t).2]) ∧ Below W.heap.size W w' := by
 have h := rLift_any v push pull tm t time t0 t1 W
 rw [show lfV v push pull tm t time = lfQ v push pull tm t by unfold lfV; rw [if_pos hk]] at h
 exact h

set_option maxHeartbeats 4000000 in
theorem raim_main (v push pull tm : FD.Sp) (time : Int) (t0 : tm.lo = time) (t1 : tm.hi = time) (want : Int) (hn : numB want = true) (R : Nat) (hR : R ≤ 40) (hk : okC v push pull time = true) (T D : FD.Sp × Int) (hT : lfQ v push pull tm (pt 4294967296 i1) = T) (hD : lfQ v push pull tm (pt (-4294967296) i2) = D) (G : Int × Int × Int)
  (hS : T.2 = 0 → D.2 = 0 → ∀ m, Unit1 m → (lfQ v push pull tm (ptC m)).2 = 0) (hG : nar (fun m => (lfQ v push pull tm (ptC m)).1) want R (-4294967296) 4294967296 0 = G)
  (RV : Value) (r1 : ¬ T.2 = 0 → RV = aimT 0 0 0 T.2) (r2 : T.2 = 0 → ¬ D.2 = 0 → RV = aimT 0 0 0 D.2) (r3 : T.2 = 0 → D.2 = 0 → (T.1.hi < want ∨ want < D.1.lo) → RV = aimT 0 0 0 7) (r4 : T.2 = 0 → D.2 = 0 → ¬ (T.1.hi < want ∨ want < D.1.lo) → RV = aimT G.1 G.2.1 G.2.2 0) (w : World) :
  Calls Try.prog 9 #[FD.spv v, FD.spv push, FD.spv pull, .int .i64 time, .int .i64 want, .int .i64 R] w fun e w' => e = .returned (RV) ∧ Below w.heap.size w w' := by
 have IV := hide (fun W => lifted_any v push pull time W)
 rw [hk] at IV
 have NU := hide (fun W => number_any want W)
 rw [hn] at NU
 have PT := hide (fun x W => dot1_any x W)
 have LT : Hid (∀ W, Calls Try.prog 7 #[.agg #[.int .i64 (v.lo), .int .i64 (v.hi)], .agg #[.int .i64 (push.lo), .int .i64 (push.hi)], .agg #[.int .i64 (pull.lo), .int .i64 (pull.hi)], .int .i64 time, .agg #[.int .i64 (4294967296), .int .i64 (4294967296)]] W fun e w' => e = .returned (.tuple #[FD.spv T.1, .int .i64 T.2]) ∧ Below W.heap.size W w') := hide (fun W => by have h := rl_at v push pull tm time t0 t1 hk (pt 4294967296 i1) W; rw [hT] at h; exact h)
 have LD : Hid (∀ W, Calls Try.prog 7 #[.agg #[.int .i64 (v.lo), .int .i64 (v.hi)], .agg #[.int .i64 (push.lo), .int .i64 (push.hi)], .agg #[.int .i64 (pull.lo), .int .i64 (pull.hi)], .int .i64 time, .agg #[.int .i64 (-4294967296), .int .i64 (-4294967296)]] W fun e w' => e = .returned (.tuple #[FD.spv D.1, .int .i64 D.2]) ∧ Below W.heap.size W w') := hide (fun W => by have h := rl_at v push pull tm time t0 t1 hk (pt (-4294967296) i2) W; rw [hD] at h; exact h)
 have LF := hide (fun m W => rl_at v push pull tm time t0 t1 hk (ptC m) W)
 have Q1 := hide r1
 have Q2 := hide r2
 have Q3 := hide r3
 have Q4 := hide r4
 have HS := hide hS
 clear hk hn hT hD t0 t1 r1 r2 r3 r4 hS
 obtain ⟨G1, G2, G3⟩ := G
 have HG := hide hG
 clear hG
 obtain ⟨⟨T0, T1, T2⟩, TE⟩ := T
 obtain ⟨⟨D0, D1, D2⟩, DE⟩ := D
 dsimp only at Q1 Q2 Q3 Q4 LT LD HS
 have hR1 : ¬ (40 : Int) < (R : Int) := by omega
 have hR2 : ¬ (R : Int) < 0 := by omega
 go_enter Try.func9, Try.ntmps9
 go_wp2_with fail
 refine (IV.out _).mono ?_
 rintro e w1 ⟨rfl, hb1⟩
 obtain ⟨hc1, hf1⟩ := bcell hb1
 have hz1 := hb1.size
 try simp only [World.size_alloc, World.size_setCell] at hz1
 try refine zw4 w w1 (by omega) fun _ _ _ _ _ _ _ _ => ?_
 have c1_0_0 := zci w1 (w.heap.size + 1 + 1 + 1) 0 (0) (by go_simp)
 have g1_0_0 := zfe w1 (w.heap.size + 1 + 1 + 1) 0 (by go_simp)
 have c1_0_1 := zci w1 (w.heap.size + 1 + 1 + 1) 1 (0) (by go_simp)
 have g1_0_1 := zfe w1 (w.heap.size + 1 + 1 + 1) 1 (by go_simp)
 have c1_1_0 := zci w1 w.heap.size 0 (v.lo) (by go_simp)
 have c1_1_1 := zci w1 w.heap.size 1 (v.hi) (by go_simp)
 have c1_2_0 := zci w1 (w.heap.size + 1) 0 (push.lo) (by go_simp)
 have c1_2_1 := zci w1 (w.heap.size + 1) 1 (push.hi) (by go_simp)
 have c1_3_0 := zci w1 (w.heap.size + 1 + 1) 0 (pull.lo) (by go_simp)
 have c1_3_1 := zci w1 (w.heap.size + 1 + 1) 1 (pull.hi) (by go_simp)
 clear hc1 hf1
 go_wp2_with fail
 refine (NU.out _).mono ?_
 rintro e w2 ⟨rfl, hb2⟩
 obtain ⟨hc2, hf2⟩ := bcell hb2
 have hz2 := hb2.size
 try simp only [World.size_alloc, World.size_setCell] at hz2
 try refine zw4 w w2 (by omega) fun _ _ _ _ _ _ _ _ => ?_
 have c2_0_0 := zci w2 (w.heap.size + 1 + 1 + 1) 0 (0) (by go_simp)
 have g2_0_0 := zfe w2 (w.heap.size + 1 + 1 + 1) 0 (by go_simp)
 have c2_0_1 := zci w2 (w.heap.size + 1 + 1 + 1) 1 (0) (by go_simp)
 have g2_0_1 := zfe w2 (w.heap.size + 1 + 1 + 1) 1 (by go_simp)
 have c2_1_0 := zci w2 w.heap.size 0 (v.lo) (by go_simp)
 have c2_1_1 := zci w2 w.heap.size 1 (v.hi) (by go_simp)
 have c2_2_0 := zci w2 (w.heap.size + 1) 0 (push.lo) (by go_simp)
 have c2_2_1 := zci w2 (w.heap.size + 1) 1 (push.hi) (by go_simp)
 have c2_3_0 := zci w2 (w.heap.size + 1 + 1) 0 (pull.lo) (by go_simp)
 have c2_3_1 := zci w2 (w.heap.size + 1 + 1) 1 (pull.hi) (by go_simp)
 clear hc2 hf2 c1_0_0 g1_0_0 c1_0_1 g1_0_1 c1_1_0 c1_1_1 c1_2_0 c1_2_1 c1_3_0 c1_3_1
 have hW2 : Below w.heap.size w w2 := blw_
 have y0 : w.heap.size < w2.heap.size := by omega
 have y1 : w.heap.size + 1 < w2.heap.size := by omega
 have y2 : w.heap.size + 1 + 1 < w2.heap.size := by omega
 have y3 : w.heap.size + 1 + 1 + 1 < w2.heap.size := by omega
 have hQ0 := QL.start w2
 have K1 := hide (fun x => Q_of (W0 := w2) (PT.out x))
 have K3 := hide (Q_of (W0 := w2) LT.out)
 have K4 := hide (Q_of (W0 := w2) LD.out)
 clear IV NU LT LD hb1 hb2
 go_upto_region 4 with fail
 go_cut [16, 17] from 45 to 53 (fun s16 s17 wx => ∃ p : Nat, s16 = .pointer (some ⟨p, 0, none⟩) ∧ s17 = .int .i64 TE ∧ QL w2 wx [(p, ⟨T0, T1, T2⟩)])
 case first =>
  have hP_a := hQ0.drew
  have hQ_a := hQ0.new0.drew
  go_region_held3 (fun w' => w'.cell? ⟨w.heap.size, 0, none⟩ = some (.int .i64 v.lo) ∧ w'.cell? ⟨w.heap.size, 1, none⟩ = some (.int .i64 v.hi) ∧ w'.cell? ⟨w.heap.size + 1, 0, none⟩ = some (.int .i64 push.lo) ∧ w'.cell? ⟨w.heap.size + 1, 1, none⟩ = some (.int .i64 push.hi) ∧ w'.cell? ⟨w.heap.size + 1 + 1, 0, none⟩ = some (.int .i64 pull.lo) ∧ w'.cell? ⟨w.heap.size + 1 + 1, 1, none⟩ = some (.int .i64 pull.hi))
   (first | exact ⟨(hQ_a.old y0 c2_1_0), (hQ_a.old y0 c2_1_1), (hQ_a.old y1 c2_2_0), (hQ_a.old y1 c2_2_1), (hQ_a.old y2 c2_3_0), (hQ_a.old y2 c2_3_1)⟩ | exact ⟨((hP_a1.sethead ⟨T0, T1, T2⟩).old y0 c2_1_0), ((hP_a1.sethead ⟨T0, T1, T2⟩).old y0 c2_1_1), ((hP_a1.sethead ⟨T0, T1, T2⟩).old y1 c2_2_0), ((hP_a1.sethead ⟨T0, T1, T2⟩).old y1 c2_2_1), ((hP_a1.sethead ⟨T0, T1, T2⟩).old y2 c2_3_0), ((hP_a1.sethead ⟨T0, T1, T2⟩).old y2 c2_3_1)⟩ | exact ⟨((hP_a1.new ⟨T0, T1, T2⟩).old y0 c2_1_0), ((hP_a1.new ⟨T0, T1, T2⟩).old y0 c2_1_1), ((hP_a1.new ⟨T0, T1, T2⟩).old y1 c2_2_0), ((hP_a1.new ⟨T0, T1, T2⟩).old y1 c2_2_1), ((hP_a1.new ⟨T0, T1, T2⟩).old y2 c2_3_0), ((hP_a1.new ⟨T0, T1, T2⟩).old y2 c2_3_1)⟩ | exact ⟨(hP_a1.new0.old y0 c2_1_0), (hP_a1.new0.old y0 c2_1_1), (hP_a1.new0.old y1 c2_2_0), (hP_a1.new0.old y1 c2_2_1), (hP_a1.new0.old y2 c2_3_0), (hP_a1.new0.old y2 c2_3_1)⟩ | exact ⟨(hP_a1.old y0 c2_1_0), (hP_a1.old y0 c2_1_1), (hP_a1.old y1 c2_2_0), (hP_a1.old y1 c2_2_1), (hP_a1.old y2 c2_3_0), (hP_a1.old y2 c2_3_1)⟩ | exact ⟨(hP_a0.new0.old y0 c2_1_0), (hP_a0.new0.old y0 c2_1_1), (hP_a0.new0.old y1 c2_2_0), (hP_a0.new0.old y1 c2_2_1), (hP_a0.new0.old y2 c2_3_0), (hP_a0.new0.old y2 c2_3_1)⟩ | exact ⟨(hP_a0.old y0 c2_1_0), (hP_a0.old y0 c2_1_1), (hP_a0.old y1 c2_2_0), (hP_a0.old y1 c2_2_1), (hP_a0.old y2 c2_3_0), (hP_a0.old y2 c2_3_1)⟩ | exact ⟨(hP_a.new0.old y0 c2_1_0), (hP_a.new0.old y0 c2_1_1), (hP_a.new0.old y1 c2_2_0), (hP_a.new0.old y1 c2_2_1), (hP_a.new0.old y2 c2_3_0), (hP_a.new0.old y2 c2_3_1)⟩ | exact ⟨(hP_a.old y0 c2_1_0), (hP_a.old y0 c2_1_1), (hP_a.old y1 c2_2_0), (hP_a.old y1 c2_2_1), (hP_a.old y2 c2_3_0), (hP_a.old y2 c2_3_1)⟩)
   (first | (go_at_call 7; (first | with_reducible refine (K3.out _ _ hP_a0).mono ?_ | with_reducible refine (K3.out _ _ (hP_a0.new0)).mono ?_); rintro r w_hP_a1 ⟨rfl, hP_a1⟩; try (obtain ⟨x0_hP_a1, x1_hP_a1, x2_hP_a1, x3_hP_a1, x4_hP_a1⟩ := hP_a1.head)) | (go_at_call 25; (first | with_reducible refine (K1.out _ _ _ hP_a).mono ?_ | with_reducible refine (K1.out _ _ _ (hQ_a)).mono ?_); rintro r w_hP_a0 ⟨rfl, hP_a0⟩; try (obtain ⟨x0_hP_a0, x1_hP_a0, x2_hP_a0, x3_hP_a0, x4_hP_a0⟩ := hP_a0.head)))
  all_goals go_wp2_with fail
  all_goals go_meet
  all_goals (refine ⟨_, rfl, rfl, ?_⟩; first | exact hP_a1.sethead ⟨T0, T1, T2⟩ | exact hP_a1.new ⟨T0, T1, T2⟩)
 case rest =>
  obtain ⟨p9, rfl, rfl, hQ⟩ := hcut
  clear K3 hQ0
  have hW3 := hW2.trans (hQ.below.mono (by omega))
  have hsz := hQ.below.size
  have b0 := hQ.old y3 c2_0_0
  have b1 := hQ.old y3 c2_0_1
  have bf0 := hQ.oldf y3 g2_0_0
  have bf1 := hQ.oldf y3 g2_0_1
  by_cases hTE : TE = 0
  ·subst hTE
   go_wp2_with fail
   go_upto_region 7 with fail
   go_cut [18, 17] from 58 to 66 (fun s18 s17 wx => ∃ p : Nat, s18 = .pointer (some ⟨p, 0, none⟩) ∧ s17 = .int .i64 DE ∧ QL w2 wx ((p, ⟨D0, D1, D2⟩) :: [(p9, ⟨T0, T1, T2⟩)]))
   case first =>
    have hP_b := hQ.drew
    have hQ_b := hQ.new0.drew
    go_region_held3 (fun w' => w'.cell? ⟨w.heap.size, 0, none⟩ = some (.int .i64 v.lo) ∧ w'.cell? ⟨w.heap.size, 1, none⟩ = some (.int .i64 v.hi) ∧ w'.cell? ⟨w.heap.size + 1, 0, none⟩ = some (.int .i64 push.lo) ∧ w'.cell? ⟨w.heap.size + 1, 1, none⟩ = some (.int .i64 push.hi) ∧ w'.cell? ⟨w.heap.size + 1 + 1, 0, none⟩ = some (.int .i64 pull.lo) ∧ w'.cell? ⟨w.heap.size + 1 + 1, 1, none⟩ = some (.int .i64 pull.hi))
     (first | exact ⟨(hQ_b.old y0 c2_1_0), (hQ_b.old y0 c2_1_1), (hQ_b.old y1 c2_2_0), (hQ_b.old y1 c2_2_1), (hQ_b.old y2 c2_3_0), (hQ_b.old y2 c2_3_1)⟩ | exact ⟨((hP_b1.sethead ⟨D0, D1, D2⟩).old y0 c2_1_0), ((hP_b1.sethead ⟨D0, D1, D2⟩).old y0 c2_1_1), ((hP_b1.sethead ⟨D0, D1, D2⟩).old y1 c2_2_0), ((hP_b1.sethead ⟨D0, D1, D2⟩).old y1 c2_2_1), ((hP_b1.sethead ⟨D0, D1, D2⟩).old y2 c2_3_0), ((hP_b1.sethead ⟨D0, D1, D2⟩).old y2 c2_3_1)⟩ | exact ⟨((hP_b1.new ⟨D0, D1, D2⟩).old y0 c2_1_0), ((hP_b1.new ⟨D0, D1, D2⟩).old y0 c2_1_1), ((hP_b1.new ⟨D0, D1, D2⟩).old y1 c2_2_0), ((hP_b1.new ⟨D0, D1, D2⟩).old y1 c2_2_1), ((hP_b1.new ⟨D0, D1, D2⟩).old y2 c2_3_0), ((hP_b1.new ⟨D0, D1, D2⟩).old y2 c2_3_1)⟩ | exact ⟨(hP_b1.new0.old y0 c2_1_0), (hP_b1.new0.old y0 c2_1_1), (hP_b1.new0.old y1 c2_2_0), (hP_b1.new0.old y1 c2_2_1), (hP_b1.new0.old y2 c2_3_0), (hP_b1.new0.old y2 c2_3_1)⟩ | exact ⟨(hP_b1.old y0 c2_1_0), (hP_b1.old y0 c2_1_1), (hP_b1.old y1 c2_2_0), (hP_b1.old y1 c2_2_1), (hP_b1.old y2 c2_3_0), (hP_b1.old y2 c2_3_1)⟩ | exact ⟨(hP_b0.new0.old y0 c2_1_0), (hP_b0.new0.old y0 c2_1_1), (hP_b0.new0.old y1 c2_2_0), (hP_b0.new0.old y1 c2_2_1), (hP_b0.new0.old y2 c2_3_0), (hP_b0.new0.old y2 c2_3_1)⟩ | exact ⟨(hP_b0.old y0 c2_1_0), (hP_b0.old y0 c2_1_1), (hP_b0.old y1 c2_2_0), (hP_b0.old y1 c2_2_1), (hP_b0.old y2 c2_3_0), (hP_b0.old y2 c2_3_1)⟩ | exact ⟨(hP_b.new0.old y0 c2_1_0), (hP_b.new0.old y0 c2_1_1), (hP_b.new0.old y1 c2_2_0), (hP_b.new0.old y1 c2_2_1), (hP_b.new0.old y2 c2_3_0), (hP_b.new0.old y2 c2_3_1)⟩ | exact ⟨(hP_b.old y0 c2_1_0), (hP_b.old y0 c2_1_1), (hP_b.old y1 c2_2_0), (hP_b.old y1 c2_2_1), (hP_b.old y2 c2_3_0), (hP_b.old y2 c2_3_1)⟩)
     (first | (go_at_call 7; (first | with_reducible refine (K4.out _ _ hP_b0).mono ?_ | with_reducible refine (K4.out _ _ (hP_b0.new0)).mono ?_); rintro r w_hP_b1 ⟨rfl, hP_b1⟩; try (obtain ⟨x0_hP_b1, x1_hP_b1, x2_hP_b1, x3_hP_b1, x4_hP_b1⟩ := hP_b1.head)) | (go_at_call 25; (first | with_reducible refine (K1.out _ _ _ hP_b).mono ?_ | with_reducible refine (K1.out _ _ _ (hQ_b)).mono ?_); rintro r w_hP_b0 ⟨rfl, hP_b0⟩; try (obtain ⟨x0_hP_b0, x1_hP_b0, x2_hP_b0, x3_hP_b0, x4_hP_b0⟩ := hP_b0.head)))
    all_goals go_wp2_with fail
    all_goals go_meet
    all_goals (refine ⟨_, rfl, rfl, ?_⟩; first | exact hP_b1.sethead ⟨D0, D1, D2⟩ | exact hP_b1.new ⟨D0, D1, D2⟩)
   case rest =>
    obtain ⟨p8, rfl, rfl, hQ2⟩ := hcut
    clear K1 K4 b0 b1 bf0 bf1 hQ hW3 hsz
    have hW3 := hW2.trans (hQ2.below.mono (by omega))
    have hsz := hQ2.below.size
    have b0 := hQ2.old y3 c2_0_0
    have b1 := hQ2.old y3 c2_0_1
    have bf0 := hQ2.oldf y3 g2_0_0
    have bf1 := hQ2.oldf y3 g2_0_1
    have e0 := hQ2.old y0 c2_1_0
    have e1 := hQ2.old y0 c2_1_1
    have e2 := hQ2.old y1 c2_2_0
    have e3 := hQ2.old y1 c2_2_1
    have e4 := hQ2.old y2 c2_3_0
    have e5 := hQ2.old y2 c2_3_1
    obtain ⟨x0, x1, x2, x3, x4⟩ := hQ2.head
    obtain ⟨z0, z1, z2, z3, z4⟩ := hQ2.at (p := p9) (x := ⟨T0, T1, T2⟩) (by simp)
    dsimp only at x1 x2 z1 z2
    clear c2_0_0 c2_0_1 c2_1_0 c2_1_1 c2_2_0 c2_2_1 c2_3_0 c2_3_1 g2_0_0 g2_0_1 hQ2
    by_cases hDE : DE = 0
    ·subst hDE
     have HSS := hide (HS.out (by first | rfl | trivial) (by first | rfl | trivial))
     clear Q1 Q2 HS
     by_cases h1 : T1 < want
     ·have hR := Q3.out (by first | rfl | trivial) (by first | rfl | trivial) (.inl h1)
      subst hR
      clear Q3 Q4
      go_wp2
      refine bodyPost_ret (v := aimT 0 0 0 7) (by simp only [results, Try.results9]; go_simp) rfl ⟨rfl, blw_⟩
     ·by_cases h2 : want < D0
      ·have hR := Q3.out (by first | rfl | trivial) (by first | rfl | trivial) (.inr h2)
       subst hR
       clear Q3 Q4
       go_wp2
       refine bodyPost_ret (v := aimT 0 0 0 7) (by simp only [results, Try.results9]; go_simp) rfl ⟨rfl, blw_⟩
      ·have hR := Q4.out (by first | rfl | trivial) (by first | rfl | trivial) (by omega)
       subst hR
       clear Q3 Q4
       have m0 : w.heap.size < wc.heap.size ∧ w.heap.size + 1 < wc.heap.size ∧ w.heap.size + 1 + 1 < wc.heap.size ∧ w.heap.size + 1 + 1 + 1 < wc.heap.size := by omega
       obtain ⟨m0, m1, m2, m3⟩ := m0
       have n0 : w.heap.size < wc.heap.size + 1 := by omega
       have n1 : w.heap.size + 1 < wc.heap.size + 1 := by omega
       have n2 : w.heap.size + 1 + 1 < wc.heap.size + 1 := by omega
       have n3 : w.heap.size + 1 + 1 + 1 < wc.heap.size + 1 := by omega
       go_wp2_with fail
       go_loopw [20] (fun s20 wr => ∃ (k : Nat) (lo hi u : Int), s20 = .int .i64 u ∧ u + k = R ∧ 0 ≤ u ∧ -4294967296 ≤ lo ∧ lo ≤ hi ∧ hi ≤ 4294967296 ∧ nar (fun m => (lfQ v push pull tm (ptC m)).1) want k lo hi u = (G1, G2, G3) ∧ Below w.heap.size w wr ∧ wc.heap.size < wr.heap.size ∧ wr.cell? ⟨w.heap.size, 0, none⟩ = some (.int .i64 v.lo) ∧ wr.cell? ⟨w.heap.size, 1, none⟩ = some (.int .i64 v.hi) ∧ wr.cell? ⟨w.heap.size + 1, 0, none⟩ = some (.int .i64 push.lo) ∧ wr.cell? ⟨w.heap.size + 1, 1, none⟩ = some (.int .i64 push.hi) ∧ wr.cell? ⟨w.heap.size + 1 + 1, 0, none⟩ = some (.int .i64 pull.lo) ∧ wr.cell? ⟨w.heap.size + 1 + 1, 1, none⟩ = some (.int .i64 pull.hi) ∧ wr.cell? ⟨w.heap.size + 1 + 1 + 1, 0, none⟩ = some (.int .i64 0) ∧ wr.cell? ⟨w.heap.size + 1 + 1 + 1, 1, none⟩ = some (.int .i64 0) ∧ wr.frozen? ⟨w.heap.size + 1 + 1 + 1, 0, none⟩ = false ∧ wr.frozen? ⟨w.heap.size + 1 + 1 + 1, 1, none⟩ = false ∧ wr.cell? ⟨wc.heap.size, 0, none⟩ = some (.int .i64 lo) ∧ wr.cell? ⟨wc.heap.size, 1, none⟩ = some (.int .i64 hi) ∧ wr.frozen? ⟨wc.heap.size, 0, none⟩ = false ∧ wr.frozen? ⟨wc.heap.size, 1, none⟩ = false) (fun s20 _ => R - (intOf s20).toNat)
       case atStart => exact ⟨R, _, _, 0, rfl, by omega, by omega, by omega, by omega, by omega, HG.out, blw_, by simp, by go_simp, by go_simp, by go_simp, by go_simp, by go_simp, by go_simp, by go_simp, by go_simp, by go_simp, by go_simp, by go_simp, by go_simp, by go_simp, by go_simp⟩
       case round =>
        obtain ⟨k, lo, hi, u, rfl, hkk, hu, b1', b2, b3, hN, hW, hz, v0, v1, u0, u1, l0, l1, r0, r1, rf0, rf1, a0, a1, fa0, fa1⟩ := hrel
        clear b0 b1 bf0 bf1 e0 e1 e2 e3 e4 e5 x0 x1 x2 x3 x4 z0 z1 z2 z3 z4 hW3 hW2
        have hs := hW.size
        by_cases hk0 : k = 0
        ·subst hk0
         obtain ⟨rfl, rfl, rfl⟩ : lo = G1 ∧ hi = G2 ∧ u = G3 := by simpa [nar] using hN
         have hu1 : ¬ u < (R : Int) := by omega
         go_wp2
         refine bodyPost_ret (v := aimT lo hi u 0) (by simp only [results, Try.results9]; go_simp) rfl ⟨rfl, blw_⟩
        ·have hu1 : u < (R : Int) := by omega
         have hwd : wrap64 (hi - lo) = hi - lo := by unfold wrap64; omega
         by_cases hd : hi - lo < 2
         ·obtain ⟨rfl, rfl, rfl⟩ : lo = G1 ∧ hi = G2 ∧ u = G3 := by rw [nar_end hd] at hN; simpa using hN
          have hd' : ¬ 2 ≤ hi - lo := by omega
          go_wp2
          refine bodyPost_ret (v := aimT lo hi u 0) (by simp only [results, Try.results9]; go_simp) rfl ⟨rfl, blw_⟩
         ·have hd' : 2 ≤ hi - lo := by omega
          obtain ⟨j, rfl⟩ : ∃ j, k = j + 1 := ⟨k - 1, by omega⟩
          have hm := mid_in b2
          have hvb : vB lo hi = true := vB_t (by omega) b2
          have MI := hide (fun W => rmid_any lo hi ⟨by omega, by omega⟩ ⟨by omega, by omega⟩ W)
          rw [hvb, show ∀ x, okI true x = x from fun _ => rfl, show ∀ x, errE true x = x from fun _ => rfl] at MI
          obtain ⟨m, hmm⟩ : ∃ m, midI lo hi = m := ⟨_, rfl⟩
          rw [hmm] at MI hm
          have LM := hide (LF.out m)
          have VS := hide (HSS.out m ⟨by omega, by omega⟩)
          have U1 := hide (fun h1 => nar_up (S := fun m => (lfQ v push pull tm (ptC m)).1) (want := want) (k := j) (u := u) hd h1)
          have U2 := hide (fun h1 h2 => nar_down (S := fun m => (lfQ v push pull tm (ptC m)).1) (want := want) (k := j) (u := u) hd h1 h2)
          have U3 := hide (fun h1 h2 => nar_stay (S := fun m => (lfQ v push pull tm (ptC m)).1) (want := want) (k := j) (u := u) hd h1 h2)
          rw [hmm] at U1 U2 U3
          have HNN := hide hN
          clear hN hvb hmm
          have hIm : FD.In64 m := ⟨by omega, by omega⟩
          have em : ptC m = pt m hIm := ptC_eq hIm
          have LM2 : Hid (∀ W, Calls Try.prog 7 #[.agg #[.int .i64 (v.lo), .int .i64 (v.hi)], .agg #[.int .i64 (push.lo), .int .i64 (push.hi)], .agg #[.int .i64 (pull.lo), .int .i64 (pull.hi)], .int .i64 time, .agg #[.int .i64 (m), .int .i64 (m)]] W fun e w' => e = .returned (.tuple #[FD.spv (lfQ v push pull tm (ptC m)).1, .int .i64 (lfQ v push pull tm (ptC m)).2]) ∧ Below W.heap.size W w') := hide (fun W => by have h := LM.out W; rw [show FD.spv (ptC m) = (.agg #[.int .i64 (m), .int .i64 (m)]) by rw [em]; rfl] at h; exact h)
          clear LM em
          generalize lfQ v push pull tm (ptC m) = q at *
          obtain ⟨⟨s0, s1, s2⟩, se⟩ := q
          try dsimp only [FD.spv] at LM2 VS U1 U2 U3
          obtain rfl : se = 0 := VS.out
          have hu2 : wrap64 (u + 1) = u + 1 := by unfold wrap64; omega
          have h5 : w.heap.size < wr.heap.size := by omega
          have h6 : w.heap.size + 1 < wr.heap.size := by omega
          have h7 : w.heap.size + 1 + 1 < wr.heap.size := by omega
          have h8 : w.heap.size + 1 + 1 + 1 < wr.heap.size := by omega
          go_wp2_with fail
          refine (MI.out _).mono ?_
          rintro e w5 ⟨rfl, hb5⟩
          obtain ⟨hc5, hf5⟩ := bcell hb5
          have hz5 := hb5.size
          have j0 : w.heap.size < w5.heap.size := by omega
          have j1 : w.heap.size + 1 < w5.heap.size := by omega
          have j2 : w.heap.size + 1 + 1 < w5.heap.size := by omega
          have j3 : w.heap.size + 1 + 1 + 1 < w5.heap.size := by omega
          have j4 : wc.heap.size < w5.heap.size := by omega
          have q_v0 := (hc5 (w.heap.size) 0 (by omega)).trans v0
          have q_v1 := (hc5 (w.heap.size) 1 (by omega)).trans v1
          have q_u0 := (hc5 (w.heap.size + 1) 0 (by omega)).trans u0
          have q_u1 := (hc5 (w.heap.size + 1) 1 (by omega)).trans u1
          have q_l0 := (hc5 (w.heap.size + 1 + 1) 0 (by omega)).trans l0
          have q_l1 := (hc5 (w.heap.size + 1 + 1) 1 (by omega)).trans l1
          have q_r0 := (hc5 (w.heap.size + 1 + 1 + 1) 0 (by omega)).trans r0
          have q_r1 := (hc5 (w.heap.size + 1 + 1 + 1) 1 (by omega)).trans r1
          have q_rf0 := (hf5 (w.heap.size + 1 + 1 + 1) 0 (by omega)).trans rf0
          have q_rf1 := (hf5 (w.heap.size + 1 + 1 + 1) 1 (by omega)).trans rf1
          have q_a0 := (hc5 (wc.heap.size) 0 (by omega)).trans a0
          have q_a1 := (hc5 (wc.heap.size) 1 (by omega)).trans a1
          have q_fa0 := (hf5 wc.heap.size 0 (by omega)).trans fa0
          have q_fa1 := (hf5 wc.heap.size 1 (by omega)).trans fa1
          have hW5 := hW.trans (hb5.mono (by omega))
          clear hc5 hf5 hb5 MI hW v0 v1 u0 u1 l0 l1 r0 r1 rf0 rf1 a0 a1 fa0 fa1
          have hQ0 := QL.start w5
          have K1 := hide (fun x => Q_of (W0 := w5) (PT.out x))
          have K2 := hide (Q_of (W0 := w5) LM2.out)
          go_upto_region 16 with fail
          go_cut [23, 24] from 99 to 108 (fun s23 s24 wx => ∃ p : Nat, s23 = .pointer (some ⟨p, 0, none⟩) ∧ s24 = .int .i64 0 ∧ QL w5 wx [(p, ⟨s0, s1, s2⟩)])
          case first =>
           have hP_c := hQ0.drew
           have hQ_c := hQ0.new0.drew
           go_region_held3 (fun w' => w'.cell? ⟨w.heap.size, 0, none⟩ = some (.int .i64 v.lo) ∧ w'.cell? ⟨w.heap.size, 1, none⟩ = some (.int .i64 v.hi) ∧ w'.cell? ⟨w.heap.size + 1, 0, none⟩ = some (.int .i64 push.lo) ∧ w'.cell? ⟨w.heap.size + 1, 1, none⟩ = some (.int .i64 push.hi) ∧ w'.cell? ⟨w.heap.size + 1 + 1, 0, none⟩ = some (.int .i64 pull.lo) ∧ w'.cell? ⟨w.heap.size + 1 + 1, 1, none⟩ = some (.int .i64 pull.hi))
            (first | exact ⟨(hQ_c.old j0 q_v0), (hQ_c.old j0 q_v1), (hQ_c.old j1 q_u0), (hQ_c.old j1 q_u1), (hQ_c.old j2 q_l0), (hQ_c.old j2 q_l1)⟩ | exact ⟨((hP_c1.sethead ⟨s0, s1, s2⟩).old j0 q_v0), ((hP_c1.sethead ⟨s0, s1, s2⟩).old j0 q_v1), ((hP_c1.sethead ⟨s0, s1, s2⟩).old j1 q_u0), ((hP_c1.sethead ⟨s0, s1, s2⟩).old j1 q_u1), ((hP_c1.sethead ⟨s0, s1, s2⟩).old j2 q_l0), ((hP_c1.sethead ⟨s0, s1, s2⟩).old j2 q_l1)⟩ | exact ⟨((hP_c1.new ⟨s0, s1, s2⟩).old j0 q_v0), ((hP_c1.new ⟨s0, s1, s2⟩).old j0 q_v1), ((hP_c1.new ⟨s0, s1, s2⟩).old j1 q_u0), ((hP_c1.new ⟨s0, s1, s2⟩).old j1 q_u1), ((hP_c1.new ⟨s0, s1, s2⟩).old j2 q_l0), ((hP_c1.new ⟨s0, s1, s2⟩).old j2 q_l1)⟩ | exact ⟨(hP_c1.new0.old j0 q_v0), (hP_c1.new0.old j0 q_v1), (hP_c1.new0.old j1 q_u0), (hP_c1.new0.old j1 q_u1), (hP_c1.new0.old j2 q_l0), (hP_c1.new0.old j2 q_l1)⟩ | exact ⟨(hP_c1.old j0 q_v0), (hP_c1.old j0 q_v1), (hP_c1.old j1 q_u0), (hP_c1.old j1 q_u1), (hP_c1.old j2 q_l0), (hP_c1.old j2 q_l1)⟩ | exact ⟨(hP_c0.new0.old j0 q_v0), (hP_c0.new0.old j0 q_v1), (hP_c0.new0.old j1 q_u0), (hP_c0.new0.old j1 q_u1), (hP_c0.new0.old j2 q_l0), (hP_c0.new0.old j2 q_l1)⟩ | exact ⟨(hP_c0.old j0 q_v0), (hP_c0.old j0 q_v1), (hP_c0.old j1 q_u0), (hP_c0.old j1 q_u1), (hP_c0.old j2 q_l0), (hP_c0.old j2 q_l1)⟩ | exact ⟨(hP_c.new0.old j0 q_v0), (hP_c.new0.old j0 q_v1), (hP_c.new0.old j1 q_u0), (hP_c.new0.old j1 q_u1), (hP_c.new0.old j2 q_l0), (hP_c.new0.old j2 q_l1)⟩ | exact ⟨(hP_c.old j0 q_v0), (hP_c.old j0 q_v1), (hP_c.old j1 q_u0), (hP_c.old j1 q_u1), (hP_c.old j2 q_l0), (hP_c.old j2 q_l1)⟩)
            (first | (go_at_call 7; (first | with_reducible refine (K2.out _ _ hP_c0).mono ?_ | with_reducible refine (K2.out _ _ (hP_c0.new0)).mono ?_); rintro r w_hP_c1 ⟨rfl, hP_c1⟩; try (obtain ⟨x0_hP_c1, x1_hP_c1, x2_hP_c1, x3_hP_c1, x4_hP_c1⟩ := hP_c1.head)) | (go_at_call 25; (first | with_reducible refine (K1.out _ _ _ hP_c).mono ?_ | with_reducible refine (K1.out _ _ _ (hQ_c)).mono ?_); rintro r w_hP_c0 ⟨rfl, hP_c0⟩; try (obtain ⟨x0_hP_c0, x1_hP_c0, x2_hP_c0, x3_hP_c0, x4_hP_c0⟩ := hP_c0.head)))
           all_goals go_wp2_with fail
           all_goals go_meet
           all_goals (refine ⟨_, rfl, rfl, ?_⟩; first | exact hP_c1.sethead ⟨s0, s1, s2⟩ | exact hP_c1.new ⟨s0, s1, s2⟩)
          case rest =>
           obtain ⟨p, rfl, rfl, hQ⟩ := hcut
           obtain ⟨x0, x1, x2, x3, x4⟩ := hQ.head
           dsimp only at x1 x2
           have d_v0 := hQ.old j0 q_v0
           have d_v1 := hQ.old j0 q_v1
           have d_u0 := hQ.old j1 q_u0
           have d_u1 := hQ.old j1 q_u1
           have d_l0 := hQ.old j2 q_l0
           have d_l1 := hQ.old j2 q_l1
           have d_r0 := hQ.old j3 q_r0
           have d_r1 := hQ.old j3 q_r1
           have d_rf0 := hQ.oldf j3 q_rf0
           have d_rf1 := hQ.oldf j3 q_rf1
           have d_a0 := hQ.old j4 q_a0
           have d_a1 := hQ.old j4 q_a1
           have d_fa0 := hQ.oldf j4 q_fa0
           have d_fa1 := hQ.oldf j4 q_fa1
           have hWd := hW5.trans (hQ.below.mono (by omega))
           have hsd := hQ.below.size
           have pn : ¬ wc.heap.size = p := by have := (hQ.box _ (List.mem_cons_self ..)).2; dsimp only at this; omega
           have pn' : ¬ p = wc.heap.size := fun h => pn h.symm
           clear hQ hQ0 K1 K2 LM2 q_v0 q_v1 q_u0 q_u1 q_l0 q_l1 q_r0 q_r1 q_rf0 q_rf1 q_a0 q_a1 q_fa0 q_fa1
           by_cases g1 : s1 < want
           ·have HN2 := hide ((U1.out (by omega)).symm.trans HNN.out)
            clear U1 U2 U3 HNN
            have g2 : ¬ want ≤ s1 := by omega
            by_cases g4 : s0 ≤ want
            ·skip
             go_wp2
             go_roundw
             case rel => exact ⟨j, m, hi, u + 1, rfl, by omega, by omega, by omega, by omega, by omega, HN2.out, hWd.setCell (by dsimp only; omega) _, by simp only [World.size_setCell]; omega, (far (by omega)).trans d_v0, (far (by omega)).trans d_v1, (far (by omega)).trans d_u0, (far (by omega)).trans d_u1, (far (by omega)).trans d_l0, (far (by omega)).trans d_l1, (far (by omega)).trans d_r0, (far (by omega)).trans d_r1, by rw [World.frozen?_setCell]; exact d_rf0, by rw [World.frozen?_setCell]; exact d_rf1, by go_simp, by go_simp, by go_simp, by go_simp⟩
             case measure => simp [intOf]; omega
            ·skip
             go_wp2
             go_roundw
             case rel => exact ⟨j, m, hi, u + 1, rfl, by omega, by omega, by omega, by omega, by omega, HN2.out, hWd.setCell (by dsimp only; omega) _, by simp only [World.size_setCell]; omega, (far (by omega)).trans d_v0, (far (by omega)).trans d_v1, (far (by omega)).trans d_u0, (far (by omega)).trans d_u1, (far (by omega)).trans d_l0, (far (by omega)).trans d_l1, (far (by omega)).trans d_r0, (far (by omega)).trans d_r1, by rw [World.frozen?_setCell]; exact d_rf0, by rw [World.frozen?_setCell]; exact d_rf1, by go_simp, by go_simp, by go_simp, by go_simp⟩
             case measure => simp [intOf]; omega
           ·by_cases g3 : want < s0
            ·have HN2 := hide ((U2.out (by omega) (by omega)).symm.trans HNN.out)
             clear U1 U2 U3 HNN
             have g4 : ¬ s0 ≤ want := by omega
             go_wp2
             go_roundw
             case rel => exact ⟨j, lo, m, u + 1, rfl, by omega, by omega, by omega, by omega, by omega, HN2.out, hWd.setCell (by dsimp only; omega) _, by simp only [World.size_setCell]; omega, (far (by omega)).trans d_v0, (far (by omega)).trans d_v1, (far (by omega)).trans d_u0, (far (by omega)).trans d_u1, (far (by omega)).trans d_l0, (far (by omega)).trans d_l1, (far (by omega)).trans d_r0, (far (by omega)).trans d_r1, by rw [World.frozen?_setCell]; exact d_rf0, by rw [World.frozen?_setCell]; exact d_rf1, by go_simp, by go_simp, by go_simp, by go_simp⟩
             case measure => simp [intOf]; omega
            ·obtain ⟨rfl, rfl, rfl⟩ : lo = G1 ∧ hi = G2 ∧ u + 1 = G3 := by have := (U3.out (by omega) (by omega)).symm.trans HNN.out; simpa using this
             clear U1 U2 U3 HNN
             have g2 : want ≤ s1 := by omega
             have g4 : s0 ≤ want := by omega
             go_wp2
             refine bodyPost_ret (v := aimT lo hi (u + 1) 0) (by simp only [results, Try.results9]; go_simp) rfl ⟨rfl, blw_⟩
    ·have hR := Q2.out (by first | rfl | trivial) hDE
     subst hR
     have hs1 : (DE == 0) = false := by simpa using hDE
     have hs2 : (DE != 0) = true := by simpa using hDE
     clear Q1 Q2 Q3 Q4
     go_wp2
     refine bodyPost_ret (v := aimT 0 0 0 DE) (by simp only [results, Try.results9]; go_simp) rfl ⟨rfl, blw_⟩
  ·have hR := Q1.out hTE
   subst hR
   have hs1 : (TE == 0) = false := by simpa using hTE
   have hs2 : (TE != 0) = true := by simpa using hTE
   clear Q1 Q2 Q3 Q4
   go_wp2
   refine bodyPost_ret (v := aimT 0 0 0 TE) (by simp only [results, Try.results9]; go_simp) rfl ⟨rfl, blw_⟩
end Sw
end
end Go.Proofs.Ytacpahebbnnckaa
