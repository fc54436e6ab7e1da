/- Packed: LiC LiD LiE LiF. -/
import Derived.Test.YtdcolicajjmffaaP19
import Derived.Test.YtdcolicajjmffaaP24
import Derived.Test.YtdcolicajjmffaaP25
set_option linter.unusedVariables false
set_option linter.unusedSimpArgs false
namespace Go.Proofs.Ytdcolicajjmffaa
section
set_option maxRecDepth 100000
open Go.RowKit
open FP
theorem upto_split {α : Type} (f : Nat → α) {k n : Nat} (h : k < n) : ∃ ys, FD.upto f n = FD.upto f k ++ f k :: ys := by
 induction n with
 | zero => omega
 | succ n ih =>
  rw [FD.upto_succ]
  by_cases e : k = n
  ·subst e; exact ⟨[], rfl⟩
  ·obtain ⟨ys, hy⟩ := ih (by omega)
   exact ⟨ys ++ [f n], by rw [hy]; simp⟩
def LoopR {α : Type} (acc : List α → Option FD.Sp) (f : Nat → α) (G F : FD.Sp × Int) (k : Nat) (r : FD.Sp) (e : Int) : Prop :=
 (e = 0 ∧ G = F ∧ acc (FD.upto f k) = some r) ∨ (¬ e = 0 ∧ F = (.zero, e))
set_option maxHeartbeats 2000000 in
theorem rsum_any (A : Option Addr) (n cap : Nat) (lo hi : Nat → Int) (hE : ∀ j, FD.In64 (lo j) ∧ FD.In64 (hi j)) (hn : n ≤ 70) (w : World) (hS : SpL w A n lo hi) :
  Calls Try.prog 5 #[.slice A n cap] w fun e w' => e = .returned (.tuple #[FD.spv (sumR n lo hi hE).1, .int .i64 (sumR n lo hi hE).2]) ∧ Below w.heap.size w w' := by
 have LI := hide (fun W (hb : Below w.heap.size w W) => rlist_any A n cap lo hi W (hS.below hb) _ rfl)
 have HS := hide (fun W (hb : Below w.heap.size w W) => hS.below hb)
 have H0 : Hid (chk1 n lo hi = 0 → FD.foldS stepA .zero (FD.upto (FD.el lo hi hE) n) = sumR n lo hi hE) := hide (fun h => by unfold sumR; rw [if_pos h])
 have H1 : Hid (¬ chk1 n lo hi = 0 → sumR n lo hi hE = (.zero, chk1 n lo hi)) := hide (fun h => by unfold sumR; rw [if_neg h])
 generalize sumR n lo hi hE = F at *
 generalize chk1 n lo hi = c at *
 clear hS
 go_enter Try.func5, Try.ntmps5
 go_wp2_with fail
 refine (LI.out _ blw_).mono ?_
 rintro e w1 ⟨rfl, hb1⟩
 obtain ⟨hc1, hf1⟩ := bcell hb1
 have hz1 := hb1.size
 simp only [World.size_alloc] at hz1
 have y1 : w.heap.size < w1.heap.size := by omega
 have hB1 : Below w.heap.size w w1 := blw_
 have q0 := zci w1 w.heap.size 0 0 (by go_simp)
 have q1 := zci w1 w.heap.size 1 0 (by go_simp)
 have q2 := zfe w1 w.heap.size 0 (by go_simp)
 have q3 := zfe w1 w.heap.size 1 (by go_simp)
 clear hc1 hf1 hb1
 go_wp2_with fail
 generalize hB : w1.heap.size = B at *
 have R0 : Hid (LoopR (FD.acc stepA .zero) (FD.el lo hi hE) (FD.foldS stepA .zero (FD.upto (FD.el lo hi hE) n)) F 0 .zero c) := hide (by
  by_cases h : c = 0
  ·exact .inl ⟨h, H0.out h, rfl⟩
  ·exact .inr ⟨h, H1.out h⟩)
 go_loopw [6, 4] (fun s6 s4 wr => ∃ (k : Nat) (e : Int) (r : FD.Sp), k ≤ n ∧ s6 = .int .i64 k ∧ s4 = .int .i64 e ∧ Hid (LoopR (FD.acc stepA .zero) (FD.el lo hi hE) (FD.foldS stepA .zero (FD.upto (FD.el lo hi hE) n)) F k r e) ∧ Below w.heap.size w wr ∧ B < wr.heap.size ∧
  wr.cell? ⟨B, 0, none⟩ = some (.int .i64 r.lo) ∧ wr.cell? ⟨B, 1, none⟩ = some (.int .i64 r.hi) ∧ wr.frozen? ⟨B, 0, none⟩ = false ∧ wr.frozen? ⟨B, 1, none⟩ = false ∧
  wr.cell? ⟨w.heap.size, 0, none⟩ = some (.int .i64 0) ∧ wr.cell? ⟨w.heap.size, 1, none⟩ = some (.int .i64 0) ∧ wr.frozen? ⟨w.heap.size, 0, none⟩ = false ∧ wr.frozen? ⟨w.heap.size, 1, none⟩ = false ∧ (e = 0 ∨ k = 0 ∨ True)) (fun s6 _ _ => n - (intOf s6).toNat)
 case atStart => exact ⟨0, c, .zero, Nat.zero_le _, rfl, rfl, R0, blw_, by subst hB; simp, by subst hB; go_simp; rfl, by subst hB; go_simp; rfl, by subst hB; go_simp, by subst hB; go_simp, by go_simp, by go_simp, by go_simp, by go_simp, .inr (.inr trivial)⟩
 case round =>
  obtain ⟨k, e, r, hk, rfl, rfl, HR, hW, hsz, c0, c1, d0, d1, c2, c3, d2, d3, -⟩ := hrel
  have hww := hW.size
  have z0 : w.heap.size < wr.heap.size := by omega
  by_cases he : e = 0
  ·subst he
   rcases HR.out with ⟨-, hGF, hacc⟩ | ⟨hc, -⟩
   case inr => exact absurd rfl hc
   by_cases hlt : k < n
   ·obtain ⟨ad, hA, hl, hE2⟩ := HS.out wr hW (by omega)
    subst hA
    have t0 := (hE2 k hlt).1
    have t1 := (hE2 k hlt).2
    have hba := block_add ad
    have ST := hide (rstepA_in r (FD.el lo hi hE k))
    have HN : Hid (LoopR (FD.acc stepA .zero) (FD.el lo hi hE) (FD.foldS stepA .zero (FD.upto (FD.el lo hi hE) n)) F (k + 1) (stepA r (FD.el lo hi hE k)).1 (stepA r (FD.el lo hi hE k)).2) := hide (by
     by_cases h : (stepA r (FD.el lo hi hE k)).2 = 0
     ·exact .inl ⟨h, hGF, by rw [FD.upto_succ, FD.acc_snoc stepA _ _ _ _ hacc, if_pos h]⟩
     ·refine .inr ⟨h, ?_⟩
      obtain ⟨ys, hy⟩ := upto_split (FD.el lo hi hE) hlt
      rw [← hGF, hy, FD.foldS_bad stepA _ _ _ _ _ hacc h])
    clear hE2 hGF hacc HR
    generalize stepA r (FD.el lo hi hE k) = s at *
    obtain ⟨⟨s0, s1, s2⟩, se⟩ := s
    dsimp only [FD.spv, FD.el] at ST HN
    generalize lo k = x0 at *
    generalize hi k = x1 at *
    go_wp2_with fail
    refine QX.tail1_b 7 8 [7, 9, 10] _ [_, _, _] (by kernel_rfl) (by kernel_rfl) rfl rfl (fun _ _ _ _ h => h) ?_
    simp only [List.take_succ_cons, List.take_zero, List.drop_succ_cons, List.drop_zero]
    repeat (first
     | go_big_quiet_skip
     | (go_big_quiet_want; go_big_quiet_op; first
      | go_big_quiet_on
      | (apply Exists.intro
         refine ⟨fun _ => ?_, ?_⟩
         ·first
          | rfl
          | (intro hC; obtain ⟨hcq, hfq⟩ := bcellB hC; go_simp; done)
          | (intro hC; obtain ⟨hcq, hfq⟩ := bcellB hC; go_simp; rfl)
          | (intro hC; have hcq := bcellG hC; go_simp; done)
          | (intro hC; have hcq := bcellG hC; go_simp; rfl)
          | (intro hC; go_at_call 16; (first | (with_reducible refine (ST.out _).mono ?_)); (intro e w2 hw; exact ⟨hw.1, qtrans (by simp) hC hw.2⟩))
         go_big_quiet_on)))
    refine wpQuiet_nil ?_
    refine ⟨_, Or.inl ⟨by rfl, fun _ => rfl⟩, ?_⟩
    intro w9 hC9
    obtain ⟨hc9, hf9⟩ := bcellB hC9
    have hz9 := hC9.size
    have v0 := zci w9 B 0 r.lo (by go_simp)
    have v1 := zci w9 B 1 r.hi (by go_simp)
    have v2 := zfe w9 B 0 (by go_simp)
    have v3 := zfe w9 B 1 (by go_simp)
    go_wp2
    go_roundw
    case rel => exact ⟨k + 1, se, ⟨s0, s1, s2⟩, by omega, by go_num, rfl, HN, hW.trans blw_, by simp; omega, by go_simp, by go_simp, by go_simp, by go_simp, by go_simp, by go_simp, by go_simp, by go_simp, .inr (.inr trivial)⟩
    case measure => simp [intOf]; omega
   ·obtain rfl : k = n := by omega
    have hF := FD.foldS_acc stepA _ _ _ hacc
    rw [hGF] at hF
    subst hF
    clear hGF hacc HR
    go_wp2
    refine bodyPost_ret (v := .tuple #[.agg #[.int .i64 (r.lo), .int .i64 (r.hi)], .int .i64 0]) (by simp only [results, Try.results5]; go_simp) rfl ⟨rfl, blw_⟩
  ·rcases HR.out with ⟨hc, -⟩ | ⟨-, hF⟩
   ·exact absurd hc he
   ·subst hF
    have he1 : (e == 0) = false := by simpa using he
    have he2 : (e != 0) = true := by simpa using he
    clear HR
    by_cases hlt : k < n
    all_goals
     go_wp2
     refine bodyPost_ret (v := .tuple #[.agg #[.int .i64 (0), .int .i64 (0)], .int .i64 e]) (by simp only [results, Try.results5]; go_simp) rfl ⟨rfl, blw_⟩
end
section
set_option maxRecDepth 100000
open Go.RowKit
open FP
noncomputable def rootR (s : FD.Sp) : FD.Sp × Int :=
 (⟨okI (vB s.lo s.hi) (roL s.lo s.hi), okI (vB s.lo s.hi) (roH s.hi), SX.okI_R64 (SX.ro_R64 s.ok.1 s.ok.2).1, SX.okI_R64 (SX.ro_R64 s.ok.1 s.ok.2).2⟩, errE (vB s.lo s.hi) (roE s.hi))
theorem root_in (s : FD.Sp) (W : World) : Calls Try.prog 24 #[FD.spv s] W fun e W' => e = .returned (.tuple #[FD.spv (rootR s).1, .int .i64 (rootR s).2]) ∧ Below W.heap.size W W' := sroot_any s.lo s.hi s.ok.1 s.ok.2 W
theorem rroot_in (s : FD.Sp) (W : World) : Calls Try.prog 26 #[FD.spv s] W fun e W' => e = .returned (.tuple #[FD.spv (rootR s).1, .int .i64 (rootR s).2]) ∧ Below W.heap.size W W' := rsroot_any s.lo s.hi s.ok.1 s.ok.2 W
def sqV (x : FD.Sp) : FD.Sp × Int :=
 (⟨okI (vB x.lo x.hi) (oLo (sqL (absL x.lo x.hi) (absH x.lo x.hi)) (sqH (absL x.lo x.hi) (absH x.lo x.hi))), okI (vB x.lo x.hi) (oHi (sqL (absL x.lo x.hi) (absH x.lo x.hi)) (sqH (absL x.lo x.hi) (absH x.lo x.hi))), SX.okI_R64 (SX.oLo_R64 _ _), SX.okI_R64 (SX.oHi_R64 _ _)⟩, errE (vB x.lo x.hi) (oE (sqL (absL x.lo x.hi) (absH x.lo x.hi)) (sqH (absL x.lo x.hi) (absH x.lo x.hi))))
theorem rsq_in (x : FD.Sp) (W : World) : Calls Try.prog 25 #[FD.spv x] W fun e W' => e = .returned (.tuple #[FD.spv (sqV x).1, .int .i64 (sqV x).2]) ∧ Below W.heap.size W W' := rsquare_any x.lo x.hi x.ok.1 x.ok.2 W
def mulV (x : Pr) : FD.Sp × Int :=
 (⟨okI (vB x.a.lo x.a.hi && vB x.b.lo x.b.hi) (oLo (mi (mL x.a.lo x.b.lo x.b.hi) (mL x.a.hi x.b.lo x.b.hi)) (mx (mH x.a.lo x.b.lo x.b.hi) (mH x.a.hi x.b.lo x.b.hi))), okI (vB x.a.lo x.a.hi && vB x.b.lo x.b.hi) (oHi (mi (mL x.a.lo x.b.lo x.b.hi) (mL x.a.hi x.b.lo x.b.hi)) (mx (mH x.a.lo x.b.lo x.b.hi) (mH x.a.hi x.b.lo x.b.hi))), SX.okI_R64 (SX.oLo_R64 _ _), SX.okI_R64 (SX.oHi_R64 _ _)⟩,
  errE (vB x.a.lo x.a.hi && vB x.b.lo x.b.hi) (oE (mi (mL x.a.lo x.b.lo x.b.hi) (mL x.a.hi x.b.lo x.b.hi)) (mx (mH x.a.lo x.b.lo x.b.hi) (mH x.a.hi x.b.lo x.b.hi))))
theorem rmul_in (x : Pr) (W : World) : Calls Try.prog 21 #[FD.spv x.a, FD.spv x.b] W fun e W' => e = .returned (.tuple #[FD.spv (mulV x).1, .int .i64 (mulV x).2]) ∧ Below W.heap.size W W' := rmul_any x.a.lo x.a.hi x.b.lo x.b.hi x.a.ok.1 x.a.ok.2 x.b.ok.1 x.b.ok.2 W
def stepT {α : Type} (g : α → FD.Sp × Int) (s : FD.Sp) (x : α) : FD.Sp × Int := if (g x).2 = 0 then (if (stepA s (g x).1).2 = 0 then ((stepA s (g x).1).1, 0) else (.zero, (stepA s (g x).1).2)) else (.zero, (g x).2)
noncomputable def normR (n : Nat) (lo hi : Nat → Int) (hE : ∀ j, FD.In64 (lo j) ∧ FD.In64 (hi j)) : FD.Sp × Int :=
 if chk1 n lo hi = 0 then (if (FD.foldS (stepT sqV) .zero (FD.upto (FD.el lo hi hE) n)).2 = 0 then rootR (FD.foldS (stepT sqV) .zero (FD.upto (FD.el lo hi hE) n)).1 else (.zero, (FD.foldS (stepT sqV) .zero (FD.upto (FD.el lo hi hE) n)).2)) else (.zero, chk1 n lo hi)
set_option maxHeartbeats 1000000 in
theorem norm_own (g n cp : Nat) (lo hi : Nat → Int) (hE : ∀ j, FD.In64 (lo j) ∧ FD.In64 (hi j)) (hn : n ≤ 70) (w : World) (hg : g < w.heap.size) (hS : SpL w (some ⟨g, 0, none⟩) n lo hi) :
  Calls Try.prog 8 #[.slice (some ⟨g, 0, none⟩) n cp] w fun e w' => e = .returned (.tuple #[FD.spv (normR n lo hi hE).1, .int .i64 (normR n lo hi hE).2]) ∧ Below w.heap.size w w' := by
 have CK := hide (chk_one (some ⟨g, 0, none⟩) n cp lo hi hE hn)
 have HS := hide (fun W (hb : Below w.heap.size w W) => hS.below hb)
 clear hS
 unfold normR
 by_cases h0 : chk1 n lo hi = 0
 ·rw [if_pos h0]
  rw [h0] at CK
  have FA := hide (fun Bs W hBs hc hI => FD.fold_any SX.stepV SX.step_in Bs (.slice (some ⟨g, 0, none⟩) n cp) n lo hi hE (by omega) .zero W hBs hc hI)
  rw [show SX.stepV = stepT sqV from rfl] at FA
  generalize FD.foldS (stepT sqV) .zero (FD.upto (FD.el lo hi hE) n) = F at *
  obtain ⟨f, fe⟩ := F
  dsimp only at FA ⊢
  have RT := hide (root_in f)
  by_cases hfe : fe = 0
  ·subst hfe
   rw [if_pos rfl]
   generalize rootR f = R at *
   obtain ⟨⟨r0, r1, r2⟩, re⟩ := R
   obtain ⟨f0, f1, f2⟩ := f
   dsimp only [FD.spv] at FA RT ⊢
   clear h0
   go_enter Try.func8, Try.ntmps8
   go_wp2_with fail
   refine (CK.out _ _ _ (by simp) (HS.out _ blw_) (by go_simp)).mono ?_
   rintro e w1 ⟨rfl, hb1⟩
   obtain ⟨hc1, hf1⟩ := bcell hb1
   have hz1 := hb1.size
   simp only [World.size_alloc] at hz1
   have y1 : w.heap.size < w1.heap.size := by omega
   have hB1 : Below w.heap.size w w1 := blw_
   go_wp2_with (go_at_call 13; refine (values_fn _ _ _ _).mono ?_; rintro e w2 ⟨rfl, rfl⟩)
   refine (FA.out _ _ (by simp) (by go_simp) (.inr ⟨g, 0, cp, rfl, (by simp; omega), own_elems (HS.out _ blw_)⟩)).mono ?_
   rintro e w3 ⟨rfl, hb3⟩
   obtain ⟨hc3, hf3⟩ := bcell hb3
   have hz3 := hb3.size
   simp only [World.size_alloc] at hz3
   have y3 : w.heap.size < w3.heap.size := by omega
   have q0 := zci w3 w.heap.size 0 0 (by go_simp)
   have q1 := zci w3 w.heap.size 1 0 (by go_simp)
   have q2 := zfe w3 w.heap.size 0 (by go_simp)
   have q3 := zfe w3 w.heap.size 1 (by go_simp)
   clear hc3 hf3
   go_wp2_with fail
   refine (RT.out _).mono ?_
   rintro e w4 ⟨rfl, hb4⟩
   obtain ⟨hc4, hf4⟩ := bcell hb4
   have hz4 := hb4.size
   simp only [World.size_alloc, World.size_setCell] at hz4
   have y4 : w.heap.size < w4.heap.size := by omega
   have p0 := zci w4 w.heap.size 0 0 (by go_simp)
   have p1 := zci w4 w.heap.size 1 0 (by go_simp)
   have p2 := zfe w4 w.heap.size 0 (by go_simp)
   have p3 := zfe w4 w.heap.size 1 (by go_simp)
   clear hc4 hf4
   go_wp2
   refine bodyPost_ret (v := .tuple #[.agg #[.int .i64 (r0), .int .i64 (r1)], .int .i64 re]) (by simp only [results, Try.results8]; go_simp) rfl ⟨rfl, blw_⟩
  ·rw [if_neg hfe]
   have hne : (fe == 0) = false := by simpa using hfe
   have hne2 : (fe != 0) = true := by simpa using hfe
   obtain ⟨f0, f1, f2⟩ := f
   dsimp only [FD.spv, FD.Sp.zero] at FA ⊢
   clear h0 RT
   go_enter Try.func8, Try.ntmps8
   go_wp2_with fail
   refine (CK.out _ _ _ (by simp) (HS.out _ blw_) (by go_simp)).mono ?_
   rintro e w1 ⟨rfl, hb1⟩
   obtain ⟨hc1, hf1⟩ := bcell hb1
   have hz1 := hb1.size
   simp only [World.size_alloc] at hz1
   have y1 : w.heap.size < w1.heap.size := by omega
   have hB1 : Below w.heap.size w w1 := blw_
   go_wp2_with (go_at_call 13; refine (values_fn _ _ _ _).mono ?_; rintro e w2 ⟨rfl, rfl⟩)
   refine (FA.out _ _ (by simp) (by go_simp) (.inr ⟨g, 0, cp, rfl, (by simp; omega), own_elems (HS.out _ blw_)⟩)).mono ?_
   rintro e w3 ⟨rfl, hb3⟩
   obtain ⟨hc3, hf3⟩ := bcell hb3
   have hz3 := hb3.size
   simp only [World.size_alloc] at hz3
   have y3 : w.heap.size < w3.heap.size := by omega
   have q0 := zci w3 w.heap.size 0 0 (by go_simp)
   have q1 := zci w3 w.heap.size 1 0 (by go_simp)
   have q2 := zfe w3 w.heap.size 0 (by go_simp)
   have q3 := zfe w3 w.heap.size 1 (by go_simp)
   clear hc3 hf3
   go_wp2
   refine bodyPost_ret (v := .tuple #[.agg #[.int .i64 (0), .int .i64 (0)], .int .i64 fe]) (by simp only [results, Try.results8]; go_simp) rfl ⟨rfl, blw_⟩
 ·rw [if_neg h0]
  have hne : (chk1 n lo hi == 0) = false := by simpa using h0
  have hne2 : (chk1 n lo hi != 0) = true := by simpa using h0
  generalize chk1 n lo hi = c at *
  dsimp only [FD.spv, FD.Sp.zero]
  go_enter Try.func8, Try.ntmps8
  go_wp2_with fail
  refine (CK.out _ _ _ (by simp) (HS.out _ blw_) (by go_simp)).mono ?_
  rintro e w1 ⟨rfl, hb1⟩
  obtain ⟨hc1, hf1⟩ := bcell hb1
  have hz1 := hb1.size
  simp only [World.size_alloc] at hz1
  have y1 : w.heap.size < w1.heap.size := by omega
  have q0 := zci w1 w.heap.size 0 0 (by go_simp)
  have q1 := zci w1 w.heap.size 1 0 (by go_simp)
  have q2 := zfe w1 w.heap.size 0 (by go_simp)
  have q3 := zfe w1 w.heap.size 1 (by go_simp)
  clear hc1 hf1
  go_wp2
  refine bodyPost_ret (v := .tuple #[.agg #[.int .i64 (0), .int .i64 (0)], .int .i64 c]) (by simp only [results, Try.results8]; go_simp) rfl ⟨rfl, blw_⟩
end
section
set_option maxRecDepth 100000
open Go.RowKit
open FP
theorem pairs_fn (A : Option Addr) (n cap : Nat) (B : Option Addr) (m cap' : Nat) (w : World) : Calls Try.prog 18 #[.slice A n cap, .slice B m cap'] w fun e w' => e = .returned (.func (.func 35) #[] #[.pointer (some ⟨w.heap.size, 0, none⟩), .pointer (some ⟨w.heap.size + 1, 0, none⟩)]) ∧ Below w.heap.size w w' ∧ w'.cell? ⟨w.heap.size, 0, none⟩ = some (.slice A n cap) ∧ w'.cell? ⟨w.heap.size + 1, 0, none⟩ = some (.slice B m cap') ∧ w.heap.size + 1 < w'.heap.size := by
 go_enter Try.func18, Try.ntmps18
 go_wp2
 go_ret
 have c0 := ((FD.Cell1.new w (.slice A n cap) 22).alloc (.cells #[.slice B m cap'] 22) (by simp)).1
 have c1 := (FD.Cell1.new (w.alloc (.cells #[.slice A n cap] 22)) (.slice B m cap') 22).1
 rw [World.size_alloc] at c1
 exact ⟨by simp, blw_, c0, c1, by simp⟩
theorem other_of {w : World} {B : Option Addr} {m cap : Nat} {lo hi : Nat → Int} (h : SpL w B m lo hi) : Other w.heap.size w (.slice B m cap) m lo hi := fun h0 => by
 obtain ⟨ad, rfl, hl, hE⟩ := h h0
 exact ⟨ad, cap, rfl, hl, hE⟩
def dotR (n m : Nat) (lo hi lo' hi' : Nat → Int) (hE : ∀ j, FD.In64 (lo j) ∧ FD.In64 (hi j)) (hE' : ∀ j, FD.In64 (lo' j) ∧ FD.In64 (hi' j)) : FD.Sp × Int :=
 if chk2 n m lo hi lo' hi' = 0 then (if n = m then FP.foldS (stepT mulV) .zero (FD.upto (elp lo hi lo' hi' hE hE') n) else (.zero, 2)) else (.zero, chk2 n m lo hi lo' hi')
set_option maxHeartbeats 1000000 in
theorem dot_own (g n cp : Nat) (B : Option Addr) (m cp' : Nat) (lo hi lo' hi' : Nat → Int) (hE : ∀ j, FD.In64 (lo j) ∧ FD.In64 (hi j)) (hE' : ∀ j, FD.In64 (lo' j) ∧ FD.In64 (hi' j)) (hn : n ≤ 70) (hm : m ≤ 70) (w : World) (hg : g < w.heap.size) (hS : SpL w (some ⟨g, 0, none⟩) n lo hi) (hS' : SpL w B m lo' hi') :
  Calls Try.prog 6 #[.slice (some ⟨g, 0, none⟩) n cp, .slice B m cp'] w fun e w' => e = .returned (.tuple #[FD.spv (dotR n m lo hi lo' hi' hE hE').1, .int .i64 (dotR n m lo hi lo' hi' hE hE').2]) ∧ Below w.heap.size w w' := by
 have CK := hide (chk_two (some ⟨g, 0, none⟩) B n m cp cp' lo hi lo' hi' hE hE' hn hm)
 have HS := hide (fun W (hb : Below w.heap.size w W) => hS.below hb)
 have HS' := hide (fun W (hb : Below w.heap.size w W) => hS'.below hb)
 clear hS hS'
 unfold dotR
 by_cases h0 : chk2 n m lo hi lo' hi' = 0
 ·rw [if_pos h0]
  rw [h0] at CK
  by_cases hnm : n = m
  ·subst hnm
   rw [if_pos rfl]
   have FA := hide (fun Ba Bb W hBan hBbn hb hBa hBb hc hc' => FP.foldq_any SX.stepD SX.stepD_in Ba Bb g 0 cp n (.slice B n cp') lo hi lo' hi' hE hE' (by omega) .zero W hBan hBbn hb hBa hBb hc hc')
   rw [show SX.stepD = stepT mulV from rfl] at FA
   generalize FP.foldS (stepT mulV) .zero (FD.upto (elp lo hi lo' hi' hE hE') n) = F at *
   obtain ⟨⟨f0, f1, f2⟩, fe⟩ := F
   dsimp only [FD.spv] at FA ⊢
   clear h0
   go_enter Try.func6, Try.ntmps6
   go_wp2_with fail
   refine (CK.out _ _ _ (by simp) (HS.out _ blw_) (HS'.out _ blw_) (by go_simp) (by go_simp)).mono ?_
   rintro e w1 ⟨rfl, hb1⟩
   obtain ⟨hc1, hf1⟩ := bcell hb1
   have hz1 := hb1.size
   simp only [World.size_alloc] at hz1
   have y1 : w.heap.size < w1.heap.size := by omega
   have hB1 : Below w.heap.size w w1 := blw_
   go_wp2_with (go_at_call 18; refine (pairs_fn _ _ _ _ _ _ _).mono ?_; rintro e w2 ⟨rfl, hb2, pc0, pc1, pz⟩)
   have hB2 : Below w.heap.size w w2 := hB1.trans (hb2.mono (by omega))
   obtain ⟨hc2, hf2⟩ := bcell hb2
   have y2 : w.heap.size < w2.heap.size := by omega
   refine (FA.out _ _ _ (by omega) pz (by omega) pc0 pc1 (own_elems (HS.out _ hB2)) (other_of (HS'.out _ hB2))).mono ?_
   rintro e w3 ⟨rfl, hb3⟩
   obtain ⟨hc3, hf3⟩ := bcell hb3
   have hz3 := hb3.size
   try simp only [World.size_alloc] at hz3
   have y3 : w.heap.size < w3.heap.size := by omega
   have q0 := zci w3 w.heap.size 0 0 (by go_simp)
   have q1 := zci w3 w.heap.size 1 0 (by go_simp)
   have q2 := zfe w3 w.heap.size 0 (by go_simp)
   have q3 := zfe w3 w.heap.size 1 (by go_simp)
   clear hc3 hf3
   go_wp2
   refine bodyPost_ret (v := .tuple #[.agg #[.int .i64 (f0), .int .i64 (f1)], .int .i64 fe]) (by simp only [results, Try.results6]; go_simp) rfl ⟨rfl, blw_⟩
  ·rw [if_neg hnm]
   have hnI : ((n : Int) != (m : Int)) = true := by simp; omega
   have hnN : (n != m) = true := by simp; omega
   have hnE : (n == m) = false := by simp; omega
   dsimp only [FD.spv, FD.Sp.zero]
   clear h0
   go_enter Try.func6, Try.ntmps6
   go_wp2_with fail
   refine (CK.out _ _ _ (by simp) (HS.out _ blw_) (HS'.out _ blw_) (by go_simp) (by go_simp)).mono ?_
   rintro e w1 ⟨rfl, hb1⟩
   obtain ⟨hc1, hf1⟩ := bcell hb1
   have hz1 := hb1.size
   simp only [World.size_alloc] at hz1
   have y1 : w.heap.size < w1.heap.size := by omega
   have q0 := zci w1 w.heap.size 0 0 (by go_simp)
   have q1 := zci w1 w.heap.size 1 0 (by go_simp)
   have q2 := zfe w1 w.heap.size 0 (by go_simp)
   have q3 := zfe w1 w.heap.size 1 (by go_simp)
   clear hc1 hf1
   go_wp2
   refine bodyPost_ret (v := .tuple #[.agg #[.int .i64 (0), .int .i64 (0)], .int .i64 2]) (by simp only [results, Try.results6]; go_simp) rfl ⟨rfl, blw_⟩
 ·rw [if_neg h0]
  have hne : (chk2 n m lo hi lo' hi' == 0) = false := by simpa using h0
  have hne2 : (chk2 n m lo hi lo' hi' != 0) = true := by simpa using h0
  generalize chk2 n m lo hi lo' hi' = c at *
  dsimp only [FD.spv, FD.Sp.zero]
  go_enter Try.func6, Try.ntmps6
  go_wp2_with fail
  refine (CK.out _ _ _ (by simp) (HS.out _ blw_) (HS'.out _ blw_) (by go_simp) (by go_simp)).mono ?_
  rintro e w1 ⟨rfl, hb1⟩
  obtain ⟨hc1, hf1⟩ := bcell hb1
  have hz1 := hb1.size
  simp only [World.size_alloc] at hz1
  have y1 : w.heap.size < w1.heap.size := by omega
  have q0 := zci w1 w.heap.size 0 0 (by go_simp)
  have q1 := zci w1 w.heap.size 1 0 (by go_simp)
  have q2 := zfe w1 w.heap.size 0 (by go_simp)
  have q3 := zfe w1 w.heap.size 1 (by go_simp)
  clear hc1 hf1
  go_wp2
  refine bodyPost_ret (v := .tuple #[.agg #[.int .i64 (0), .int .i64 (0)], .int .i64 c]) (by simp only [results, Try.results6]; go_simp) rfl ⟨rfl, blw_⟩
set_option maxHeartbeats 2000000 in
theorem rnorm_any (A : Option Addr) (n cap : Nat) (lo hi : Nat → Int) (hE : ∀ j, FD.In64 (lo j) ∧ FD.In64 (hi j)) (hn : n ≤ 70) (w : World) (hS : SpL w A n lo hi) :
  Calls Try.prog 9 #[.slice A n cap] w fun e w' => e = .returned (.tuple #[FD.spv (normR n lo hi hE).1, .int .i64 (normR n lo hi hE).2]) ∧ Below w.heap.size w w' := by
 have LI := hide (fun W (hb : Below w.heap.size w W) => rlist_any A n cap lo hi W (hS.below hb) _ rfl)
 have HS := hide (fun W (hb : Below w.heap.size w W) => hS.below hb)
 unfold normR
 by_cases h0 : chk1 n lo hi = 0
 case neg =>
  rw [if_neg h0]
  have hne : (chk1 n lo hi == 0) = false := by simpa using h0
  have hne2 : (chk1 n lo hi != 0) = true := by simpa using h0
  generalize chk1 n lo hi = c at *
  dsimp only [FD.spv, FD.Sp.zero]
  clear hS
  go_enter Try.func9, Try.ntmps9
  go_wp2_with fail
  refine (LI.out _ blw_).mono ?_
  rintro e w1 ⟨rfl, hb1⟩
  obtain ⟨hc1, hf1⟩ := bcell hb1
  have hz1 := hb1.size
  simp only [World.size_alloc] at hz1
  have y1 : w.heap.size < w1.heap.size := by omega
  have q0 := zci w1 w.heap.size 0 0 (by go_simp)
  have q1 := zci w1 w.heap.size 1 0 (by go_simp)
  have q2 := zfe w1 w.heap.size 0 (by go_simp)
  have q3 := zfe w1 w.heap.size 1 (by go_simp)
  clear hc1 hf1
  go_wp2
  refine bodyPost_ret (v := .tuple #[.agg #[.int .i64 (0), .int .i64 (0)], .int .i64 c]) (by simp only [results, Try.results9]; go_simp) rfl ⟨rfl, blw_⟩
 rw [if_pos h0]
 rw [h0] at LI
 clear hS h0
 obtain ⟨G, hG⟩ : ∃ G, FD.foldS (stepT sqV) .zero (FD.upto (FD.el lo hi hE) n) = G := ⟨_, rfl⟩
 rw [hG]
 have HG := hide hG
 clear hG
 obtain ⟨F, hF⟩ : ∃ F, (if G.2 = 0 then rootR G.1 else (.zero, G.2)) = F := ⟨_, rfl⟩
 rw [hF]
 have HB : Hid (∀ e, ¬ e = 0 → G = (.zero, e) → F = (.zero, e)) := hide (fun e h1 h2 => by rw [← hF, h2, if_neg h1])
 have HO : Hid (∀ r, G = (r, 0) → F = rootR r) := hide (fun r h2 => by rw [← hF, h2, if_pos rfl])
 clear hF
 go_enter Try.func9, Try.ntmps9
 go_wp2_with fail
 refine (LI.out _ blw_).mono ?_
 rintro e w1 ⟨rfl, hb1⟩
 obtain ⟨hc1, hf1⟩ := bcell hb1
 have hz1 := hb1.size
 simp only [World.size_alloc] at hz1
 have y1 : w.heap.size < w1.heap.size := by omega
 have hB1 : Below w.heap.size w w1 := blw_
 have q0 := zci w1 w.heap.size 0 0 (by go_simp)
 have q1 := zci w1 w.heap.size 1 0 (by go_simp)
 have q2 := zfe w1 w.heap.size 0 (by go_simp)
 have q3 := zfe w1 w.heap.size 1 (by go_simp)
 clear hc1 hf1 hb1
 go_wp2_with fail
 generalize hB : w1.heap.size = B at *
 go_loopw [6] (fun s6 wr => ∃ (k : Nat) (r : FD.Sp), k ≤ n ∧ s6 = .int .i64 k ∧ Hid (FD.acc (stepT sqV) .zero (FD.upto (FD.el lo hi hE) k) = some r) ∧ Below w.heap.size w wr ∧ B < wr.heap.size ∧
  wr.cell? ⟨B, 0, none⟩ = some (.int .i64 r.lo) ∧ wr.cell? ⟨B, 1, none⟩ = some (.int .i64 r.hi) ∧ wr.frozen? ⟨B, 0, none⟩ = false ∧ wr.frozen? ⟨B, 1, none⟩ = false ∧
  wr.cell? ⟨w.heap.size, 0, none⟩ = some (.int .i64 0) ∧ wr.cell? ⟨w.heap.size, 1, none⟩ = some (.int .i64 0) ∧ wr.frozen? ⟨w.heap.size, 0, none⟩ = false ∧ wr.frozen? ⟨w.heap.size, 1, none⟩ = false) (fun s6 _ => n - (intOf s6).toNat)
 case atStart => exact ⟨0, .zero, Nat.zero_le _, rfl, hide rfl, blw_, by subst hB; simp, by subst hB; go_simp; rfl, by subst hB; go_simp; rfl, by subst hB; go_simp, by subst hB; go_simp, by go_simp, by go_simp, by go_simp, by go_simp⟩
 case round =>
  obtain ⟨k, r, hk, rfl, HR, hW, hsz, c0, c1, d0, d1, c2, c3, d2, d3⟩ := hrel
  have hww := hW.size
  have z0 : w.heap.size < wr.heap.size := by omega
  have hacc := HR.out
  clear HR
  by_cases hlt : k < n
  ·obtain ⟨ad, hA, hl, hE2⟩ := HS.out wr hW (by omega)
   subst hA
   have t0 := (hE2 k hlt).1
   have t1 := (hE2 k hlt).2
   have hba := block_add ad
   have SQ := hide (rsq_in (FD.el lo hi hE k))
   by_cases hq : (sqV (FD.el lo hi hE k)).2 = 0
   ·have ST := hide (rstepA_in r (sqV (FD.el lo hi hE k)).1)
    by_cases hs : (stepA r (sqV (FD.el lo hi hE k)).1).2 = 0
    ·have HN : Hid (FD.acc (stepT sqV) .zero (FD.upto (FD.el lo hi hE) (k + 1)) = some (stepA r (sqV (FD.el lo hi hE k)).1).1) := hide (by
      have e : stepT sqV r (FD.el lo hi hE k) = ((stepA r (sqV (FD.el lo hi hE k)).1).1, 0) := by unfold stepT; rw [if_pos hq, if_pos hs]
      rw [FD.upto_succ, FD.acc_snoc (stepT sqV) _ _ _ _ hacc, e]; rfl)
     generalize stepA r (sqV (FD.el lo hi hE k)).1 = s at *
     generalize sqV (FD.el lo hi hE k) = q at *
     obtain ⟨⟨s0, s1, s2⟩, se⟩ := s
     obtain ⟨⟨u0, u1, u2⟩, ue⟩ := q
     dsimp only [FD.spv, FD.el] at ST SQ HN hq hs
     subst hq hs
     clear hE2 hacc
     generalize lo k = x0 at *
     generalize hi k = x1 at *
     go_wp2_with fail
     refine (SQ.out _).mono ?_
     rintro e w2 ⟨rfl, hb2⟩
     obtain ⟨hc2, hf2⟩ := bcell hb2
     have hz2 := hb2.size
     have v0 := zci w2 B 0 r.lo (by go_simp)
     have v1 := zci w2 B 1 r.hi (by go_simp)
     have v2 := zfe w2 B 0 (by go_simp)
     have v3 := zfe w2 B 1 (by go_simp)
     have v4 := zci w2 w.heap.size 0 0 (by go_simp)
     have v5 := zci w2 w.heap.size 1 0 (by go_simp)
     have v6 := zfe w2 w.heap.size 0 (by go_simp)
     have v7 := zfe w2 w.heap.size 1 (by go_simp)
     have y2 : w.heap.size < w2.heap.size := by omega
     have y3 : B < w2.heap.size := by omega
     clear hc2 hf2
     go_wp2_with fail
     refine (ST.out _).mono ?_
     rintro e w3 ⟨rfl, hb3⟩
     obtain ⟨hc3, hf3⟩ := bcell hb3
     have hz3 := hb3.size
     simp only [World.size_alloc, World.size_setCell] at hz3
     have x0 := zci w3 B 0 r.lo (by go_simp)
     have x1 := zci w3 B 1 r.hi (by go_simp)
     have x2 := zfe w3 B 0 (by go_simp)
     have x3 := zfe w3 B 1 (by go_simp)
     have x4 := zci w3 w.heap.size 0 0 (by go_simp)
     have x5 := zci w3 w.heap.size 1 0 (by go_simp)
     have x6 := zfe w3 w.heap.size 0 (by go_simp)
     have x7 := zfe w3 w.heap.size 1 (by go_simp)
     have y4 : w.heap.size < w3.heap.size := by omega
     have y5 : B < w3.heap.size := by omega
     clear hc3 hf3
     go_wp2
     go_roundw
     case rel => exact ⟨k + 1, ⟨s0, s1, s2⟩, by omega, by go_num, HN, hW.trans blw_, by simp; omega, by go_simp, by go_simp, by go_simp, by go_simp, by go_simp, by go_simp, by go_simp, by go_simp⟩
     case measure => simp [intOf]; omega
    ·have HN : Hid (F = (.zero, (stepA r (sqV (FD.el lo hi hE k)).1).2)) := hide (by
      have e : stepT sqV r (FD.el lo hi hE k) = (.zero, (stepA r (sqV (FD.el lo hi hE k)).1).2) := by unfold stepT; rw [if_pos hq, if_neg hs]
      obtain ⟨ys, hy⟩ := upto_split (FD.el lo hi hE) hlt
      refine HB.out _ hs ?_
      rw [← HG.out, hy, FD.foldS_bad (stepT sqV) _ _ _ _ _ hacc (by rw [e]; exact hs), e])
     generalize stepA r (sqV (FD.el lo hi hE k)).1 = s at *
     generalize sqV (FD.el lo hi hE k) = q at *
     obtain ⟨⟨s0, s1, s2⟩, se⟩ := s
     obtain ⟨⟨u0, u1, u2⟩, ue⟩ := q
     dsimp only [FD.spv, FD.el] at ST SQ HN hq hs
     subst hq
     have hs1 : (se == 0) = false := by simpa using hs
     have hs2 : (se != 0) = true := by simpa using hs
     have hFe := HN.out
     clear HN HB HO HG
     subst hFe
     clear hE2 hacc
     generalize lo k = x0 at *
     generalize hi k = x1 at *
     go_wp2_with fail
     refine (SQ.out _).mono ?_
     rintro e w2 ⟨rfl, hb2⟩
     obtain ⟨hc2, hf2⟩ := bcell hb2
     have hz2 := hb2.size
     have v0 := zci w2 B 0 r.lo (by go_simp)
     have v1 := zci w2 B 1 r.hi (by go_simp)
     have v2 := zfe w2 B 0 (by go_simp)
     have v3 := zfe w2 B 1 (by go_simp)
     have v4 := zci w2 w.heap.size 0 0 (by go_simp)
     have v5 := zci w2 w.heap.size 1 0 (by go_simp)
     have v6 := zfe w2 w.heap.size 0 (by go_simp)
     have v7 := zfe w2 w.heap.size 1 (by go_simp)
     have y2 : w.heap.size < w2.heap.size := by omega
     have y3 : B < w2.heap.size := by omega
     clear hc2 hf2
     go_wp2_with fail
     refine (ST.out _).mono ?_
     rintro e w3 ⟨rfl, hb3⟩
     obtain ⟨hc3, hf3⟩ := bcell hb3
     have hz3 := hb3.size
     simp only [World.size_alloc, World.size_setCell] at hz3
     have x0 := zci w3 B 0 r.lo (by go_simp)
     have x1 := zci w3 B 1 r.hi (by go_simp)
     have x2 := zfe w3 B 0 (by go_simp)
     have x3 := zfe w3 B 1 (by go_simp)
     have x4 := zci w3 w.heap.size 0 0 (by go_simp)
     have x5 := zci w3 w.heap.size 1 0 (by go_simp)
     have x6 := zfe w3 w.heap.size 0 (by go_simp)
     have x7 := zfe w3 w.heap.size 1 (by go_simp)
     have y4 : w.heap.size < w3.heap.size := by omega
     have y5 : B < w3.heap.size := by omega
     clear hc3 hf3
     go_wp2
     refine bodyPost_ret (v := .tuple #[.agg #[.int .i64 (0), .int .i64 (0)], .int .i64 se]) (by simp only [results, Try.results9]; go_simp) rfl ⟨rfl, blw_⟩
   ·have HN : Hid (F = (.zero, (sqV (FD.el lo hi hE k)).2)) := hide (by
     have e : stepT sqV r (FD.el lo hi hE k) = (.zero, (sqV (FD.el lo hi hE k)).2) := by unfold stepT; rw [if_neg hq]
     obtain ⟨ys, hy⟩ := upto_split (FD.el lo hi hE) hlt
     refine HB.out _ hq ?_
     rw [← HG.out, hy, FD.foldS_bad (stepT sqV) _ _ _ _ _ hacc (by rw [e]; exact hq), e])
    generalize sqV (FD.el lo hi hE k) = q at *
    obtain ⟨⟨u0, u1, u2⟩, ue⟩ := q
    dsimp only [FD.spv, FD.el] at SQ HN hq
    have hs1 : (ue == 0) = false := by simpa using hq
    have hs2 : (ue != 0) = true := by simpa using hq
    have hFe := HN.out
    clear HN HB HO HG hE2 hacc
    subst hFe
    generalize lo k = x0 at *
    generalize hi k = x1 at *
    go_wp2_with fail
    refine (SQ.out _).mono ?_
    rintro e w2 ⟨rfl, hb2⟩
    obtain ⟨hc2, hf2⟩ := bcell hb2
    have hz2 := hb2.size
    have v4 := zci w2 w.heap.size 0 0 (by go_simp)
    have v5 := zci w2 w.heap.size 1 0 (by go_simp)
    have v6 := zfe w2 w.heap.size 0 (by go_simp)
    have v7 := zfe w2 w.heap.size 1 (by go_simp)
    have y2 : w.heap.size < w2.heap.size := by omega
    clear hc2 hf2
    go_wp2
    refine bodyPost_ret (v := .tuple #[.agg #[.int .i64 (0), .int .i64 (0)], .int .i64 ue]) (by simp only [results, Try.results9]; go_simp) rfl ⟨rfl, blw_⟩
  ·obtain rfl : k = n := by omega
   have hFe := HO.out r (by rw [← HG.out]; exact FD.foldS_acc (stepT sqV) _ _ _ hacc)
   have RT := hide (rroot_in r)
   clear HB HO HG hacc
   obtain ⟨R, hR⟩ : ∃ R, rootR r = R := ⟨_, rfl⟩
   rw [hR] at hFe RT
   clear hR
   obtain ⟨⟨r0, r1, r2⟩, re⟩ := R
   subst hFe
   dsimp only [FD.spv] at RT
   go_wp2_with fail
   refine (RT.out _).mono ?_
   rintro e w2 ⟨rfl, hb2⟩
   obtain ⟨hc2, hf2⟩ := bcell hb2
   have hz2 := hb2.size
   have v4 := zci w2 w.heap.size 0 0 (by go_simp)
   have v5 := zci w2 w.heap.size 1 0 (by go_simp)
   have v6 := zfe w2 w.heap.size 0 (by go_simp)
   have v7 := zfe w2 w.heap.size 1 (by go_simp)
   have y2 : w.heap.size < w2.heap.size := by omega
   clear hc2 hf2
   go_wp2
   refine bodyPost_ret (v := .tuple #[.agg #[.int .i64 (r0), .int .i64 (r1)], .int .i64 re]) (by simp only [results, Try.results9]; go_simp) rfl ⟨rfl, blw_⟩
end
section
set_option maxRecDepth 100000
open Go.RowKit
open FP
set_option maxHeartbeats 4000000 in
theorem rdot_any (A : Option Addr) (n cap : Nat) (B' : Option Addr) (m cap' : Nat) (lo hi lo' hi' : Nat → Int) (hE : ∀ j, FD.In64 (lo j) ∧ FD.In64 (hi j)) (hE' : ∀ j, FD.In64 (lo' j) ∧ FD.In64 (hi' j)) (hn : n ≤ 70) (hm : m ≤ 70) (w : World) (hS : SpL w A n lo hi) (hS' : SpL w B' m lo' hi') :
  Calls Try.prog 7 #[.slice A n cap, .slice B' m cap'] w fun e w' => e = .returned (.tuple #[FD.spv (dotR n m lo hi lo' hi' hE hE').1, .int .i64 (dotR n m lo hi lo' hi' hE hE').2]) ∧ Below w.heap.size w w' := by
 have HS := hide (fun W (hb : Below w.heap.size w W) => hS.below hb)
 have HS' := hide (fun W (hb : Below w.heap.size w W) => hS'.below hb)
 have L1 := hide (fun W (hb : Below w.heap.size w W) => rlist_any A n cap lo hi W (hS.below hb) _ rfl)
 have L2 := hide (fun W (hb : Below w.heap.size w W) => rlist_any B' m cap' lo' hi' W (hS'.below hb) _ rfl)
 clear hS hS'
 unfold dotR
 by_cases hl : 64 < n ∨ 64 < m
 ·have h0 : chk2 n m lo hi lo' hi' = 3 := by unfold chk2; rw [if_pos hl]
  rw [h0, if_neg (by decide)]
  dsimp only [FD.spv, FD.Sp.zero]
  clear h0 L1 L2
  rcases Nat.lt_or_ge 64 n with a | a
  ·have g : (64 : Int) < (n : Int) := by omega
   clear hl a
   go_enter Try.func7, Try.ntmps7
   go_wp2
   refine bodyPost_ret (v := .tuple #[.agg #[.int .i64 (0), .int .i64 (0)], .int .i64 3]) (by simp only [results, Try.results7]; go_simp) rfl ⟨rfl, blw_⟩
  ·have g : ¬ (64 : Int) < (n : Int) := by omega
   have g2 : (64 : Int) < (m : Int) := by omega
   clear hl a
   go_enter Try.func7, Try.ntmps7
   go_wp2
   refine bodyPost_ret (v := .tuple #[.agg #[.int .i64 (0), .int .i64 (0)], .int .i64 3]) (by simp only [results, Try.results7]; go_simp) rfl ⟨rfl, blw_⟩
 have hl1 : ¬ (64 : Int) < (n : Int) := by omega
 have hl2 : ¬ (64 : Int) < (m : Int) := by omega
 have c1e : chk1 n lo hi = if lstB n lo hi then 0 else 2 := by unfold chk1; rw [if_neg (by omega)]
 have c2e : chk1 m lo' hi' = if lstB m lo' hi' then 0 else 2 := by unfold chk1; rw [if_neg (by omega)]
 have c3e : chk2 n m lo hi lo' hi' = if lstB n lo hi && lstB m lo' hi' then 0 else 2 := by unfold chk2; rw [if_neg hl]
 rw [c1e] at L1
 rw [c2e] at L2
 rw [c3e]
 clear c1e c2e c3e hl
 cases hv : lstB n lo hi
 ·rw [hv] at L1
  simp only [Bool.false_and, Bool.false_eq_true, if_false] at L1 ⊢
  rw [if_neg (by decide)]
  dsimp only [FD.spv, FD.Sp.zero]
  go_enter Try.func7, Try.ntmps7
  go_wp2_with fail
  refine (L1.out _ blw_).mono ?_
  rintro e w1 ⟨rfl, hb1⟩
  obtain ⟨hc1, hf1⟩ := bcell hb1
  have hz1 := hb1.size
  simp only [World.size_alloc] at hz1
  have y1 : w.heap.size < w1.heap.size := by omega
  have q0 := zci w1 w.heap.size 0 0 (by go_simp)
  have q1 := zci w1 w.heap.size 1 0 (by go_simp)
  have q2 := zfe w1 w.heap.size 0 (by go_simp)
  have q3 := zfe w1 w.heap.size 1 (by go_simp)
  clear hc1 hf1
  go_wp2
  refine bodyPost_ret (v := .tuple #[.agg #[.int .i64 (0), .int .i64 (0)], .int .i64 2]) (by simp only [results, Try.results7]; go_simp) rfl ⟨rfl, blw_⟩
 rw [hv] at L1
 simp only [Bool.true_and, if_true] at L1 ⊢
 cases hv' : lstB m lo' hi'
 ·rw [hv'] at L2
  simp only [Bool.false_eq_true, if_false] at L2 ⊢
  rw [if_neg (by decide)]
  dsimp only [FD.spv, FD.Sp.zero]
  go_enter Try.func7, Try.ntmps7
  go_wp2_with fail
  refine (L1.out _ blw_).mono ?_
  rintro e w1 ⟨rfl, hb1⟩
  obtain ⟨hc1, hf1⟩ := bcell hb1
  have hz1 := hb1.size
  simp only [World.size_alloc] at hz1
  have y1 : w.heap.size < w1.heap.size := by omega
  have hB1 : Below w.heap.size w w1 := blw_
  have q0 := zci w1 w.heap.size 0 0 (by go_simp)
  have q1 := zci w1 w.heap.size 1 0 (by go_simp)
  have q2 := zfe w1 w.heap.size 0 (by go_simp)
  have q3 := zfe w1 w.heap.size 1 (by go_simp)
  clear hc1 hf1
  go_wp2_with fail
  refine (L2.out _ hB1).mono ?_
  rintro e w2 ⟨rfl, hb2⟩
  obtain ⟨hc2, hf2⟩ := bcell hb2
  have hz2 := hb2.size
  have y2 : w.heap.size < w2.heap.size := by omega
  have p0 := zci w2 w.heap.size 0 0 (by go_simp)
  have p1 := zci w2 w.heap.size 1 0 (by go_simp)
  have p2 := zfe w2 w.heap.size 0 (by go_simp)
  have p3 := zfe w2 w.heap.size 1 (by go_simp)
  clear hc2 hf2
  go_wp2
  refine bodyPost_ret (v := .tuple #[.agg #[.int .i64 (0), .int .i64 (0)], .int .i64 2]) (by simp only [results, Try.results7]; go_simp) rfl ⟨rfl, blw_⟩
 rw [hv'] at L2
 simp only [if_true] at L2 ⊢
 clear hv hv'
 by_cases hnm : n = m
 case neg =>
  rw [if_neg hnm]
  have hnI : ((n : Int) != (m : Int)) = true := by simp; omega
  have hnN : (n != m) = true := by simp; omega
  have hnE : (n == m) = false := by simp; omega
  dsimp only [FD.spv, FD.Sp.zero]
  go_enter Try.func7, Try.ntmps7
  go_wp2_with fail
  refine (L1.out _ blw_).mono ?_
  rintro e w1 ⟨rfl, hb1⟩
  obtain ⟨hc1, hf1⟩ := bcell hb1
  have hz1 := hb1.size
  simp only [World.size_alloc] at hz1
  have y1 : w.heap.size < w1.heap.size := by omega
  have hB1 : Below w.heap.size w w1 := blw_
  have q0 := zci w1 w.heap.size 0 0 (by go_simp)
  have q1 := zci w1 w.heap.size 1 0 (by go_simp)
  have q2 := zfe w1 w.heap.size 0 (by go_simp)
  have q3 := zfe w1 w.heap.size 1 (by go_simp)
  clear hc1 hf1
  go_wp2_with fail
  refine (L2.out _ hB1).mono ?_
  rintro e w2 ⟨rfl, hb2⟩
  obtain ⟨hc2, hf2⟩ := bcell hb2
  have hz2 := hb2.size
  have y2 : w.heap.size < w2.heap.size := by omega
  have p0 := zci w2 w.heap.size 0 0 (by go_simp)
  have p1 := zci w2 w.heap.size 1 0 (by go_simp)
  have p2 := zfe w2 w.heap.size 0 (by go_simp)
  have p3 := zfe w2 w.heap.size 1 (by go_simp)
  clear hc2 hf2
  go_wp2
  refine bodyPost_ret (v := .tuple #[.agg #[.int .i64 (0), .int .i64 (0)], .int .i64 2]) (by simp only [results, Try.results7]; go_simp) rfl ⟨rfl, blw_⟩
 subst hnm
 rw [if_pos rfl]
 obtain ⟨G, hG⟩ : ∃ G, FP.foldS (stepT mulV) .zero (FD.upto (elp lo hi lo' hi' hE hE') n) = G := ⟨_, rfl⟩
 rw [hG]
 have HG := hide hG
 clear hG
 go_enter Try.func7, Try.ntmps7
 go_wp2_with fail
 refine (L1.out _ blw_).mono ?_
 rintro e w1 ⟨rfl, hb1⟩
 obtain ⟨hc1, hf1⟩ := bcell hb1
 have hz1 := hb1.size
 simp only [World.size_alloc] at hz1
 have y1 : w.heap.size < w1.heap.size := by omega
 have hB1 : Below w.heap.size w w1 := blw_
 have q0 := zci w1 w.heap.size 0 0 (by go_simp)
 have q1 := zci w1 w.heap.size 1 0 (by go_simp)
 have q2 := zfe w1 w.heap.size 0 (by go_simp)
 have q3 := zfe w1 w.heap.size 1 (by go_simp)
 clear hc1 hf1
 go_wp2_with fail
 refine (L2.out _ hB1).mono ?_
 rintro e w2 ⟨rfl, hb2⟩
 obtain ⟨hc2, hf2⟩ := bcell hb2
 have hz2 := hb2.size
 have y2 : w.heap.size < w2.heap.size := by omega
 have hB2 : Below w.heap.size w w2 := hB1.trans (hb2.mono (by omega))
 have p0 := zci w2 w.heap.size 0 0 (by go_simp)
 have p1 := zci w2 w.heap.size 1 0 (by go_simp)
 have p2 := zfe w2 w.heap.size 0 (by go_simp)
 have p3 := zfe w2 w.heap.size 1 (by go_simp)
 clear hc2 hf2 q0 q1 q2 q3 hb1 hb2 hB1 L1 L2
 go_wp2_with fail
 generalize hB : w2.heap.size = B at *
 go_loopw [7] (fun s7 wr => ∃ (k : Nat) (r : FD.Sp), k ≤ n ∧ s7 = .int .i64 k ∧ Hid (FP.acc (stepT mulV) .zero (FD.upto (elp lo hi lo' hi' hE hE') k) = some r) ∧ Below w.heap.size w wr ∧ B < wr.heap.size ∧
  wr.cell? ⟨B, 0, none⟩ = some (.int .i64 r.lo) ∧ wr.cell? ⟨B, 1, none⟩ = some (.int .i64 r.hi) ∧ wr.frozen? ⟨B, 0, none⟩ = false ∧ wr.frozen? ⟨B, 1, none⟩ = false ∧
  wr.cell? ⟨w.heap.size, 0, none⟩ = some (.int .i64 0) ∧ wr.cell? ⟨w.heap.size, 1, none⟩ = some (.int .i64 0) ∧ wr.frozen? ⟨w.heap.size, 0, none⟩ = false ∧ wr.frozen? ⟨w.heap.size, 1, none⟩ = false) (fun s7 _ => n - (intOf s7).toNat)
 case atStart => exact ⟨0, .zero, Nat.zero_le _, rfl, hide rfl, blw_, by subst hB; simp, by subst hB; go_simp; rfl, by subst hB; go_simp; rfl, by subst hB; go_simp, by subst hB; go_simp, by go_simp, by go_simp, by go_simp, by go_simp⟩
 case round =>
  obtain ⟨k, r, hk, rfl, HR, hW, hsz, c0, c1, d0, d1, c2, c3, d2, d3⟩ := hrel
  have hww := hW.size
  have z0 : w.heap.size < wr.heap.size := by omega
  have hacc := HR.out
  clear HR
  by_cases hlt : k < n
  ·obtain ⟨ad, hA, hl, hE2⟩ := HS.out wr hW (by omega)
   subst hA
   have t0 := (hE2 k hlt).1
   have t1 := (hE2 k hlt).2
   have hba := block_add ad
   obtain ⟨bd, hA, hl', hE3⟩ := HS'.out wr hW (by omega)
   subst hA
   have t2 := (hE3 k hlt).1
   have t3 := (hE3 k hlt).2
   have hbb := block_add bd
   have SQ := hide (rmul_in (elp lo hi lo' hi' hE hE' k))
   obtain ⟨q, hqe⟩ : ∃ q, mulV (elp lo hi lo' hi' hE hE' k) = q := ⟨_, rfl⟩
   rw [hqe] at SQ
   obtain ⟨⟨u0, u1, u2⟩, ue⟩ := q
   have HQ := hide hqe
   have HC := hide hacc
   clear hqe hacc hE2 hE3
   dsimp only [FD.spv, elp, FD.el] at SQ
   generalize hx0 : lo k = x0 at *
   generalize hx1 : hi k = x1 at *
   generalize hx2 : lo' k = x2 at *
   generalize hx3 : hi' k = x3 at *
   have HX := hide (And.intro hx0 (And.intro hx1 (And.intro hx2 hx3)))
   clear hx0 hx1 hx2 hx3
   go_wp2_with fail
   go_cut [8, 9] from 42 to 53 (fun s8 s9 wx => ∃ p : Nat, s8 = .pointer (some ⟨p, 0, none⟩) ∧ s9 = .int .i64 ue ∧ Below w.heap.size w wx ∧ ¬ p = B ∧ ¬ p = w.heap.size ∧ p < wx.heap.size ∧ B < wx.heap.size ∧ wx.cell? ⟨p, 0, none⟩ = some (.int .i64 u0) ∧ wx.cell? ⟨p, 1, none⟩ = some (.int .i64 u1) ∧ wx.cell? ⟨B, 0, none⟩ = some (.int .i64 r.lo) ∧ wx.cell? ⟨B, 1, none⟩ = some (.int .i64 r.hi) ∧ wx.frozen? ⟨B, 0, none⟩ = false ∧ wx.frozen? ⟨B, 1, none⟩ = false ∧ wx.cell? ⟨w.heap.size, 0, none⟩ = some (.int .i64 0) ∧ wx.cell? ⟨w.heap.size, 1, none⟩ = some (.int .i64 0) ∧ wx.frozen? ⟨w.heap.size, 0, none⟩ = false ∧ wx.frozen? ⟨w.heap.size, 1, none⟩ = false)
   case first =>
    go_region_with ((go_at_call 21; refine (SQ.out _).mono ?_; rintro e w3 ⟨rfl, hb3⟩; have hBr : Below wr.heap.size wr w3 := (by first | exact (Below.refl _ wr).drew.trans hb3 | exact ((Below.refl _ wr).drew.alloc (Nat.le_refl _) _).trans (hb3.mono (by simp)) | exact blw_); obtain ⟨hc3, hf3⟩ := bcell hBr; have hz3 := hBr.size; have y3 : w.heap.size < w3.heap.size := (by omega); have y4 : B < w3.heap.size := (by omega); have v0 : w3.cell? ⟨B, 0, none⟩ = some (.int .i64 r.lo) := (by go_simp); have v1 : w3.cell? ⟨B, 1, none⟩ = some (.int .i64 r.hi) := (by go_simp); have v2 : w3.frozen? ⟨B, 0, none⟩ = false := (by go_simp); have v3 : w3.frozen? ⟨B, 1, none⟩ = false := (by go_simp); have v4 : w3.cell? ⟨w.heap.size, 0, none⟩ = some (.int .i64 0) := (by go_simp); have v5 : w3.cell? ⟨w.heap.size, 1, none⟩ = some (.int .i64 0) := (by go_simp); have v6 : w3.frozen? ⟨w.heap.size, 0, none⟩ = false := (by go_simp); have v7 : w3.frozen? ⟨w.heap.size, 1, none⟩ = false := (by go_simp); have hB3 : Below w.heap.size w w3 := hW.trans (hBr.mono (by omega)); clear hc3 hf3; obtain ⟨hc3, hf3⟩ := bcell hb3; have hz4 := hb3.size; try simp only [World.size_alloc] at hz4))
    all_goals go_wp2_with fail
    all_goals go_meet
    all_goals exact ⟨_, rfl, rfl, by first | exact hB3.trans blw_ | (simp at hz4; exact hB3.trans blw_), by first | omega | (simp; omega), by first | omega | (simp; omega), by first | omega | (simp; done) | (simp; omega) | (simp at hz4 ⊢; omega), by first | omega | (simp; done) | (simp; omega), by go_simp, by go_simp, by go_simp, by go_simp, by go_simp, by go_simp, by go_simp, by go_simp, by go_simp, by go_simp⟩
   case rest =>
    obtain ⟨p, rfl, rfl, hWc, np1, np2, zp, zB, b0, b1, j0, j1, j2, j3, j4, j5, j6, j7⟩ := hcut
    have np3 : ¬ B = p := fun h => np1 h.symm
    have np4 : ¬ w.heap.size = p := fun h => np2 h.symm
    have zw : w.heap.size < wc.heap.size := by omega
    clear c0 c1 d0 d1 c2 c3 d2 d3 t0 t1 t2 t3
    have hqe := HQ.out
    have hacc := HC.out
    clear HQ HC SQ HX
    by_cases hq : ue = 0
    ·subst hq
     have ST := hide (rstepA_in r ⟨u0, u1, u2⟩)
     by_cases hs : (stepA r ⟨u0, u1, u2⟩).2 = 0
     ·have HN : Hid (FP.acc (stepT mulV) .zero (FD.upto (elp lo hi lo' hi' hE hE') (k + 1)) = some (stepA r ⟨u0, u1, u2⟩).1) := hide (by
       have e : stepT mulV r (elp lo hi lo' hi' hE hE' k) = ((stepA r ⟨u0, u1, u2⟩).1, 0) := by unfold stepT; rw [hqe, if_pos rfl, if_pos hs]
       rw [FD.upto_succ, FP.acc_snoc (stepT mulV) _ _ _ _ hacc, e]; rfl)
      clear hqe hacc
      generalize stepA r ⟨u0, u1, u2⟩ = s at *
      obtain ⟨⟨s0, s1, s2⟩, se⟩ := s
      dsimp only [FD.spv] at ST HN hs
      subst hs
      go_wp2_with fail
      refine (ST.out _).mono ?_
      rintro e w4 ⟨rfl, hb4⟩
      obtain ⟨hc4, hf4⟩ := bcell hb4
      have hz4 := hb4.size
      try simp only [World.size_alloc, World.size_setCell] at hz4
      have y5 : w.heap.size < w4.heap.size := by omega
      have y6 : B < w4.heap.size := by omega
      have g0 := zci w4 B 0 r.lo (by go_simp)
      have g1 := zci w4 B 1 r.hi (by go_simp)
      have g2 := zfe w4 B 0 (by go_simp)
      have g3 := zfe w4 B 1 (by go_simp)
      have g4 := zci w4 w.heap.size 0 0 (by go_simp)
      have g5 := zci w4 w.heap.size 1 0 (by go_simp)
      have g6 := zfe w4 w.heap.size 0 (by go_simp)
      have g7 := zfe w4 w.heap.size 1 (by go_simp)
      clear hc4 hf4
      go_wp2
      go_roundw
      case rel => exact ⟨k + 1, ⟨s0, s1, s2⟩, by omega, by go_num, HN, hWc.trans blw_, by simp; omega, by go_simp, by go_simp, by go_simp, by go_simp, by go_simp, by go_simp, by go_simp, by go_simp⟩
      case measure => simp [intOf]; omega
     ·have HN : Hid (G = (.zero, (stepA r ⟨u0, u1, u2⟩).2)) := hide (by
       have e : stepT mulV r (elp lo hi lo' hi' hE hE' k) = (.zero, (stepA r ⟨u0, u1, u2⟩).2) := by unfold stepT; rw [hqe, if_pos rfl, if_neg hs]
       obtain ⟨ys, hy⟩ := upto_split (elp lo hi lo' hi' hE hE') hlt
       rw [← HG.out, hy, FP.foldS_bad (stepT mulV) _ _ _ _ _ hacc (by rw [e]; exact hs), e])
      clear hqe hacc
      generalize stepA r ⟨u0, u1, u2⟩ = s at *
      obtain ⟨⟨s0, s1, s2⟩, se⟩ := s
      dsimp only [FD.spv] at ST HN hs
      have hs1 : (se == 0) = false := by simpa using hs
      have hs2 : (se != 0) = true := by simpa using hs
      have hFe := HN.out
      clear HN HG
      subst hFe
      go_wp2_with fail
      refine (ST.out _).mono ?_
      rintro e w4 ⟨rfl, hb4⟩
      obtain ⟨hc4, hf4⟩ := bcell hb4
      have hz4 := hb4.size
      try simp only [World.size_alloc, World.size_setCell] at hz4
      have y5 : w.heap.size < w4.heap.size := by omega
      have y6 : B < w4.heap.size := by omega
      have g0 := zci w4 B 0 r.lo (by go_simp)
      have g1 := zci w4 B 1 r.hi (by go_simp)
      have g2 := zfe w4 B 0 (by go_simp)
      have g3 := zfe w4 B 1 (by go_simp)
      have g4 := zci w4 w.heap.size 0 0 (by go_simp)
      have g5 := zci w4 w.heap.size 1 0 (by go_simp)
      have g6 := zfe w4 w.heap.size 0 (by go_simp)
      have g7 := zfe w4 w.heap.size 1 (by go_simp)
      clear hc4 hf4
      go_wp2
      refine bodyPost_ret (v := .tuple #[.agg #[.int .i64 (0), .int .i64 (0)], .int .i64 se]) (by simp only [results, Try.results7]; go_simp) rfl ⟨rfl, blw_⟩
    ·have hFe : G = (.zero, ue) := by
      have e : stepT mulV r (elp lo hi lo' hi' hE hE' k) = (.zero, ue) := by unfold stepT; rw [hqe, if_neg hq]
      obtain ⟨ys, hy⟩ := upto_split (elp lo hi lo' hi' hE hE') hlt
      rw [← HG.out, hy, FP.foldS_bad (stepT mulV) _ _ _ _ _ hacc (by rw [e]; exact hq), e]
     have hs1 : (ue == 0) = false := by simpa using hq
     have hs2 : (ue != 0) = true := by simpa using hq
     clear hqe hacc HG
     subst hFe
     go_wp2
     refine bodyPost_ret (v := .tuple #[.agg #[.int .i64 (0), .int .i64 (0)], .int .i64 ue]) (by simp only [results, Try.results7]; go_simp) rfl ⟨rfl, blw_⟩
  ·obtain rfl : k = n := by omega
   have hFe := FP.foldS_acc (stepT mulV) _ _ _ hacc
   rw [HG.out] at hFe
   clear HG hacc
   subst hFe
   go_wp2
   refine bodyPost_ret (v := .tuple #[.agg #[.int .i64 (r.lo), .int .i64 (r.hi)], .int .i64 0]) (by simp only [results, Try.results7]; go_simp) rfl ⟨rfl, blw_⟩
end
end Go.Proofs.Ytdcolicajjmffaa
