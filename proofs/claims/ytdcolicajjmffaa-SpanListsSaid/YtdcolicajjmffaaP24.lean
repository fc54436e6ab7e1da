/- Packed: LiB. -/
import Derived.BigQuiet
import Derived.Test.YtdcolicajjmffaaP1
import Derived.Test.YtdcolicajjmffaaP7
import Derived.Test.YtdcolicajjmffaaP23
set_option linter.unusedVariables false
set_option linter.unusedSimpArgs false
namespace Go.Proofs.Ytdcolicajjmffaa
section
set_option maxRecDepth 100000
open Go.RowKit
open FP
theorem chkN_one (n : Nat) (lo hi : Nat → Int) : chkN 1 (fun _ => n) (fun _ => lo) (fun _ => hi) = chk1 n lo hi := by
 unfold chkN chk1 longB allB
 by_cases h : 64 < n
 ·rw [if_pos h, if_neg]; simp; omega
 ·rw [if_neg h, if_pos (by simp; omega)]; simp
theorem chkN_two (n m : Nat) (lo hi lo' hi' : Nat → Int) : chkN 2 (fun i => if i = 0 then n else m) (fun i => if i = 0 then lo else lo') (fun i => if i = 0 then hi else hi') = if 64 < n ∨ 64 < m then 3 else if lstB n lo hi && lstB m lo' hi' then 0 else 2 := by
 unfold chkN longB allB
 by_cases h : 64 < n ∨ 64 < m
 ·rw [if_pos h, if_neg]; simp [List.range_succ]; omega
 ·rw [if_neg h, if_pos]
  ·simp [List.range_succ]
  ·simp [List.range_succ]; omega
def stepA (s x : FD.Sp) : FD.Sp × Int :=
 (⟨okI (vB s.lo s.hi && vB x.lo x.hi) (oLo (s.lo + x.lo) (s.hi + x.hi)), okI (vB s.lo s.hi && vB x.lo x.hi) (oHi (s.lo + x.lo) (s.hi + x.hi)), SX.okI_R64 (SX.oLo_R64 _ _), SX.okI_R64 (SX.oHi_R64 _ _)⟩, errE (vB s.lo s.hi && vB x.lo x.hi) (oE (s.lo + x.lo) (s.hi + x.hi)))
theorem stepA_in (s x : FD.Sp) (W : World) : Calls Try.prog 14 #[FD.spv s, FD.spv x] W fun e W' => e = .returned (.tuple #[FD.spv (stepA s x).1, .int .i64 (stepA s x).2]) ∧ Below W.heap.size W W' :=
 add_any s.lo s.hi x.lo x.hi s.ok.1 s.ok.2 x.ok.1 x.ok.2 W
theorem rstepA_in (s x : FD.Sp) (W : World) : Calls Try.prog 16 #[FD.spv s, FD.spv x] W fun e W' => e = .returned (.tuple #[FD.spv (stepA s x).1, .int .i64 (stepA s x).2]) ∧ Below W.heap.size W W' :=
 radd_any s.lo s.hi x.lo x.hi s.ok.1 s.ok.2 x.ok.1 x.ok.2 W
theorem own_elems {w : World} {g n : Nat} {lo hi : Nat → Int} (h : SpL w (some ⟨g, 0, none⟩) n lo hi) : FD.Elems w g 0 n lo hi := fun j hj => by
 obtain ⟨ad, e, hl, hE⟩ := h (by omega)
 injection e with e
 subst e
 have := hE j hj
 have ea : (⟨g, 0, none⟩ : Addr).add (j * 2) = ⟨g, 0 + j * 2, none⟩ := by unfold Addr.add; split <;> simp_all
 rw [ea] at this
 exact this
theorem values_fn (A : Option Addr) (n cap : Nat) (w : World) : Calls Try.prog 13 #[.slice A n cap] w fun e w' => e = .returned (.func (.func 28) #[] #[.pointer (some ⟨w.heap.size, 0, none⟩)]) ∧ w' = w.alloc (.cells #[.slice A n cap] 22) := by
 go_enter Try.func13, Try.ntmps13
 go_wp2
 go_ret
 exact ⟨rfl, rfl⟩
theorem chk_one (A : Option Addr) (n cp : Nat) (lo hi : Nat → Int) (hE : ∀ j, FD.In64 (lo j) ∧ FD.In64 (hi j)) (hn : n ≤ 70) (b cap : Nat) (W : World) (hb : b < W.heap.size) (hS : SpL W A n lo hi) (hc : W.cell? ⟨b, 0, none⟩ = some (.slice A n cp)) :
  Calls Try.prog 11 #[.slice (some ⟨b, 0, none⟩) 1 cap] W fun e w' => e = .returned (.int .i64 (chk1 n lo hi)) ∧ Below W.heap.size W w' :=
 checkLists_any 1 b cap (fun _ => A) (fun _ => n) (fun _ => cp) (fun _ => lo) (fun _ => hi) (by omega) (fun _ => hE) W hb (fun i h => by
  obtain rfl : i = 0 := by omega
  exact hc) (fun _ _ => hS) (fun _ => hn) (chk1 n lo hi) (chkN_one n lo hi)
def chk2 (n m : Nat) (lo hi lo' hi' : Nat → Int) : Int := if 64 < n ∨ 64 < m then 3 else if lstB n lo hi && lstB m lo' hi' then 0 else 2
theorem chk_two (A B : Option Addr) (n m cp cp' : Nat) (lo hi lo' hi' : Nat → Int) (hE : ∀ j, FD.In64 (lo j) ∧ FD.In64 (hi j)) (hE' : ∀ j, FD.In64 (lo' j) ∧ FD.In64 (hi' j)) (hn : n ≤ 70) (hm : m ≤ 70) (b cap : Nat) (W : World) (hb : b < W.heap.size) (hS : SpL W A n lo hi) (hS' : SpL W B m lo' hi')
  (hc : W.cell? ⟨b, 0, none⟩ = some (.slice A n cp)) (hc' : W.cell? ⟨b, 1, none⟩ = some (.slice B m cp')) :
  Calls Try.prog 11 #[.slice (some ⟨b, 0, none⟩) 2 cap] W fun e w' => e = .returned (.int .i64 (chk2 n m lo hi lo' hi')) ∧ Below W.heap.size W w' :=
 checkLists_any 2 b cap (fun i => if i = 0 then A else B) (fun i => if i = 0 then n else m) (fun i => if i = 0 then cp else cp') (fun i => if i = 0 then lo else lo') (fun i => if i = 0 then hi else hi') (by omega)
  (fun i j => by by_cases h : i = 0 <;> simp only [h, if_true, if_false] <;> first | exact hE j | exact hE' j) W hb (fun i h => by
   match i, h with
   | 0, _ => exact hc
   | 1, _ => exact hc') (fun i h => by
   match i, h with
   | 0, _ => exact hS
   | 1, _ => exact hS') (fun i => by by_cases h : i = 0 <;> simp only [h, if_true, if_false] <;> assumption) _ (chkN_two n m lo hi lo' hi')
def sumR (n : Nat) (lo hi : Nat → Int) (hE : ∀ j, FD.In64 (lo j) ∧ FD.In64 (hi j)) : FD.Sp × Int := if chk1 n lo hi = 0 then FD.foldS stepA .zero (FD.upto (FD.el lo hi hE) n) else (.zero, chk1 n lo hi)
set_option maxHeartbeats 1000000 in
theorem sum_own (g n cp : Nat) (lo hi : Nat → Int) (hE : ∀ j, FD.In64 (lo j) ∧ FD.In64 (hi j)) (hn : n ≤ 70) (w : World) (hg : g < w.heap.size) (hS : SpL w (some ⟨g, 0, none⟩) n lo hi) :
  Calls Try.prog 4 #[.slice (some ⟨g, 0, none⟩) n cp] w fun e w' => e = .returned (.tuple #[FD.spv (sumR n lo hi hE).1, .int .i64 (sumR n lo hi hE).2]) ∧ Below w.heap.size w w' := by
 have CK := hide (chk_one (some ⟨g, 0, none⟩) n cp lo hi hE hn)
 have HS := hide (fun W (hb : Below w.heap.size w W) => hS.below hb)
 clear hS
 unfold sumR
 by_cases h0 : chk1 n lo hi = 0
 ·rw [if_pos h0]
  rw [h0] at CK
  have FA := hide (fun Bs W hBs hc hI => FD.folda_any stepA stepA_in Bs (.slice (some ⟨g, 0, none⟩) n cp) n lo hi hE (by omega) .zero W hBs hc hI)
  generalize FD.foldS stepA .zero (FD.upto (FD.el lo hi hE) n) = F at *
  obtain ⟨⟨f0, f1, f2⟩, fe⟩ := F
  dsimp only [FD.spv] at FA ⊢
  clear h0
  go_enter Try.func4, Try.ntmps4
  go_wp2_with fail
  refine (CK.out _ _ _ (by simp) (HS.out _ blw_) (by go_simp)).mono ?_
  rintro e w1 ⟨rfl, hb1⟩
  obtain ⟨hc1, hf1⟩ := bcell hb1
  have hz1 := hb1.size
  simp only [World.size_alloc] at hz1
  have y1 : w.heap.size < w1.heap.size := by omega
  have hB1 : Below w.heap.size w w1 := blw_
  go_wp2_with (go_at_call 13; refine (values_fn _ _ _ _).mono ?_; rintro e w2 ⟨rfl, rfl⟩)
  refine (FA.out _ _ (by simp) (by go_simp) (.inr ⟨g, 0, cp, rfl, (by simp; omega), own_elems (HS.out _ blw_)⟩)).mono ?_
  rintro e w3 ⟨rfl, hb3⟩
  obtain ⟨hc3, hf3⟩ := bcell hb3
  have hz3 := hb3.size
  simp only [World.size_alloc] at hz3
  have y3 : w.heap.size < w3.heap.size := by omega
  have q0 := zci w3 w.heap.size 0 0 (by go_simp)
  have q1 := zci w3 w.heap.size 1 0 (by go_simp)
  have q2 := zfe w3 w.heap.size 0 (by go_simp)
  have q3 := zfe w3 w.heap.size 1 (by go_simp)
  clear hc3 hf3
  go_wp2
  refine bodyPost_ret (v := .tuple #[.agg #[.int .i64 (f0), .int .i64 (f1)], .int .i64 fe]) (by simp only [results, Try.results4]; go_simp) rfl ⟨rfl, blw_⟩
 ·rw [if_neg h0]
  have hne : (chk1 n lo hi == 0) = false := by simpa using h0
  have hne2 : (chk1 n lo hi != 0) = true := by simpa using h0
  generalize chk1 n lo hi = c at *
  dsimp only [FD.spv, FD.Sp.zero]
  go_enter Try.func4, Try.ntmps4
  go_wp2_with fail
  refine (CK.out _ _ _ (by simp) (HS.out _ blw_) (by go_simp)).mono ?_
  rintro e w1 ⟨rfl, hb1⟩
  obtain ⟨hc1, hf1⟩ := bcell hb1
  have hz1 := hb1.size
  simp only [World.size_alloc] at hz1
  have y1 : w.heap.size < w1.heap.size := by omega
  have q0 := zci w1 w.heap.size 0 0 (by go_simp)
  have q1 := zci w1 w.heap.size 1 0 (by go_simp)
  have q2 := zfe w1 w.heap.size 0 (by go_simp)
  have q3 := zfe w1 w.heap.size 1 (by go_simp)
  clear hc1 hf1
  go_wp2
  refine bodyPost_ret (v := .tuple #[.agg #[.int .i64 (0), .int .i64 (0)], .int .i64 c]) (by simp only [results, Try.results4]; go_simp) rfl ⟨rfl, blw_⟩
end
end Go.Proofs.Ytdcolicajjmffaa
