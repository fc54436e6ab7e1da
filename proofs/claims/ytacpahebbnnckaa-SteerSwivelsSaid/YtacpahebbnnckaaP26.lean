/- Packed: LiB LiN. -/
import Derived.BigQuiet
import Derived.Test.YtacpahebbnnckaaP1
import Derived.Test.YtacpahebbnnckaaP9
import Derived.Test.YtacpahebbnnckaaP25
set_option linter.unusedVariables false
set_option linter.unusedSimpArgs false
namespace Go.Proofs.Ytacpahebbnnckaa
section
set_option maxRecDepth 100000
open Go.RowKit
open FP
theorem chkN_one (n : Nat) (lo hi : Nat → Int) : chkN 1 (fun _ => n) (fun _ => lo) (fun _ => hi) = chk1 n lo hi := by
 unfold chkN chk1 longB allB
 by_cases h : 64 < n
 ·rw [if_pos h, if_neg]; simp; omega
 ·rw [if_neg h, if_pos (by simp; omega)]; simp
def stepA (s x : FD.Sp) : FD.Sp × Int :=
 (⟨okI (vB s.lo s.hi && vB x.lo x.hi) (oLo (s.lo + x.lo) (s.hi + x.hi)), okI (vB s.lo s.hi && vB x.lo x.hi) (oHi (s.lo + x.lo) (s.hi + x.hi)), SX.okI_R64 (SX.oLo_R64 _ _), SX.okI_R64 (SX.oHi_R64 _ _)⟩, errE (vB s.lo s.hi && vB x.lo x.hi) (oE (s.lo + x.lo) (s.hi + x.hi)))
theorem stepA_in (s x : FD.Sp) (W : World) : Calls Try.prog 94 #[FD.spv s, FD.spv x] W fun e W' => e = .returned (.tuple #[FD.spv (stepA s x).1, .int .i64 (stepA s x).2]) ∧ Below W.heap.size W W' :=
 add_any s.lo s.hi x.lo x.hi s.ok.1 s.ok.2 x.ok.1 x.ok.2 W
theorem rstepA_in (s x : FD.Sp) (W : World) : Calls Try.prog 71 #[FD.spv s, FD.spv x] W fun e W' => e = .returned (.tuple #[FD.spv (stepA s x).1, .int .i64 (stepA s x).2]) ∧ Below W.heap.size W W' :=
 radd_any s.lo s.hi x.lo x.hi s.ok.1 s.ok.2 x.ok.1 x.ok.2 W
theorem own_elems {w : World} {g n : Nat} {lo hi : Nat → Int} (h : SpL w (some ⟨g, 0, none⟩) n lo hi) : FD.Elems w g 0 n lo hi := fun j hj => by
 obtain ⟨ad, e, hl, hE⟩ := h (by omega)
 injection e with e
 subst e
 have := hE j hj
 have ea : (⟨g, 0, none⟩ : Addr).add (j * 2) = ⟨g, 0 + j * 2, none⟩ := by unfold Addr.add; split <;> simp_all
 rw [ea] at this
 exact this
theorem values_fn (A : Option Addr) (n cap : Nat) (w : World) : Calls Try.prog 93 #[.slice A n cap] w fun e w' => e = .returned (.func (.func 120) #[] #[.pointer (some ⟨w.heap.size, 0, none⟩)]) ∧ w' = w.alloc (.cells #[.slice A n cap] 50) := by
 go_enter Try.func93, Try.ntmps93
 go_wp2
 go_ret
 exact ⟨rfl, rfl⟩
theorem chk_one (A : Option Addr) (n cp : Nat) (lo hi : Nat → Int) (hE : ∀ j, FD.In64 (lo j) ∧ FD.In64 (hi j)) (hn : n ≤ 70) (b cap : Nat) (W : World) (hb : b < W.heap.size) (hS : SpL W A n lo hi) (hc : W.cell? ⟨b, 0, none⟩ = some (.slice A n cp)) :
  Calls Try.prog 91 #[.slice (some ⟨b, 0, none⟩) 1 cap] W fun e w' => e = .returned (.int .i64 (chk1 n lo hi)) ∧ Below W.heap.size W w' :=
 checkLists_any 1 b cap (fun _ => A) (fun _ => n) (fun _ => cp) (fun _ => lo) (fun _ => hi) (by omega) (fun _ => hE) W hb (fun i h => by
  obtain rfl : i = 0 := by omega
  exact hc) (fun _ _ => hS) (fun _ => hn) (chk1 n lo hi) (chkN_one n lo hi)
def sumR (n : Nat) (lo hi : Nat → Int) (hE : ∀ j, FD.In64 (lo j) ∧ FD.In64 (hi j)) : FD.Sp × Int := if chk1 n lo hi = 0 then FD.foldS stepA .zero (FD.upto (FD.el lo hi hE) n) else (.zero, chk1 n lo hi)
set_option maxHeartbeats 1000000 in
theorem sum_own (g n cp : Nat) (lo hi : Nat → Int) (hE : ∀ j, FD.In64 (lo j) ∧ FD.In64 (hi j)) (hn : n ≤ 70) (w : World) (hg : g < w.heap.size) (hS : SpL w (some ⟨g, 0, none⟩) n lo hi) :
  Calls Try.prog 47 #[.slice (some ⟨g, 0, none⟩) n cp] w fun e w' => e = .returned (.tuple #[FD.spv (sumR n lo hi hE).1, .int .i64 (sumR n lo hi hE).2]) ∧ Below w.heap.size w w' := by
 have CK := hide (chk_one (some ⟨g, 0, none⟩) n cp lo hi hE hn)
 have HS := hide (fun W (hb : Below w.heap.size w W) => hS.below hb)
 clear hS
 unfold sumR
 by_cases h0 : chk1 n lo hi = 0
 ·rw [if_pos h0]
  rw [h0] at CK
  have FA := hide (fun Bs W hBs hc hI => FD.folda_any stepA stepA_in Bs (.slice (some ⟨g, 0, none⟩) n cp) n lo hi hE (by omega) .zero W hBs hc hI)
  generalize FD.foldS stepA .zero (FD.upto (FD.el lo hi hE) n) = F at *
  obtain ⟨⟨f0, f1, f2⟩, fe⟩ := F
  dsimp only [FD.spv] at FA ⊢
  clear h0
  go_enter Try.func47, Try.ntmps47
  go_wp2_with fail
  refine (CK.out _ _ _ (by simp) (HS.out _ blw_) (by go_simp)).mono ?_
  rintro e w1 ⟨rfl, hb1⟩
  obtain ⟨hc1, hf1⟩ := bcell hb1
  have hz1 := hb1.size
  simp only [World.size_alloc] at hz1
  have y1 : w.heap.size < w1.heap.size := by omega
  have hB1 : Below w.heap.size w w1 := blw_
  go_wp2_with (go_at_call 93; refine (values_fn _ _ _ _).mono ?_; rintro e w2 ⟨rfl, rfl⟩)
  refine (FA.out _ _ (by simp) (by go_simp) (.inr ⟨g, 0, cp, rfl, (by simp; omega), own_elems (HS.out _ blw_)⟩)).mono ?_
  rintro e w3 ⟨rfl, hb3⟩
  obtain ⟨hc3, hf3⟩ := bcell hb3
  have hz3 := hb3.size
  simp only [World.size_alloc] at hz3
  have y3 : w.heap.size < w3.heap.size := by omega
  have q0 := zci w3 w.heap.size 0 0 (by go_simp)
  have q1 := zci w3 w.heap.size 1 0 (by go_simp)
  have q2 := zfe w3 w.heap.size 0 (by go_simp)
  have q3 := zfe w3 w.heap.size 1 (by go_simp)
  clear hc3 hf3
  go_wp2
  refine bodyPost_ret (v := .tuple #[.agg #[.int .i64 (f0), .int .i64 (f1)], .int .i64 fe]) (by simp only [results, Try.results47]; go_simp) rfl ⟨rfl, blw_⟩
 ·rw [if_neg h0]
  have hne : (chk1 n lo hi == 0) = false := by simpa using h0
  have hne2 : (chk1 n lo hi != 0) = true := by simpa using h0
  generalize chk1 n lo hi = c at *
  dsimp only [FD.spv, FD.Sp.zero]
  go_enter Try.func47, Try.ntmps47
  go_wp2_with fail
  refine (CK.out _ _ _ (by simp) (HS.out _ blw_) (by go_simp)).mono ?_
  rintro e w1 ⟨rfl, hb1⟩
  obtain ⟨hc1, hf1⟩ := bcell hb1
  have hz1 := hb1.size
  simp only [World.size_alloc] at hz1
  have y1 : w.heap.size < w1.heap.size := by omega
  have q0 := zci w1 w.heap.size 0 0 (by go_simp)
  have q1 := zci w1 w.heap.size 1 0 (by go_simp)
  have q2 := zfe w1 w.heap.size 0 (by go_simp)
  have q3 := zfe w1 w.heap.size 1 (by go_simp)
  clear hc1 hf1
  go_wp2
  refine bodyPost_ret (v := .tuple #[.agg #[.int .i64 (0), .int .i64 (0)], .int .i64 c]) (by simp only [results, Try.results47]; go_simp) rfl ⟨rfl, blw_⟩
end
section
set_option maxRecDepth 100000
open Go.RowKit
open FP
set_option maxHeartbeats 1000000 in
theorem sum_nil (lo hi : Nat → Int) (hE : ∀ j, FD.In64 (lo j) ∧ FD.In64 (hi j)) (w : World) :
  Calls Try.prog 47 #[.slice none 0 0] w fun e w' => e = .returned (.tuple #[FD.spv (sumR 0 lo hi hE).1, .int .i64 (sumR 0 lo hi hE).2]) ∧ Below w.heap.size w w' := by
 have hS : SpL w none 0 lo hi := fun h => absurd h (by omega)
 have CK := hide (chk_one none 0 0 lo hi hE (by omega))
 have HS := hide (fun W (hb : Below w.heap.size w W) => hS.below hb)
 clear hS
 unfold sumR
 by_cases h0 : chk1 0 lo hi = 0
 ·rw [if_pos h0]
  rw [h0] at CK
  have FA := hide (fun Bs W hBs hc hI => FD.folda_any stepA stepA_in Bs (.slice none 0 0) 0 lo hi hE (by omega) .zero W hBs hc hI)
  generalize FD.foldS stepA .zero (FD.upto (FD.el lo hi hE) 0) = F at *
  obtain ⟨⟨f0, f1, f2⟩, fe⟩ := F
  dsimp only [FD.spv] at FA ⊢
  clear h0
  go_enter Try.func47, Try.ntmps47
  go_wp2_with fail
  refine (CK.out _ _ _ (by simp) (HS.out _ blw_) (by go_simp)).mono ?_
  rintro e w1 ⟨rfl, hb1⟩
  obtain ⟨hc1, hf1⟩ := bcell hb1
  have hz1 := hb1.size
  simp only [World.size_alloc] at hz1
  have y1 : w.heap.size < w1.heap.size := by omega
  have hB1 : Below w.heap.size w w1 := blw_
  go_wp2_with (go_at_call 93; refine (values_fn _ _ _ _).mono ?_; rintro e w2 ⟨rfl, rfl⟩)
  refine (FA.out _ _ (by simp) (by go_simp) (.inl ⟨rfl, rfl⟩)).mono ?_
  rintro e w3 ⟨rfl, hb3⟩
  obtain ⟨hc3, hf3⟩ := bcell hb3
  have hz3 := hb3.size
  simp only [World.size_alloc] at hz3
  have y3 : w.heap.size < w3.heap.size := by omega
  have q0 := zci w3 w.heap.size 0 0 (by go_simp)
  have q1 := zci w3 w.heap.size 1 0 (by go_simp)
  have q2 := zfe w3 w.heap.size 0 (by go_simp)
  have q3 := zfe w3 w.heap.size 1 (by go_simp)
  clear hc3 hf3
  go_wp2
  refine bodyPost_ret (v := .tuple #[.agg #[.int .i64 (f0), .int .i64 (f1)], .int .i64 fe]) (by simp only [results, Try.results47]; go_simp) rfl ⟨rfl, blw_⟩
 ·exact absurd rfl h0
end
end Go.Proofs.Ytacpahebbnnckaa
