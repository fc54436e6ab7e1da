/- Packed: SwT. -/
import Derived.Test.YtacpahebbnnckaaRows
import Derived.ProofKit
import Derived.Carry
import Derived.Lib.SmallJoins
import Derived.Test.YtacpahebbnnckaaP30
import Derived.Test.YtacpahebbnnckaaP32
set_option linter.unusedVariables false
set_option linter.unusedSimpArgs false
namespace Go.Proofs.Ytacpahebbnnckaa
section
open Go.RowKit
open FP
namespace Sw
def pt (x : Int) (h : FD.In64 x) : FD.Sp := ⟨x, x, h, h⟩
theorem both (A : Option Addr) (n cap : Nat) (lo hi : Nat → Int) (hE : ∀ j, FD.In64 (lo j) ∧ FD.In64 (hi j)) (f : Int) (arm : FD.Sp) (limit want : Int) (hl : FD.In64 limit) (hw : FD.In64 want) (h20 : n ≤ 20) :
  ∃ x y u v e : Int, (∀ w, SpL w A n lo hi → Calls Try.prog 16 #[.slice A n cap, .int .i64 f, FD.spv arm, .int .i64 limit, .int .i64 want] w fun r w' => r = .returned (.tuple #[.agg #[.int .i64 (x), .int .i64 (y)], .agg #[.int .i64 (u), .int .i64 (v)], .int .i64 e]) ∧ Below w.heap.size w w') ∧
   (∀ w, SpL w A n lo hi → Calls Try.prog 17 #[.slice A n cap, .int .i64 f, FD.spv arm, .int .i64 limit, .int .i64 want] w fun r w' => r = .returned (.tuple #[.agg #[.int .i64 (x), .int .i64 (y)], .agg #[.int .i64 (u), .int .i64 (v)], .int .i64 e]) ∧ Below w.heap.size w w') := by
 have none (e : Int) (P : ∀ w, SpL w A n lo hi → Calls Try.prog 16 #[.slice A n cap, .int .i64 f, FD.spv arm, .int .i64 limit, .int .i64 want] w fun r w' => r = .returned (none3 e) ∧ Below w.heap.size w w')
   (D : ∀ w, SpL w A n lo hi → Calls Try.prog 17 #[.slice A n cap, .int .i64 f, FD.spv arm, .int .i64 limit, .int .i64 want] w fun r w' => r = .returned (none3 e) ∧ Below w.heap.size w w') : ∃ x y u v e : Int, (∀ w, SpL w A n lo hi → Calls Try.prog 16 #[.slice A n cap, .int .i64 f, FD.spv arm, .int .i64 limit, .int .i64 want] w fun r w' => r = .returned (.tuple #[.agg #[.int .i64 (x), .int .i64 (y)], .agg #[.int .i64 (u), .int .i64 (v)], .int .i64 e]) ∧ Below w.heap.size w w') ∧
   (∀ w, SpL w A n lo hi → Calls Try.prog 17 #[.slice A n cap, .int .i64 f, FD.spv arm, .int .i64 limit, .int .i64 want] w fun r w' => r = .returned (.tuple #[.agg #[.int .i64 (x), .int .i64 (y)], .agg #[.int .i64 (u), .int .i64 (v)], .int .i64 e]) ∧ Below w.heap.size w w') := ⟨0, 0, 0, 0, e, P, D⟩
 by_cases h12 : 12 < n
 ·exact none 3 (fun w hS => sw_long A n cap lo hi hE f arm limit want hl hw w hS h12 h20) (fun w hS => rw_long A n cap lo hi hE f arm limit want hl hw w hS h12 h20)
 replace h12 : n ≤ 12 := by omega
 have ord : orderI arm.lo arm.hi 0 0 = 1 ∨ orderI arm.lo arm.hi 0 0 ≤ 0 := by unfold orderI; split <;> (try split) <;> (try split) <;> omega
 -- what both refuse
 have bad2 : (lstB n lo hi = false ∨ orderI arm.lo arm.hi 0 0 ≤ 0 ∨ limit < 0 ∨ numB want = false ∨ f < 0 ∨ 2 ^ n ≤ f) → ∀ w, SpL w A n lo hi → Calls Try.prog 17 #[.slice A n cap, .int .i64 f, FD.spv arm, .int .i64 limit, .int .i64 want] w fun r w' => r = .returned (none3 2) ∧ Below w.heap.size w w' := by
  intro hb w hS
  cases h0 : lstB n lo hi
  ·cases h3 : numB want
   ·exact rw_a1 A n cap lo hi hE f arm limit want hl hw w hS h12 h0 h3
   ·by_cases hL : limit < 0
    ·exact rw_a2 A n cap lo hi hE f arm limit want hl hw w hS h12 h0 h3 hL
    ·exact rw_a3 A n cap lo hi hE f arm limit want hl hw w hS h12 h0 h3 (by omega)
  ·rcases ord with h1 | h1
   ·cases h3 : numB want
    ·exact rw_n1 A n cap lo hi hE f arm limit want hl hw w hS h12 h0 h1 h3
    ·by_cases hL : limit < 0
     ·exact rw_n2 A n cap lo hi hE f arm limit want hl hw w hS h12 h0 h1 h3 hL
     ·by_cases hF : f < 0
      ·exact rw_f1 A n cap lo hi hE f arm limit want hl hw w hS h12 h0 h1 h3 (by omega) hF
      ·refine rw_f2 A n cap lo hi hE f arm limit want hl hw w hS h12 h0 h1 h3 (by omega) (by omega) ?_
       rcases hb with h | h | h | h | h | h
       ·rw [h0] at h; cases h
       ·omega
       ·exact absurd h hL
       ·rw [h3] at h; cases h
       ·exact absurd h hF
       ·exact h
   ·cases h3 : numB want
    ·exact rw_s1 A n cap lo hi hE f arm limit want hl hw w hS h12 h0 h1 h3
    ·by_cases hL : limit < 0
     ·exact rw_s2 A n cap lo hi hE f arm limit want hl hw w hS h12 h0 h1 h3 hL
     ·exact rw_s3 A n cap lo hi hE f arm limit want hl hw w hS h12 h0 h1 h3 (by omega)
 have badP : (posB n lo hi = false ∨ orderI arm.lo arm.hi 0 0 ≤ 0 ∨ limit < 0 ∨ numB want = false ∨ f < 0 ∨ 2 ^ n ≤ f) → ∀ w, SpL w A n lo hi → Calls Try.prog 16 #[.slice A n cap, .int .i64 f, FD.spv arm, .int .i64 limit, .int .i64 want] w fun r w' => r = .returned (none3 2) ∧ Below w.heap.size w w' := by
  intro hb w hS
  cases h0 : posB n lo hi
  ·exact sw_bad0 A n cap lo hi hE f arm limit want hl hw w hS h12 h0
  ·rcases ord with h1 | h1
   ·by_cases hL : limit < 0
    ·exact sw_bad2 A n cap lo hi hE f arm limit want hl hw w hS h12 h0 (by rw [h1]; rfl) hL
    ·cases h3 : numB want
     ·exact sw_bad3 A n cap lo hi hE f arm limit want hl hw w hS h12 h0 (by rw [h1]; rfl) (by omega) h3
     ·refine sw_bad4 A n cap lo hi hE f arm limit want hl hw w hS h12 h0 (by rw [h1]; rfl) (by omega) h3 (decide_eq_false ?_)
      rcases hb with h | h | h | h | h | h
      ·rw [h0] at h; cases h
      ·omega
      ·exact absurd h hL
      ·rw [h3] at h; cases h
      ·omega
      ·omega
   ·exact sw_bad1 A n cap lo hi hE f arm limit want hl hw w hS h12 h0 (by simp only [beq_eq_false_iff_ne, ne_eq]; omega)
 cases h0 : lstB n lo hi
 ·have hp : posB n lo hi = false := by
   cases h : posB n lo hi
   ·rfl
   ·have : lstB n lo hi = true := List.all_eq_true.2 fun j hj => (pos_lst h j (List.mem_range.1 hj)).1
    rw [h0] at this
    cases this
  exact none 2 (badP (.inl hp)) (bad2 (.inl h0))
 by_cases good : orderI arm.lo arm.hi 0 0 = 1 ∧ 0 ≤ limit ∧ numB want = true ∧ 0 ≤ f ∧ f < 2 ^ n
 ·obtain ⟨h1, hL, h3, hF, hG⟩ := good
  have hn : FD.In64 (-limit) := ⟨by have := hl.2; omega, by omega⟩
  have h1' : (orderI arm.lo arm.hi 0 0 == 1) = true := by rw [h1]; rfl
  have vw : vB want want = true := by
   have := of_decide_eq_true h3
   exact vB_t this (Int.le_refl _)
  have vl : vB limit limit = true := vB_t (by omega) (Int.le_refl _)
  have vn : vB (-limit) (-limit) = true := vB_t (by have := hl.2; omega) (Int.le_refl _)
  have D := fun (RV : Value) (r1 : ∀ k, k < n → lo k < 0 → RV = none3 2) (r2 : (∀ j, j < n → 0 ≤ lo j) → (smD f n lo hi hE).2 = 0 → (smD f n lo hi hE).1.lo ≤ 0 → RV = none3 10) (r3 : (∀ j, j < n → 0 ≤ lo j) → ¬ ((smD f n lo hi hE).2 = 0 ∧ (smD f n lo hi hE).1.lo ≤ 0) → RV = told (finD (smD f n lo hi hE).2 (smD f n lo hi hE).1 arm (pt want hw) (pt limit hl) (pt (-limit) hn))) w hS =>
   rw_main A n cap lo hi hE f arm limit want hl hw w hS h12 h0 h1 hL h3 hF hG (pt want hw) (pt limit hl) (pt (-limit) hn) rfl rfl rfl rfl rfl rfl _ _ _ _ _ _ _ rfl rfl rfl rfl rfl rfl rfl RV r1 r2 r3
  cases hp : posB n lo hi
  ·have no : ¬ ∀ j, j < n → 0 ≤ lo j := fun h => by
    have : posB n lo hi = true := List.all_eq_true.2 fun j hj => by
     have hj' := List.mem_range.1 hj
     have := h j hj'
     simp [lst_at h0 hj', this]
    rw [hp] at this
    cases this
   exact none 2 (badP (.inl hp)) (D (none3 2) (fun _ _ _ => rfl) (fun h => absurd h no) (fun h => absurd h no))
  ·have all : ∀ j, j < n → 0 ≤ lo j := fun j hj => (pos_lst hp j hj).2
   obtain ⟨hP2, hP1⟩ := smP_smD f n lo hi hE
   have vs := smD_valid f lo hi hE n all
   by_cases e0 : (smD f n lo hi hE).2 = 0
   ·have hs : smP f n lo hi hE = ((smD f n lo hi hE).1, 0) := Prod.ext (hP1 e0) (hP2.trans e0)
    obtain ⟨v1, v2⟩ := vs e0
    have P := fun w hS => sw_main A n cap lo hi hE f arm limit want hl hw w hS h12 hp h1' hL h3 ⟨hF, hG⟩ (smD f n lo hi hE).1 (pt want hw) (pt limit hl) (pt (-limit) hn) hs rfl rfl rfl rfl rfl rfl _ _ _ _ _ _ _ rfl rfl rfl rfl rfl rfl rfl
    have P' : ∀ w, SpL w A n lo hi → Calls Try.prog 16 #[.slice A n cap, .int .i64 f, FD.spv arm, .int .i64 limit, .int .i64 want] w fun r w' => r = .returned (told (finP (smD f n lo hi hE).1 arm (pt want hw) (pt limit hl) (pt (-limit) hn))) ∧ Below w.heap.size w w' := P
    clear P
    by_cases hz : (smD f n lo hi hE).1.lo ≤ 0
    ·have e10 : (stD (pt want hw) (smD f n lo hi hE).1).2 = 10 := stD_zero vw v1 (by omega)
     rw [finP_bad1 (by rw [e10]; decide), e10] at P'
     exact none 10 P' (D (none3 10) (fun k hk hn => absurd (all k hk) (by omega)) (fun _ _ _ => rfl) (fun _ h => absurd ⟨e0, hz⟩ h))
    ·have D' := D (told (finP (smD f n lo hi hE).1 arm (pt want hw) (pt limit hl) (pt (-limit) hn))) (fun k hk hn => absurd (all k hk) (by omega)) (fun _ _ h => absurd h hz) (fun _ _ => by rw [e0]; exact fin_same _ _ _ _ _ vl vn)
     exact ⟨_, _, _, _, _, P', D'⟩
   ·have P : ∀ w, SpL w A n lo hi → Calls Try.prog 16 #[.slice A n cap, .int .i64 f, FD.spv arm, .int .i64 limit, .int .i64 want] w fun r w' => r = .returned (none3 (smP f n lo hi hE).2) ∧ Below w.heap.size w w' := fun w hS => sw_sum A n cap lo hi hE f arm limit want hl hw w hS h12 hp h1' hL h3 ⟨hF, hG⟩ (by rw [hP2]; exact e0)
    rw [hP2] at P
    exact none _ P (D (none3 (smD f n lo hi hE).2) (fun k hk hn => absurd (all k hk) (by omega)) (fun _ h => absurd h e0) (fun _ _ => (finD_bad e0).symm))
 ·have hb : orderI arm.lo arm.hi 0 0 ≤ 0 ∨ limit < 0 ∨ numB want = false ∨ f < 0 ∨ 2 ^ n ≤ f := by
   rcases ord with h1 | h1
   ·by_cases hL : limit < 0
    ·exact .inr (.inl hL)
    ·cases h3 : numB want
     ·exact .inr (.inr (.inl rfl))
     ·by_cases hF : f < 0
      ·exact .inr (.inr (.inr (.inl hF)))
      ·by_cases hG : 2 ^ n ≤ f
       ·exact .inr (.inr (.inr (.inr hG)))
       ·exact absurd ⟨h1, by omega, h3, by omega, by omega⟩ good
   ·exact .inl h1
  exact none 2 (badP (.inr hb)) (bad2 (.inr hb))
theorem zero_in : FD.In64 0 := ⟨by decide, by decide⟩
theorem clamp_in (x : Int) : FD.In64 (SX.clampI x) := SX.clampI_R64 x
theorem add_off2 (a : Addr) (k j : Nat) (hj : 0 < j) : (a.add k).add j = ⟨a.block, (a.add k).off + j, none⟩ := by
 unfold Addr.add
 rw [if_neg (by omega)]
 split <;> rfl
theorem list_is {v : Value} {W : World} (h : v = .slice none 0 0 ∨ ∃ (ad : Addr) (n cap : Nat) (el : Nat → Int), v = .slice (some ad) n cap ∧ n ≤ maxLen ∧ ∀ i, i < n → ad.block < W.heap.size ∧ ∀ j, j < 2 → W.cell? (ad.add (i * 2 + j)) = some (.int .i64 (el (i * 2 + j))) ∧ I64 (el (i * 2 + j))) :
  ∃ (A : Option Addr) (n cap : Nat) (lo hi : Nat → Int), v = .slice A n cap ∧ (∀ j, FD.In64 (lo j) ∧ FD.In64 (hi j)) ∧ SpL W A n lo hi := by
 rcases h with rfl | ⟨ad, n, cap, el, rfl, hm, hc⟩
 ·exact ⟨none, 0, 0, fun _ => 0, fun _ => 0, rfl, fun _ => ⟨zero_in, zero_in⟩, fun h => absurd h (by omega)⟩
 ·refine ⟨some ad, n, cap, fun j => SX.clampI (el (j * 2)), fun j => SX.clampI (el (j * 2 + 1)), rfl, fun j => ⟨clamp_in _, clamp_in _⟩, fun h0 => ⟨ad, rfl, (hc 0 h0).1, fun j hj => ?_⟩⟩
  obtain ⟨c0, i0⟩ := (hc j hj).2 0 (by omega)
  obtain ⟨c1, i1⟩ := (hc j hj).2 1 (by omega)
  rw [Nat.add_zero] at c0 i0
  rw [← addadd, add_off2 _ _ _ (by omega)] at c1
  dsimp only
  rw [SX.clampI_eq i0, SX.clampI_eq i1]
  exact ⟨c0, c1⟩
end Sw
namespace lawSteerSwivels
open Go.ChangeShapes Go.WideShapes Go.ChangeAt Go.Joins
set_option maxHeartbeats 1000000 in
set_option maxRecDepth 100000 in
theorem walk (v0 : Value) (f al ah limit want : Int) (i1 : I64 f) (i2 : I64 al) (i3 : I64 ah) (i4 : I64 limit) (i5 : I64 want) (w : World)
  (h : v0 = .slice none 0 0 ∨ ∃ (ad : Addr) (n cap : Nat) (el : Nat → Int), v0 = .slice (some ad) n cap ∧ n ≤ maxLen ∧ ∀ i, i < n → ad.block < w.heap.size ∧ ∀ j, j < 2 → w.cell? (ad.add (i * 2 + j)) = some (.int .i64 (el (i * 2 + j))) ∧ I64 (el (i * 2 + j))) :
  Calls Try.prog 5 #[v0, .int .i64 f, .agg #[.int .i64 (al), .int .i64 (ah)], .int .i64 limit, .int .i64 want] w fun e w' => e = .returned (.bool true) ∧ Below w.heap.size w w' := by
 obtain ⟨A, n, cap, lo, hi, rfl, hE, hS⟩ := Sw.list_is h
 clear h
 by_cases h20 : 20 < n
 ·clear hS hE
  go_enter Try.func5, Try.ntmps5
  go_wp2
  go_ret
  exact ⟨rfl, blw_⟩
 ·obtain ⟨x, y, u, v, e, P0, D0⟩ := Sw.both A n cap lo hi hE f ⟨al, ah, i2, i3⟩ limit want i4 i5 (by omega)
  have HS := hide (fun W (hb : Below w.heap.size w W) => hS.below hb)
  have P := hide P0
  have D := hide D0
  clear P0 D0
  dsimp only [FD.spv] at P D
  clear hS hE i1 i2 i3 i4 i5
  go_enter Try.func5, Try.ntmps5
  go_wp2_with fail
  refine (P.out _ (HS.out _ blw_)).mono ?_
  rintro e w1 ⟨rfl, hb1⟩
  obtain ⟨hc1, hf1⟩ := bcell hb1
  have hz1 := hb1.size
  try simp only [World.size_alloc, World.size_setCell] at hz1
  try have : w.heap.size < w1.heap.size := by omega
  try have : w.heap.size < w1.heap.size + 1 := by omega
  try have : w.heap.size < w1.heap.size + 1 + 1 := by omega
  try have : w.heap.size ≤ w1.heap.size := by omega
  have c1_0_0 := zci w1 w.heap.size 0 (al) (by go_simp)
  have c1_0_1 := zci w1 w.heap.size 1 (ah) (by go_simp)
  clear hc1 hf1
  go_wp2_with fail
  refine (D.out _ (HS.out _ blw_)).mono ?_
  rintro e w2 ⟨rfl, hb2⟩
  obtain ⟨hc2, hf2⟩ := bcell hb2
  have hz2 := hb2.size
  try simp only [World.size_alloc, World.size_setCell] at hz2
  try have : w.heap.size < w2.heap.size := by omega
  try have : w.heap.size < w2.heap.size + 1 := by omega
  try have : w.heap.size < w2.heap.size + 1 + 1 := by omega
  try have : w.heap.size ≤ w2.heap.size := by omega
  try have : w1.heap.size < w2.heap.size := by omega
  try have : w1.heap.size < w2.heap.size + 1 := by omega
  try have : w1.heap.size < w2.heap.size + 1 + 1 := by omega
  try have : w1.heap.size ≤ w2.heap.size := by omega
  try have : w1.heap.size + 1 < w2.heap.size := by omega
  try have : w1.heap.size + 1 < w2.heap.size + 1 := by omega
  try have : w1.heap.size + 1 < w2.heap.size + 1 + 1 := by omega
  try have : w1.heap.size + 1 ≤ w2.heap.size := by omega
  have c2_0_0 := zci w2 w.heap.size 0 (al) (by go_simp)
  have c2_0_1 := zci w2 w.heap.size 1 (ah) (by go_simp)
  have c2_1_0 := zci w2 w1.heap.size 0 (x) (by go_simp)
  have c2_1_1 := zci w2 w1.heap.size 1 (y) (by go_simp)
  have c2_2_0 := zci w2 (w1.heap.size + 1) 0 (u) (by go_simp)
  have c2_2_1 := zci w2 (w1.heap.size + 1) 1 (v) (by go_simp)
  clear hc2 hf2 c1_0_0 c1_0_1
  go_wp2
  go_ret
  exact ⟨rfl, blw_⟩
theorem own : ownKnob Try.prog.godebug = none := by kernel_rfl
theorem laidOut : laidOutB Try.prog = true := by kernel_rfl
theorem cellsSpan : Try.prog.cellsOf 24 = 2 := by kernel_rfl
set_option maxRecDepth 100000 in
theorem lifted (os : Os) (started : os.Started) (H : Type) (enc : TypeId × Value → H) :
  ReturnsInHanded {} Try.checked os 5 .any (Rows.steerSwivelsSpec.pre6 enc Try.prog Try.f5 Rows.steerSwivelsRow.domain false) (Rows.steerSwivelsSpec.post enc Try.prog Try.f5 false true false false) := by
 refine returnsInHanded_of_change (C := Try.checked) own started (by kernel_rfl) Try.func5
  (ChangeSpec.witness6 (enc := enc) (C := Try.checked) false ⟨#[], #[.slice none 0 0, .int .i64 0, .agg #[.int .i64 0, .int .i64 0], .int .i64 0, .int .i64 0], []⟩ 8 (by kernel_rfl) (by kernel_rfl) (by kernel_rfl) (by kernel_rfl)) ?_
 intro W base args ds gs before hval0 hW _ _
 have hval : ∀ (j : Nat) t v, Try.f5.params[j]? = some t → args[j]? = some v → Value.okWide Try.prog W .any base t v := hval0
 have hW' := hW
 obtain ⟨p, q, hA0, hV, rfl, _, _⟩ := hW
 have hA : DataW.TrodAll enc Try.prog W 0 (fun _ => true) true Try.f5.params.toList args.toList ds p := hA0
 rw [Try.params5] at hA hval
 obtain ⟨v0, vs0, d0, ds0, p0, q0, hargs, rfl, rfl, h0, r0⟩ := trodAll_cons hA
 obtain ⟨v1, vs1, d1, ds1, p1, q1, rfl, rfl, rfl, h1, r1⟩ := trodAll_cons r0
 obtain ⟨v2, vs2, d2, ds2, p2, q2, rfl, rfl, rfl, h2, r2⟩ := trodAll_cons r1
 obtain ⟨v3, vs3, d3, ds3, p3, q3, rfl, rfl, rfl, h3, r3⟩ := trodAll_cons r2
 obtain ⟨v4, vs4, d4, ds4, p4, q4, rfl, rfl, rfl, h4, r4⟩ := trodAll_cons r3
 obtain ⟨rfl, rfl, rfl⟩ := trodAll_nil r4
 obtain rfl : args = #[v0, v1, v2, v3, v4] := by cases args; simp_all
 obtain ⟨rfl, rfl⟩ := trodVars_none hV
 have hsl0 := okWide_slice Try.underlying50 (hval 0 50 v0 rfl rfl)
 have hol0 := open_list (m := 2) Try.underlying50 (by kernel_rfl) (by kernel_rfl) (by decide) hsl0 h0
 obtain ⟨x1, rfl, rfl, rfl, wf1⟩ := open_int Try.underlying3 (hval 1 3 v1 rfl rfl) h1
 obtain ⟨c20, c21, y20, y21, m2, rfl, rfl, rfl, hy20, hy21⟩ := open_agg2 Try.underlying24 (by kernel_rfl) cellsSpan (hval 2 24 v2 rfl rfl) h2
 obtain ⟨x20, e20, rfl, wf20⟩ := DataW.trod_int Try.underlying22 hy20
 obtain ⟨x21, e21, rfl, wf21⟩ := DataW.trod_int Try.underlying22 hy21
 simp at e20 e21
 subst e20 e21
 have rd2 : ∀ (W' : World) (sp : Nat → Bool), DataW.Trod enc Try.prog W' 0 sp true 24 (.agg #[.int .i64 x20, .int .i64 x21]) (.agg [.lit (.int .i64 x20), .lit (.int .i64 x21)]) [] := fun W' sp =>
  shut_agg2 (y0 := (.lit (.int .i64 x20), [])) (y1 := (.lit (.int .i64 x21), [])) Try.underlying24 (by kernel_rfl) cellsSpan ⟨1, by simp [DataW.trod, Try.underlying22, wf20]⟩ ⟨1, by simp [DataW.trod, Try.underlying22, wf21]⟩
 obtain ⟨x3, rfl, rfl, rfl, wf3⟩ := open_int Try.underlying22 (hval 3 22 v3 rfl rfl) h3
 obtain ⟨x4, rfl, rfl, rfl, wf4⟩ := open_int Try.underlying22 (hval 4 22 v4 rfl rfl) h4
 clear hA0 hval0
 simp only [List.append_nil] at hW'
 refine (walk v0 x1 x20 x21 x3 x4 (i64_of_wf wf1) (i64_of_wf wf20) (i64_of_wf wf21) (i64_of_wf wf3) (i64_of_wf wf4) W hol0).mono fun e W' ⟨he, hb⟩ => ?_
 subst he
 exact ⟨_, rfl, _, _, _, [], _, [], hW', (trodAll_cons_mk (shut_bool Try.underlying4 _) trodAll_mk0), (trodAll_cons_mk (Below.trod laidOut (by kernel_rfl) (of_decide_eq_true (by kernel_rfl)) h0 hb (fun x hx => hW'.lt x (by simp [hx]))) (trodAll_cons_mk (shut_int Try.underlying3 wf1) (trodAll_cons_mk (rd2 _ _) (trodAll_cons_mk (shut_int Try.underlying22 wf3) (trodAll_cons_mk (shut_int Try.underlying22 wf4) trodAll_mk0))))), rfl, hb.frame _, fun h => by cases h⟩
theorem holds : Rows.SteerSwivelsSaid :=
 OpenClaim.holds_of_wide 5 Try.f5 rfl rfl rfl rfl rfl rfl rfl ⟨rfl, rfl, rfl, rfl, rfl⟩ rfl rfl rfl rfl rfl (by kernel_rfl) Try.func5 (by kernel_rfl)
  (of_decide_eq_true (by kernel_rfl)) (by unfold Func.isWrapper; first | (rw [if_pos (by decide +kernel)]; kernel_rfl) | (rw [if_neg (by decide +kernel)]; exact ⟨rfl, rfl⟩))
  (fun os started H enc _ => lifted os started H enc)
#print axioms holds
end lawSteerSwivels
end
end Go.Proofs.Ytacpahebbnnckaa
