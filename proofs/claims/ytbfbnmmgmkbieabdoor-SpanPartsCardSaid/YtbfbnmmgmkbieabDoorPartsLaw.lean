/- The law of the parts of layer 1: halves, hulls and common parts. -/
import Derived.Test.YtbfbnmmgmkbieabDoorAlive
import Derived.Test.YtbfbnmmgmkbieabDoorMid2
import Derived.Test.YtbfbnmmgmkbieabDoorCards
import Derived.Test.YtbfbnmmgmkbieabDoorTie
import Derived.ProofKit
import Derived.LaidMore
import Derived.Lib.SmallJoins
import Derived.SevenTiedAt
set_option linter.unusedVariables false
set_option linter.unusedSimpArgs false
namespace Go.Proofs.YtbfbnmmgmkbieabDoor
open Go.RowKit
namespace lawSpanParts
open Go.ChangeShapes Go.WideShapes Go.ChangeAt Go.Joins
theorem within_t {al ah bl bh : Int} (h : -9223372036854775807 ≤ bl ∧ bl ≤ al ∧ al ≤ ah ∧ ah ≤ bh) : withinB al ah bl bh = true := by
  simp [withinB, vB]; omega
theorem vB_t {lo hi : Int} (h : vB lo hi = true) : -9223372036854775807 ≤ lo ∧ lo ≤ hi := by simpa [vB] using h
theorem t_vB {lo hi : Int} (h : -9223372036854775807 ≤ lo ∧ lo ≤ hi) : vB lo hi = true := by simpa [vB] using h
theorem walk_bad (al ah bl bh : Int) (i0 : I64 al) (i1 : I64 bl) (w : World) (h : vB al ah = false ∨ vB bl bh = false) :
    Calls Tryd.prog 6 #[.agg #[.int .i64 (al), .int .i64 (ah)], .agg #[.int .i64 (bl), .int .i64 (bh)]] w fun e w' => e = .returned (.bool true) ∧ Below w.heap.size w w' := by
  have AL := hide alive_any
  cases va : vB al ah
  · have CA : Hid (∀ W, Calls Tryd.prog 17 #[.agg #[.int .i64 (al), .int .i64 (ah)]] W fun e w' => e = .returned (.int .i64 2) ∧ Below W.heap.size W w') := hide (fun W => by have h := check_any al ah i0.1 W; unfold chkI at h; rw [va] at h; exact h)
    clear h va i0 i1
    go_enter Tryd.func6, Tryd.ntmps6
    go_wp2_with fail
    refine (AL.out _).mono ?_
    rintro e w1 ⟨rfl, hb1⟩
    obtain ⟨hc1, hf1⟩ := bcell hb1
    have hz1 := hb1.size
    try simp only [World.size_alloc, World.size_setCell] at hz1
    try have : w.heap.size < w1.heap.size := by omega
    try have : w.heap.size ≤ w1.heap.size := by omega
    try have : w.heap.size + 1 < w1.heap.size := by omega
    try have : w.heap.size + 1 ≤ w1.heap.size := by omega
    have c1_0_0 : w1.cell? ⟨w.heap.size, 0, none⟩ = some (.int .i64 (al)) := by go_simp
    have c1_0_1 : w1.cell? ⟨w.heap.size, 1, none⟩ = some (.int .i64 (ah)) := by go_simp
    have c1_1_0 : w1.cell? ⟨w.heap.size + 1, 0, none⟩ = some (.int .i64 (bl)) := by go_simp
    have c1_1_1 : w1.cell? ⟨w.heap.size + 1, 1, none⟩ = some (.int .i64 (bh)) := by go_simp
    clear hc1 hf1
    go_wp2_with fail
    refine (CA.out _).mono ?_
    rintro e w2 ⟨rfl, hb2⟩
    obtain ⟨hc2, hf2⟩ := bcell hb2
    have hz2 := hb2.size
    try simp only [World.size_alloc, World.size_setCell] at hz2
    try have : w.heap.size < w2.heap.size := by omega
    try have : w.heap.size ≤ w2.heap.size := by omega
    try have : w.heap.size + 1 < w2.heap.size := by omega
    try have : w.heap.size + 1 ≤ w2.heap.size := by omega
    have c2_0_0 : w2.cell? ⟨w.heap.size, 0, none⟩ = some (.int .i64 (al)) := by go_simp
    have c2_0_1 : w2.cell? ⟨w.heap.size, 1, none⟩ = some (.int .i64 (ah)) := by go_simp
    have c2_1_0 : w2.cell? ⟨w.heap.size + 1, 0, none⟩ = some (.int .i64 (bl)) := by go_simp
    have c2_1_1 : w2.cell? ⟨w.heap.size + 1, 1, none⟩ = some (.int .i64 (bh)) := by go_simp
    clear hc2 hf2 c1_0_0 c1_0_1 c1_1_0 c1_1_1
    go_wp2
    go_ret
    exact ⟨rfl, (by repeat (first | with_reducible exact Below.refl _ _ | with_reducible refine bdrew ?_ | ((with_reducible first | refine bset ?_ ?_ | refine ball ?_ ?_ | refine bth (by assumption) ?_ ?_); first | omega | (simp <;> omega))))⟩
  · have CA : Hid (∀ W, Calls Tryd.prog 17 #[.agg #[.int .i64 (al), .int .i64 (ah)]] W fun e w' => e = .returned (.int .i64 0) ∧ Below W.heap.size W w') := hide (fun W => by have h := check_any al ah i0.1 W; unfold chkI at h; rw [va] at h; exact h)
    have vb : vB bl bh = false := by rcases h with h | h; (rw [va] at h; cases h); exact h
    have CB : Hid (∀ W, Calls Tryd.prog 17 #[.agg #[.int .i64 (bl), .int .i64 (bh)]] W fun e w' => e = .returned (.int .i64 2) ∧ Below W.heap.size W w') := hide (fun W => by have h := check_any bl bh i1.1 W; unfold chkI at h; rw [vb] at h; exact h)
    clear h va vb i0 i1
    go_enter Tryd.func6, Tryd.ntmps6
    go_wp2_with fail
    refine (AL.out _).mono ?_
    rintro e w1 ⟨rfl, hb1⟩
    obtain ⟨hc1, hf1⟩ := bcell hb1
    have hz1 := hb1.size
    try simp only [World.size_alloc, World.size_setCell] at hz1
    try have : w.heap.size < w1.heap.size := by omega
    try have : w.heap.size ≤ w1.heap.size := by omega
    try have : w.heap.size + 1 < w1.heap.size := by omega
    try have : w.heap.size + 1 ≤ w1.heap.size := by omega
    have c1_0_0 : w1.cell? ⟨w.heap.size, 0, none⟩ = some (.int .i64 (al)) := by go_simp
    have c1_0_1 : w1.cell? ⟨w.heap.size, 1, none⟩ = some (.int .i64 (ah)) := by go_simp
    have c1_1_0 : w1.cell? ⟨w.heap.size + 1, 0, none⟩ = some (.int .i64 (bl)) := by go_simp
    have c1_1_1 : w1.cell? ⟨w.heap.size + 1, 1, none⟩ = some (.int .i64 (bh)) := by go_simp
    clear hc1 hf1
    go_wp2_with fail
    refine (CA.out _).mono ?_
    rintro e w2 ⟨rfl, hb2⟩
    obtain ⟨hc2, hf2⟩ := bcell hb2
    have hz2 := hb2.size
    try simp only [World.size_alloc, World.size_setCell] at hz2
    try have : w.heap.size < w2.heap.size := by omega
    try have : w.heap.size ≤ w2.heap.size := by omega
    try have : w.heap.size + 1 < w2.heap.size := by omega
    try have : w.heap.size + 1 ≤ w2.heap.size := by omega
    have c2_0_0 : w2.cell? ⟨w.heap.size, 0, none⟩ = some (.int .i64 (al)) := by go_simp
    have c2_0_1 : w2.cell? ⟨w.heap.size, 1, none⟩ = some (.int .i64 (ah)) := by go_simp
    have c2_1_0 : w2.cell? ⟨w.heap.size + 1, 0, none⟩ = some (.int .i64 (bl)) := by go_simp
    have c2_1_1 : w2.cell? ⟨w.heap.size + 1, 1, none⟩ = some (.int .i64 (bh)) := by go_simp
    clear hc2 hf2 c1_0_0 c1_0_1 c1_1_0 c1_1_1
    go_wp2_with fail
    refine (CB.out _).mono ?_
    rintro e w3 ⟨rfl, hb3⟩
    obtain ⟨hc3, hf3⟩ := bcell hb3
    have hz3 := hb3.size
    try simp only [World.size_alloc, World.size_setCell] at hz3
    try have : w.heap.size < w3.heap.size := by omega
    try have : w.heap.size ≤ w3.heap.size := by omega
    try have : w.heap.size + 1 < w3.heap.size := by omega
    try have : w.heap.size + 1 ≤ w3.heap.size := by omega
    have c3_0_0 : w3.cell? ⟨w.heap.size, 0, none⟩ = some (.int .i64 (al)) := by go_simp
    have c3_0_1 : w3.cell? ⟨w.heap.size, 1, none⟩ = some (.int .i64 (ah)) := by go_simp
    have c3_1_0 : w3.cell? ⟨w.heap.size + 1, 0, none⟩ = some (.int .i64 (bl)) := by go_simp
    have c3_1_1 : w3.cell? ⟨w.heap.size + 1, 1, none⟩ = some (.int .i64 (bh)) := by go_simp
    clear hc3 hf3 c2_0_0 c2_0_1 c2_1_0 c2_1_1
    go_wp2
    go_ret
    exact ⟨rfl, (by repeat (first | with_reducible exact Below.refl _ _ | with_reducible refine bdrew ?_ | ((with_reducible first | refine bset ?_ ?_ | refine ball ?_ ?_ | refine bth (by assumption) ?_ ?_); first | omega | (simp <;> omega))))⟩
set_option maxHeartbeats 8000000 in
set_option maxRecDepth 100000 in
theorem walk_good (al ah bl bh : Int) (i0 : I64 al) (j0 : I64 ah) (i1 : I64 bl) (j1 : I64 bh) (w : World) (va : vB al ah = true) (vb : vB bl bh = true) :
    Calls Tryd.prog 6 #[.agg #[.int .i64 (al), .int .i64 (ah)], .agg #[.int .i64 (bl), .int .i64 (bh)]] w fun e w' => e = .returned (.bool true) ∧ Below w.heap.size w w' := by
  have AL := hide alive_any
  obtain ⟨a0, a1⟩ := vB_t va
  obtain ⟨b0, b1⟩ := vB_t vb
  have CA : Hid (∀ W, Calls Tryd.prog 17 #[.agg #[.int .i64 (al), .int .i64 (ah)]] W fun e w' => e = .returned (.int .i64 0) ∧ Below W.heap.size W w') := hide (fun W => by have h := check_any al ah i0.1 W; unfold chkI at h; rw [va] at h; exact h)
  have CB : Hid (∀ W, Calls Tryd.prog 17 #[.agg #[.int .i64 (bl), .int .i64 (bh)]] W fun e w' => e = .returned (.int .i64 0) ∧ Below W.heap.size W w') := hide (fun W => by have h := check_any bl bh i1.1 W; unfold chkI at h; rw [vb] at h; exact h)
  obtain ⟨m, hm⟩ : ∃ m, m = midI al ah := ⟨_, rfl⟩
  have mb : al ≤ m ∧ m ≤ ah := by unfold midI at hm; omega
  have im : I64 m := by obtain ⟨_, _⟩ := i0; obtain ⟨_, _⟩ := j0; constructor <;> omega
  have SP : Hid (∀ W, Calls Tryd.prog 33 #[.agg #[.int .i64 (al), .int .i64 (ah)]] W fun e w' => e = .returned (.tuple #[.agg #[.int .i64 (al), .int .i64 (m)], .agg #[.int .i64 (m), .int .i64 (ah)], .int .i64 0]) ∧ Below W.heap.size W w') := hide (fun W => by have h := split_any al ah i0 j0 W; rw [va, ← hm] at h; exact h)
  have MI : Hid (∀ W, Calls Tryd.prog 34 #[.agg #[.int .i64 (al), .int .i64 (ah)]] W fun e w' => e = .returned (.tuple #[.int .i64 m, .int .i64 0]) ∧ Below W.heap.size W w') := hide (fun W => by have h := mid_any al ah i0 j0 W; rw [va, ← hm] at h; exact h)
  have HL : Hid (∀ W, Calls Tryd.prog 24 #[.agg #[.int .i64 (al), .int .i64 (m)], .agg #[.int .i64 (m), .int .i64 (ah)]] W fun e w' => e = .returned (.tuple #[.agg #[.int .i64 (al), .int .i64 (ah)], .int .i64 0]) ∧ Below W.heap.size W w') := hide (fun W => by
    have h := hull_any al m m ah i0 im W
    rw [t_vB ⟨a0, mb.1⟩, t_vB (lo := m) (hi := ah) ⟨by omega, mb.2⟩, show mi al m = al by unfold mi; split <;> omega, show mx m ah = ah by unfold mx; split <;> omega] at h
    exact h)
  obtain ⟨hl, hhl⟩ : ∃ x, x = mi al bl := ⟨_, rfl⟩
  obtain ⟨hh, hhh⟩ : ∃ x, x = mx ah bh := ⟨_, rfl⟩
  have HU : Hid (∀ W, Calls Tryd.prog 24 #[.agg #[.int .i64 (al), .int .i64 (ah)], .agg #[.int .i64 (bl), .int .i64 (bh)]] W fun e w' => e = .returned (.tuple #[.agg #[.int .i64 (hl), .int .i64 (hh)], .int .i64 0]) ∧ Below W.heap.size W w') := hide (fun W => by have h := hull_any al ah bl bh i0 i1 W; rw [va, vb, ← hhl, ← hhh] at h; exact h)
  have hlb : hl ≤ al ∧ hl ≤ bl ∧ (hl = al ∨ hl = bl) := by rw [hhl]; unfold mi; split <;> omega
  have hhb : ah ≤ hh ∧ bh ≤ hh := by rw [hhh]; unfold mx; split <;> omega
  have W3 : Hid (∀ W, Calls Tryd.prog 32 #[.agg #[.int .i64 (al), .int .i64 (ah)], .agg #[.int .i64 (hl), .int .i64 (hh)]] W fun e w' => e = .returned (.bool true) ∧ Below W.heap.size W w') := hide (fun W => by have h := within_any al ah hl hh (by omega) (by omega) W; rw [within_t (by omega)] at h; exact h)
  have W4 : Hid (∀ W, Calls Tryd.prog 32 #[.agg #[.int .i64 (bl), .int .i64 (bh)], .agg #[.int .i64 (hl), .int .i64 (hh)]] W fun e w' => e = .returned (.bool true) ∧ Below W.heap.size W w') := hide (fun W => by have h := within_any bl bh hl hh (by omega) (by omega) W; rw [within_t (by omega)] at h; exact h)
  have O1 := fun W => order_any al ah bl bh i0.1 i1.1 W
  have O2 := fun W => order_any bl bh al ah i1.1 i0.1 W
  simp only [orderI, va, vb, Bool.and_self, if_true] at O1 O2
  have MT := fun W => meet_any al ah bl bh i0 i1 W
  rw [va, vb] at MT
  cases hn : meN al ah bl bh
  · have hn' : ¬ (mi ah bh < mx al bl) := by simpa [meN] using hn
    have cmn : bl ≤ ah ∧ al ≤ bh := by unfold mi mx at hn'; split at hn' <;> split at hn' <;> omega
    rw [hn] at MT
    rw [if_neg (by omega), if_neg (by omega)] at O1 O2
    obtain ⟨el, hel⟩ : ∃ x, x = mx al bl := ⟨_, rfl⟩
    obtain ⟨eh, heh⟩ : ∃ x, x = mi ah bh := ⟨_, rfl⟩
    rw [← hel, ← heh] at MT
    have elb : al ≤ el ∧ bl ≤ el := by rw [hel]; unfold mx; split <;> omega
    have ehb : eh ≤ ah ∧ eh ≤ bh := by rw [heh]; unfold mi; split <;> omega
    have eb : el ≤ eh := by omega
    have W1 : Hid (∀ W, Calls Tryd.prog 32 #[.agg #[.int .i64 (el), .int .i64 (eh)], .agg #[.int .i64 (al), .int .i64 (ah)]] W fun e w' => e = .returned (.bool true) ∧ Below W.heap.size W w') := hide (fun W => by have h := within_any el eh al ah (by omega) (by omega) W; rw [within_t (by omega)] at h; exact h)
    have W2 : Hid (∀ W, Calls Tryd.prog 32 #[.agg #[.int .i64 (el), .int .i64 (eh)], .agg #[.int .i64 (bl), .int .i64 (bh)]] W fun e w' => e = .returned (.bool true) ∧ Below W.heap.size W w') := hide (fun W => by have h := within_any el eh bl bh (by omega) (by omega) W; rw [within_t (by omega)] at h; exact h)
    have ME : Hid (∀ W, Calls Tryd.prog 35 #[.agg #[.int .i64 (al), .int .i64 (ah)], .agg #[.int .i64 (bl), .int .i64 (bh)]] W fun e w' => e = .returned (.tuple #[.agg #[.int .i64 (el), .int .i64 (eh)], .int .i64 0]) ∧ Below W.heap.size W w') := hide (fun W => MT W)
    have OR1 := hide O1
    have OR2 := hide O2
    clear O1 O2 MT hn hn' cmn hel heh elb ehb eb hlb hhb hhl hhh hm mb im a0 a1 b0 b1 va vb i0 j0 i1 j1
    go_enter Tryd.func6, Tryd.ntmps6
    go_wp2_with fail
    refine (AL.out _).mono ?_
    rintro e w11 ⟨rfl, hb11⟩
    obtain ⟨hc11, hf11⟩ := bcell hb11
    have hz11 := hb11.size
    try simp only [World.size_alloc, World.size_setCell] at hz11
    try have : w.heap.size < w11.heap.size := by omega
    try have : w.heap.size ≤ w11.heap.size := by omega
    try have : w.heap.size + 1 < w11.heap.size := by omega
    try have : w.heap.size + 1 ≤ w11.heap.size := by omega
    have c11_0_0 : w11.cell? ⟨w.heap.size, 0, none⟩ = some (.int .i64 (al)) := by go_simp
    have c11_0_1 : w11.cell? ⟨w.heap.size, 1, none⟩ = some (.int .i64 (ah)) := by go_simp
    have c11_1_0 : w11.cell? ⟨w.heap.size + 1, 0, none⟩ = some (.int .i64 (bl)) := by go_simp
    have c11_1_1 : w11.cell? ⟨w.heap.size + 1, 1, none⟩ = some (.int .i64 (bh)) := by go_simp
    clear hc11 hf11
    go_wp2_with fail
    refine (CA.out _).mono ?_
    rintro e w12 ⟨rfl, hb12⟩
    obtain ⟨hc12, hf12⟩ := bcell hb12
    have hz12 := hb12.size
    try simp only [World.size_alloc, World.size_setCell] at hz12
    try have : w.heap.size < w12.heap.size := by omega
    try have : w.heap.size ≤ w12.heap.size := by omega
    try have : w.heap.size + 1 < w12.heap.size := by omega
    try have : w.heap.size + 1 ≤ w12.heap.size := by omega
    have c12_0_0 : w12.cell? ⟨w.heap.size, 0, none⟩ = some (.int .i64 (al)) := by go_simp
    have c12_0_1 : w12.cell? ⟨w.heap.size, 1, none⟩ = some (.int .i64 (ah)) := by go_simp
    have c12_1_0 : w12.cell? ⟨w.heap.size + 1, 0, none⟩ = some (.int .i64 (bl)) := by go_simp
    have c12_1_1 : w12.cell? ⟨w.heap.size + 1, 1, none⟩ = some (.int .i64 (bh)) := by go_simp
    clear hc12 hf12 c11_0_0 c11_0_1 c11_1_0 c11_1_1
    go_wp2_with fail
    refine (CB.out _).mono ?_
    rintro e w13 ⟨rfl, hb13⟩
    obtain ⟨hc13, hf13⟩ := bcell hb13
    have hz13 := hb13.size
    try simp only [World.size_alloc, World.size_setCell] at hz13
    try have : w.heap.size < w13.heap.size := by omega
    try have : w.heap.size ≤ w13.heap.size := by omega
    try have : w.heap.size + 1 < w13.heap.size := by omega
    try have : w.heap.size + 1 ≤ w13.heap.size := by omega
    have c13_0_0 : w13.cell? ⟨w.heap.size, 0, none⟩ = some (.int .i64 (al)) := by go_simp
    have c13_0_1 : w13.cell? ⟨w.heap.size, 1, none⟩ = some (.int .i64 (ah)) := by go_simp
    have c13_1_0 : w13.cell? ⟨w.heap.size + 1, 0, none⟩ = some (.int .i64 (bl)) := by go_simp
    have c13_1_1 : w13.cell? ⟨w.heap.size + 1, 1, none⟩ = some (.int .i64 (bh)) := by go_simp
    clear hc13 hf13 c12_0_0 c12_0_1 c12_1_0 c12_1_1
    go_wp2_with fail
    refine (SP.out _).mono ?_
    rintro e w14 ⟨rfl, hb14⟩
    obtain ⟨hc14, hf14⟩ := bcell hb14
    have hz14 := hb14.size
    try simp only [World.size_alloc, World.size_setCell] at hz14
    try have : w.heap.size < w14.heap.size := by omega
    try have : w.heap.size < w14.heap.size + 1 := by omega
    try have : w.heap.size < w14.heap.size + 1 + 1 := by omega
    try have : w.heap.size ≤ w14.heap.size := by omega
    try have : w.heap.size + 1 < w14.heap.size := by omega
    try have : w.heap.size + 1 < w14.heap.size + 1 := by omega
    try have : w.heap.size + 1 < w14.heap.size + 1 + 1 := by omega
    try have : w.heap.size + 1 ≤ w14.heap.size := by omega
    have c14_0_0 : w14.cell? ⟨w.heap.size, 0, none⟩ = some (.int .i64 (al)) := by go_simp
    have c14_0_1 : w14.cell? ⟨w.heap.size, 1, none⟩ = some (.int .i64 (ah)) := by go_simp
    have c14_1_0 : w14.cell? ⟨w.heap.size + 1, 0, none⟩ = some (.int .i64 (bl)) := by go_simp
    have c14_1_1 : w14.cell? ⟨w.heap.size + 1, 1, none⟩ = some (.int .i64 (bh)) := by go_simp
    clear hc14 hf14 c13_0_0 c13_0_1 c13_1_0 c13_1_1
    go_wp2_with fail
    refine (HL.out _).mono ?_
    rintro e w15 ⟨rfl, hb15⟩
    obtain ⟨hc15, hf15⟩ := bcell hb15
    have hz15 := hb15.size
    try simp only [World.size_alloc, World.size_setCell] at hz15
    try have : w.heap.size < w15.heap.size := by omega
    try have : w.heap.size < w15.heap.size + 1 := by omega
    try have : w.heap.size ≤ w15.heap.size := by omega
    try have : w.heap.size + 1 < w15.heap.size := by omega
    try have : w.heap.size + 1 < w15.heap.size + 1 := by omega
    try have : w.heap.size + 1 ≤ w15.heap.size := by omega
    try have : w14.heap.size < w15.heap.size := by omega
    try have : w14.heap.size < w15.heap.size + 1 := by omega
    try have : w14.heap.size ≤ w15.heap.size := by omega
    try have : w14.heap.size + 1 < w15.heap.size := by omega
    try have : w14.heap.size + 1 < w15.heap.size + 1 := by omega
    try have : w14.heap.size + 1 ≤ w15.heap.size := by omega
    have c15_0_0 : w15.cell? ⟨w.heap.size, 0, none⟩ = some (.int .i64 (al)) := by go_simp
    have c15_0_1 : w15.cell? ⟨w.heap.size, 1, none⟩ = some (.int .i64 (ah)) := by go_simp
    have c15_1_0 : w15.cell? ⟨w.heap.size + 1, 0, none⟩ = some (.int .i64 (bl)) := by go_simp
    have c15_1_1 : w15.cell? ⟨w.heap.size + 1, 1, none⟩ = some (.int .i64 (bh)) := by go_simp
    have c15_2_0 : w15.cell? ⟨w14.heap.size, 0, none⟩ = some (.int .i64 (al)) := by go_simp
    have c15_2_1 : w15.cell? ⟨w14.heap.size, 1, none⟩ = some (.int .i64 (m)) := by go_simp
    have c15_3_0 : w15.cell? ⟨w14.heap.size + 1, 0, none⟩ = some (.int .i64 (m)) := by go_simp
    have c15_3_1 : w15.cell? ⟨w14.heap.size + 1, 1, none⟩ = some (.int .i64 (ah)) := by go_simp
    clear hc15 hf15 c14_0_0 c14_0_1 c14_1_0 c14_1_1
    go_wp2_with fail
    refine (MI.out _).mono ?_
    rintro e w16 ⟨rfl, hb16⟩
    obtain ⟨hc16, hf16⟩ := bcell hb16
    have hz16 := hb16.size
    try simp only [World.size_alloc, World.size_setCell] at hz16
    try have : w.heap.size < w16.heap.size := by omega
    try have : w.heap.size ≤ w16.heap.size := by omega
    try have : w.heap.size + 1 < w16.heap.size := by omega
    try have : w.heap.size + 1 ≤ w16.heap.size := by omega
    try have : w14.heap.size < w16.heap.size := by omega
    try have : w14.heap.size ≤ w16.heap.size := by omega
    try have : w14.heap.size + 1 < w16.heap.size := by omega
    try have : w14.heap.size + 1 ≤ w16.heap.size := by omega
    try have : w15.heap.size < w16.heap.size := by omega
    try have : w15.heap.size ≤ w16.heap.size := by omega
    have c16_0_0 : w16.cell? ⟨w.heap.size, 0, none⟩ = some (.int .i64 (al)) := by go_simp
    have c16_0_1 : w16.cell? ⟨w.heap.size, 1, none⟩ = some (.int .i64 (ah)) := by go_simp
    have c16_1_0 : w16.cell? ⟨w.heap.size + 1, 0, none⟩ = some (.int .i64 (bl)) := by go_simp
    have c16_1_1 : w16.cell? ⟨w.heap.size + 1, 1, none⟩ = some (.int .i64 (bh)) := by go_simp
    have c16_2_0 : w16.cell? ⟨w14.heap.size, 0, none⟩ = some (.int .i64 (al)) := by go_simp
    have c16_2_1 : w16.cell? ⟨w14.heap.size, 1, none⟩ = some (.int .i64 (m)) := by go_simp
    have c16_3_0 : w16.cell? ⟨w14.heap.size + 1, 0, none⟩ = some (.int .i64 (m)) := by go_simp
    have c16_3_1 : w16.cell? ⟨w14.heap.size + 1, 1, none⟩ = some (.int .i64 (ah)) := by go_simp
    have c16_4_0 : w16.cell? ⟨w15.heap.size, 0, none⟩ = some (.int .i64 (al)) := by go_simp
    have c16_4_1 : w16.cell? ⟨w15.heap.size, 1, none⟩ = some (.int .i64 (ah)) := by go_simp
    clear hc16 hf16 c15_0_0 c15_0_1 c15_1_0 c15_1_1 c15_2_0 c15_2_1 c15_3_0 c15_3_1
    go_wp2_with fail
    refine (HU.out _).mono ?_
    rintro e w17 ⟨rfl, hb17⟩
    obtain ⟨hc17, hf17⟩ := bcell hb17
    have hz17 := hb17.size
    try simp only [World.size_alloc, World.size_setCell] at hz17
    try have : w.heap.size < w17.heap.size := by omega
    try have : w.heap.size < w17.heap.size + 1 := by omega
    try have : w.heap.size ≤ w17.heap.size := by omega
    try have : w.heap.size + 1 < w17.heap.size := by omega
    try have : w.heap.size + 1 < w17.heap.size + 1 := by omega
    try have : w.heap.size + 1 ≤ w17.heap.size := by omega
    try have : w14.heap.size < w17.heap.size := by omega
    try have : w14.heap.size < w17.heap.size + 1 := by omega
    try have : w14.heap.size ≤ w17.heap.size := by omega
    try have : w14.heap.size + 1 < w17.heap.size := by omega
    try have : w14.heap.size + 1 < w17.heap.size + 1 := by omega
    try have : w14.heap.size + 1 ≤ w17.heap.size := by omega
    try have : w15.heap.size < w17.heap.size := by omega
    try have : w15.heap.size < w17.heap.size + 1 := by omega
    try have : w15.heap.size ≤ w17.heap.size := by omega
    have c17_0_0 : w17.cell? ⟨w.heap.size, 0, none⟩ = some (.int .i64 (al)) := by go_simp
    have c17_0_1 : w17.cell? ⟨w.heap.size, 1, none⟩ = some (.int .i64 (ah)) := by go_simp
    have c17_1_0 : w17.cell? ⟨w.heap.size + 1, 0, none⟩ = some (.int .i64 (bl)) := by go_simp
    have c17_1_1 : w17.cell? ⟨w.heap.size + 1, 1, none⟩ = some (.int .i64 (bh)) := by go_simp
    have c17_2_0 : w17.cell? ⟨w14.heap.size, 0, none⟩ = some (.int .i64 (al)) := by go_simp
    have c17_2_1 : w17.cell? ⟨w14.heap.size, 1, none⟩ = some (.int .i64 (m)) := by go_simp
    have c17_3_0 : w17.cell? ⟨w14.heap.size + 1, 0, none⟩ = some (.int .i64 (m)) := by go_simp
    have c17_3_1 : w17.cell? ⟨w14.heap.size + 1, 1, none⟩ = some (.int .i64 (ah)) := by go_simp
    have c17_4_0 : w17.cell? ⟨w15.heap.size, 0, none⟩ = some (.int .i64 (al)) := by go_simp
    have c17_4_1 : w17.cell? ⟨w15.heap.size, 1, none⟩ = some (.int .i64 (ah)) := by go_simp
    clear hc17 hf17 c16_0_0 c16_0_1 c16_1_0 c16_1_1 c16_2_0 c16_2_1 c16_3_0 c16_3_1 c16_4_0 c16_4_1
    go_wp2_with fail
    refine (ME.out _).mono ?_
    rintro e w18 ⟨rfl, hb18⟩
    obtain ⟨hc18, hf18⟩ := bcell hb18
    have hz18 := hb18.size
    try simp only [World.size_alloc, World.size_setCell] at hz18
    try have : w.heap.size < w18.heap.size := by omega
    try have : w.heap.size < w18.heap.size + 1 := by omega
    try have : w.heap.size ≤ w18.heap.size := by omega
    try have : w.heap.size + 1 < w18.heap.size := by omega
    try have : w.heap.size + 1 < w18.heap.size + 1 := by omega
    try have : w.heap.size + 1 ≤ w18.heap.size := by omega
    try have : w14.heap.size < w18.heap.size := by omega
    try have : w14.heap.size < w18.heap.size + 1 := by omega
    try have : w14.heap.size ≤ w18.heap.size := by omega
    try have : w14.heap.size + 1 < w18.heap.size := by omega
    try have : w14.heap.size + 1 < w18.heap.size + 1 := by omega
    try have : w14.heap.size + 1 ≤ w18.heap.size := by omega
    try have : w15.heap.size < w18.heap.size := by omega
    try have : w15.heap.size < w18.heap.size + 1 := by omega
    try have : w15.heap.size ≤ w18.heap.size := by omega
    try have : w17.heap.size < w18.heap.size := by omega
    try have : w17.heap.size < w18.heap.size + 1 := by omega
    try have : w17.heap.size ≤ w18.heap.size := by omega
    have c18_0_0 : w18.cell? ⟨w.heap.size, 0, none⟩ = some (.int .i64 (al)) := by go_simp
    have c18_0_1 : w18.cell? ⟨w.heap.size, 1, none⟩ = some (.int .i64 (ah)) := by go_simp
    have c18_1_0 : w18.cell? ⟨w.heap.size + 1, 0, none⟩ = some (.int .i64 (bl)) := by go_simp
    have c18_1_1 : w18.cell? ⟨w.heap.size + 1, 1, none⟩ = some (.int .i64 (bh)) := by go_simp
    have c18_2_0 : w18.cell? ⟨w14.heap.size, 0, none⟩ = some (.int .i64 (al)) := by go_simp
    have c18_2_1 : w18.cell? ⟨w14.heap.size, 1, none⟩ = some (.int .i64 (m)) := by go_simp
    have c18_3_0 : w18.cell? ⟨w14.heap.size + 1, 0, none⟩ = some (.int .i64 (m)) := by go_simp
    have c18_3_1 : w18.cell? ⟨w14.heap.size + 1, 1, none⟩ = some (.int .i64 (ah)) := by go_simp
    have c18_4_0 : w18.cell? ⟨w15.heap.size, 0, none⟩ = some (.int .i64 (al)) := by go_simp
    have c18_4_1 : w18.cell? ⟨w15.heap.size, 1, none⟩ = some (.int .i64 (ah)) := by go_simp
    have c18_5_0 : w18.cell? ⟨w17.heap.size, 0, none⟩ = some (.int .i64 (hl)) := by go_simp
    have c18_5_1 : w18.cell? ⟨w17.heap.size, 1, none⟩ = some (.int .i64 (hh)) := by go_simp
    clear hc18 hf18 c17_0_0 c17_0_1 c17_1_0 c17_1_1 c17_2_0 c17_2_1 c17_3_0 c17_3_1 c17_4_0 c17_4_1
    go_wp2_with fail
    refine (W1.out _).mono ?_
    rintro e w19 ⟨rfl, hb19⟩
    obtain ⟨hc19, hf19⟩ := bcell hb19
    have hz19 := hb19.size
    try simp only [World.size_alloc, World.size_setCell] at hz19
    try have : w.heap.size < w19.heap.size := by omega
    try have : w.heap.size ≤ w19.heap.size := by omega
    try have : w.heap.size + 1 < w19.heap.size := by omega
    try have : w.heap.size + 1 ≤ w19.heap.size := by omega
    try have : w14.heap.size < w19.heap.size := by omega
    try have : w14.heap.size ≤ w19.heap.size := by omega
    try have : w14.heap.size + 1 < w19.heap.size := by omega
    try have : w14.heap.size + 1 ≤ w19.heap.size := by omega
    try have : w15.heap.size < w19.heap.size := by omega
    try have : w15.heap.size ≤ w19.heap.size := by omega
    try have : w17.heap.size < w19.heap.size := by omega
    try have : w17.heap.size ≤ w19.heap.size := by omega
    try have : w18.heap.size < w19.heap.size := by omega
    try have : w18.heap.size ≤ w19.heap.size := by omega
    have c19_0_0 : w19.cell? ⟨w.heap.size, 0, none⟩ = some (.int .i64 (al)) := by go_simp
    have c19_0_1 : w19.cell? ⟨w.heap.size, 1, none⟩ = some (.int .i64 (ah)) := by go_simp
    have c19_1_0 : w19.cell? ⟨w.heap.size + 1, 0, none⟩ = some (.int .i64 (bl)) := by go_simp
    have c19_1_1 : w19.cell? ⟨w.heap.size + 1, 1, none⟩ = some (.int .i64 (bh)) := by go_simp
    have c19_2_0 : w19.cell? ⟨w14.heap.size, 0, none⟩ = some (.int .i64 (al)) := by go_simp
    have c19_2_1 : w19.cell? ⟨w14.heap.size, 1, none⟩ = some (.int .i64 (m)) := by go_simp
    have c19_3_0 : w19.cell? ⟨w14.heap.size + 1, 0, none⟩ = some (.int .i64 (m)) := by go_simp
    have c19_3_1 : w19.cell? ⟨w14.heap.size + 1, 1, none⟩ = some (.int .i64 (ah)) := by go_simp
    have c19_4_0 : w19.cell? ⟨w15.heap.size, 0, none⟩ = some (.int .i64 (al)) := by go_simp
    have c19_4_1 : w19.cell? ⟨w15.heap.size, 1, none⟩ = some (.int .i64 (ah)) := by go_simp
    have c19_5_0 : w19.cell? ⟨w17.heap.size, 0, none⟩ = some (.int .i64 (hl)) := by go_simp
    have c19_5_1 : w19.cell? ⟨w17.heap.size, 1, none⟩ = some (.int .i64 (hh)) := by go_simp
    have c19_6_0 : w19.cell? ⟨w18.heap.size, 0, none⟩ = some (.int .i64 (el)) := by go_simp
    have c19_6_1 : w19.cell? ⟨w18.heap.size, 1, none⟩ = some (.int .i64 (eh)) := by go_simp
    clear hc19 hf19 c18_0_0 c18_0_1 c18_1_0 c18_1_1 c18_2_0 c18_2_1 c18_3_0 c18_3_1 c18_4_0 c18_4_1 c18_5_0 c18_5_1
    go_wp2_with fail
    refine (W2.out _).mono ?_
    rintro e w20 ⟨rfl, hb20⟩
    obtain ⟨hc20, hf20⟩ := bcell hb20
    have hz20 := hb20.size
    try simp only [World.size_alloc, World.size_setCell] at hz20
    try have : w.heap.size < w20.heap.size := by omega
    try have : w.heap.size ≤ w20.heap.size := by omega
    try have : w.heap.size + 1 < w20.heap.size := by omega
    try have : w.heap.size + 1 ≤ w20.heap.size := by omega
    try have : w14.heap.size < w20.heap.size := by omega
    try have : w14.heap.size ≤ w20.heap.size := by omega
    try have : w14.heap.size + 1 < w20.heap.size := by omega
    try have : w14.heap.size + 1 ≤ w20.heap.size := by omega
    try have : w15.heap.size < w20.heap.size := by omega
    try have : w15.heap.size ≤ w20.heap.size := by omega
    try have : w17.heap.size < w20.heap.size := by omega
    try have : w17.heap.size ≤ w20.heap.size := by omega
    try have : w18.heap.size < w20.heap.size := by omega
    try have : w18.heap.size ≤ w20.heap.size := by omega
    have c20_0_0 : w20.cell? ⟨w.heap.size, 0, none⟩ = some (.int .i64 (al)) := by go_simp
    have c20_0_1 : w20.cell? ⟨w.heap.size, 1, none⟩ = some (.int .i64 (ah)) := by go_simp
    have c20_1_0 : w20.cell? ⟨w.heap.size + 1, 0, none⟩ = some (.int .i64 (bl)) := by go_simp
    have c20_1_1 : w20.cell? ⟨w.heap.size + 1, 1, none⟩ = some (.int .i64 (bh)) := by go_simp
    have c20_2_0 : w20.cell? ⟨w14.heap.size, 0, none⟩ = some (.int .i64 (al)) := by go_simp
    have c20_2_1 : w20.cell? ⟨w14.heap.size, 1, none⟩ = some (.int .i64 (m)) := by go_simp
    have c20_3_0 : w20.cell? ⟨w14.heap.size + 1, 0, none⟩ = some (.int .i64 (m)) := by go_simp
    have c20_3_1 : w20.cell? ⟨w14.heap.size + 1, 1, none⟩ = some (.int .i64 (ah)) := by go_simp
    have c20_4_0 : w20.cell? ⟨w15.heap.size, 0, none⟩ = some (.int .i64 (al)) := by go_simp
    have c20_4_1 : w20.cell? ⟨w15.heap.size, 1, none⟩ = some (.int .i64 (ah)) := by go_simp
    have c20_5_0 : w20.cell? ⟨w17.heap.size, 0, none⟩ = some (.int .i64 (hl)) := by go_simp
    have c20_5_1 : w20.cell? ⟨w17.heap.size, 1, none⟩ = some (.int .i64 (hh)) := by go_simp
    have c20_6_0 : w20.cell? ⟨w18.heap.size, 0, none⟩ = some (.int .i64 (el)) := by go_simp
    have c20_6_1 : w20.cell? ⟨w18.heap.size, 1, none⟩ = some (.int .i64 (eh)) := by go_simp
    clear hc20 hf20 c19_0_0 c19_0_1 c19_1_0 c19_1_1 c19_2_0 c19_2_1 c19_3_0 c19_3_1 c19_4_0 c19_4_1 c19_5_0 c19_5_1 c19_6_0 c19_6_1
    go_wp2_with fail
    refine (OR1.out _).mono ?_
    rintro e w21 ⟨rfl, hb21⟩
    obtain ⟨hc21, hf21⟩ := bcell hb21
    have hz21 := hb21.size
    try simp only [World.size_alloc, World.size_setCell] at hz21
    try have : w.heap.size < w21.heap.size := by omega
    try have : w.heap.size ≤ w21.heap.size := by omega
    try have : w.heap.size + 1 < w21.heap.size := by omega
    try have : w.heap.size + 1 ≤ w21.heap.size := by omega
    try have : w14.heap.size < w21.heap.size := by omega
    try have : w14.heap.size ≤ w21.heap.size := by omega
    try have : w14.heap.size + 1 < w21.heap.size := by omega
    try have : w14.heap.size + 1 ≤ w21.heap.size := by omega
    try have : w15.heap.size < w21.heap.size := by omega
    try have : w15.heap.size ≤ w21.heap.size := by omega
    try have : w17.heap.size < w21.heap.size := by omega
    try have : w17.heap.size ≤ w21.heap.size := by omega
    try have : w18.heap.size < w21.heap.size := by omega
    try have : w18.heap.size ≤ w21.heap.size := by omega
    have c21_0_0 : w21.cell? ⟨w.heap.size, 0, none⟩ = some (.int .i64 (al)) := by go_simp
    have c21_0_1 : w21.cell? ⟨w.heap.size, 1, none⟩ = some (.int .i64 (ah)) := by go_simp
    have c21_1_0 : w21.cell? ⟨w.heap.size + 1, 0, none⟩ = some (.int .i64 (bl)) := by go_simp
    have c21_1_1 : w21.cell? ⟨w.heap.size + 1, 1, none⟩ = some (.int .i64 (bh)) := by go_simp
    have c21_2_0 : w21.cell? ⟨w14.heap.size, 0, none⟩ = some (.int .i64 (al)) := by go_simp
    have c21_2_1 : w21.cell? ⟨w14.heap.size, 1, none⟩ = some (.int .i64 (m)) := by go_simp
    have c21_3_0 : w21.cell? ⟨w14.heap.size + 1, 0, none⟩ = some (.int .i64 (m)) := by go_simp
    have c21_3_1 : w21.cell? ⟨w14.heap.size + 1, 1, none⟩ = some (.int .i64 (ah)) := by go_simp
    have c21_4_0 : w21.cell? ⟨w15.heap.size, 0, none⟩ = some (.int .i64 (al)) := by go_simp
    have c21_4_1 : w21.cell? ⟨w15.heap.size, 1, none⟩ = some (.int .i64 (ah)) := by go_simp
    have c21_5_0 : w21.cell? ⟨w17.heap.size, 0, none⟩ = some (.int .i64 (hl)) := by go_simp
    have c21_5_1 : w21.cell? ⟨w17.heap.size, 1, none⟩ = some (.int .i64 (hh)) := by go_simp
    have c21_6_0 : w21.cell? ⟨w18.heap.size, 0, none⟩ = some (.int .i64 (el)) := by go_simp
    have c21_6_1 : w21.cell? ⟨w18.heap.size, 1, none⟩ = some (.int .i64 (eh)) := by go_simp
    clear hc21 hf21 c20_0_0 c20_0_1 c20_1_0 c20_1_1 c20_2_0 c20_2_1 c20_3_0 c20_3_1 c20_4_0 c20_4_1 c20_5_0 c20_5_1 c20_6_0 c20_6_1
    go_wp2_with fail
    refine (OR2.out _).mono ?_
    rintro e w22 ⟨rfl, hb22⟩
    obtain ⟨hc22, hf22⟩ := bcell hb22
    have hz22 := hb22.size
    try simp only [World.size_alloc, World.size_setCell] at hz22
    try have : w.heap.size < w22.heap.size := by omega
    try have : w.heap.size ≤ w22.heap.size := by omega
    try have : w.heap.size + 1 < w22.heap.size := by omega
    try have : w.heap.size + 1 ≤ w22.heap.size := by omega
    try have : w14.heap.size < w22.heap.size := by omega
    try have : w14.heap.size ≤ w22.heap.size := by omega
    try have : w14.heap.size + 1 < w22.heap.size := by omega
    try have : w14.heap.size + 1 ≤ w22.heap.size := by omega
    try have : w15.heap.size < w22.heap.size := by omega
    try have : w15.heap.size ≤ w22.heap.size := by omega
    try have : w17.heap.size < w22.heap.size := by omega
    try have : w17.heap.size ≤ w22.heap.size := by omega
    try have : w18.heap.size < w22.heap.size := by omega
    try have : w18.heap.size ≤ w22.heap.size := by omega
    have c22_0_0 : w22.cell? ⟨w.heap.size, 0, none⟩ = some (.int .i64 (al)) := by go_simp
    have c22_0_1 : w22.cell? ⟨w.heap.size, 1, none⟩ = some (.int .i64 (ah)) := by go_simp
    have c22_1_0 : w22.cell? ⟨w.heap.size + 1, 0, none⟩ = some (.int .i64 (bl)) := by go_simp
    have c22_1_1 : w22.cell? ⟨w.heap.size + 1, 1, none⟩ = some (.int .i64 (bh)) := by go_simp
    have c22_2_0 : w22.cell? ⟨w14.heap.size, 0, none⟩ = some (.int .i64 (al)) := by go_simp
    have c22_2_1 : w22.cell? ⟨w14.heap.size, 1, none⟩ = some (.int .i64 (m)) := by go_simp
    have c22_3_0 : w22.cell? ⟨w14.heap.size + 1, 0, none⟩ = some (.int .i64 (m)) := by go_simp
    have c22_3_1 : w22.cell? ⟨w14.heap.size + 1, 1, none⟩ = some (.int .i64 (ah)) := by go_simp
    have c22_4_0 : w22.cell? ⟨w15.heap.size, 0, none⟩ = some (.int .i64 (al)) := by go_simp
    have c22_4_1 : w22.cell? ⟨w15.heap.size, 1, none⟩ = some (.int .i64 (ah)) := by go_simp
    have c22_5_0 : w22.cell? ⟨w17.heap.size, 0, none⟩ = some (.int .i64 (hl)) := by go_simp
    have c22_5_1 : w22.cell? ⟨w17.heap.size, 1, none⟩ = some (.int .i64 (hh)) := by go_simp
    have c22_6_0 : w22.cell? ⟨w18.heap.size, 0, none⟩ = some (.int .i64 (el)) := by go_simp
    have c22_6_1 : w22.cell? ⟨w18.heap.size, 1, none⟩ = some (.int .i64 (eh)) := by go_simp
    clear hc22 hf22 c21_0_0 c21_0_1 c21_1_0 c21_1_1 c21_2_0 c21_2_1 c21_3_0 c21_3_1 c21_4_0 c21_4_1 c21_5_0 c21_5_1 c21_6_0 c21_6_1
    go_wp2_with fail
    refine QT.quiet_b (by kernel_rfl) (by kernel_rfl) ?_
    repeat (first
      | go_big_quiet_skip
      | (go_big_quiet_want; go_big_quiet_op; first
        | go_big_quiet_on
        | (apply Exists.intro
           refine ⟨fun _ => ?_, ?_⟩
           · first
               | rfl
               | (intro hC; obtain ⟨hcq, hfq⟩ := bcellB hC; go_simp; done)
               | (intro hC; obtain ⟨hcq, hfq⟩ := bcellB hC; go_simp; rfl)
               | (intro hC; have hcq := bcellG hC; go_simp; done)
               | (intro hC; have hcq := bcellG hC; go_simp; rfl)
           go_big_quiet_on)))
    refine wpQuiet_nil ?_
    intro w9 hC9
    obtain ⟨hc9, hf9⟩ := bcellB hC9
    have hz9 := hC9.size
    try simp only [World.size_alloc, World.size_setCell] at hz9
    have y1 : w.heap.size < w9.heap.size := by omega
    have y2 : w.heap.size + 1 < w9.heap.size := by omega
    have y3 : w17.heap.size < w9.heap.size := by omega
    go_wp2_with fail
    refine (W3.out _).mono ?_
    rintro e w31 ⟨rfl, hb31⟩
    obtain ⟨hc31, hf31⟩ := bcell hb31
    have hz31 := hb31.size
    try simp only [World.size_alloc, World.size_setCell] at hz31
    try have : w.heap.size < w31.heap.size := by omega
    try have : w.heap.size ≤ w31.heap.size := by omega
    try have : w.heap.size + 1 < w31.heap.size := by omega
    try have : w.heap.size + 1 ≤ w31.heap.size := by omega
    try have : w17.heap.size < w31.heap.size := by omega
    try have : w17.heap.size ≤ w31.heap.size := by omega
    have c31_0_0 : w31.cell? ⟨w.heap.size, 0, none⟩ = some (.int .i64 (al)) := by go_simp
    have c31_0_1 : w31.cell? ⟨w.heap.size, 1, none⟩ = some (.int .i64 (ah)) := by go_simp
    have c31_1_0 : w31.cell? ⟨w.heap.size + 1, 0, none⟩ = some (.int .i64 (bl)) := by go_simp
    have c31_1_1 : w31.cell? ⟨w.heap.size + 1, 1, none⟩ = some (.int .i64 (bh)) := by go_simp
    have c31_2_0 : w31.cell? ⟨w17.heap.size, 0, none⟩ = some (.int .i64 (hl)) := by go_simp
    have c31_2_1 : w31.cell? ⟨w17.heap.size, 1, none⟩ = some (.int .i64 (hh)) := by go_simp
    clear hc31 hf31
    go_wp2_with fail
    refine (W4.out _).mono ?_
    rintro e w32 ⟨rfl, hb32⟩
    obtain ⟨hc32, hf32⟩ := bcell hb32
    have hz32 := hb32.size
    try simp only [World.size_alloc, World.size_setCell] at hz32
    try have : w.heap.size < w32.heap.size := by omega
    try have : w.heap.size ≤ w32.heap.size := by omega
    try have : w.heap.size + 1 < w32.heap.size := by omega
    try have : w.heap.size + 1 ≤ w32.heap.size := by omega
    try have : w17.heap.size < w32.heap.size := by omega
    try have : w17.heap.size ≤ w32.heap.size := by omega
    have c32_0_0 : w32.cell? ⟨w.heap.size, 0, none⟩ = some (.int .i64 (al)) := by go_simp
    have c32_0_1 : w32.cell? ⟨w.heap.size, 1, none⟩ = some (.int .i64 (ah)) := by go_simp
    have c32_1_0 : w32.cell? ⟨w.heap.size + 1, 0, none⟩ = some (.int .i64 (bl)) := by go_simp
    have c32_1_1 : w32.cell? ⟨w.heap.size + 1, 1, none⟩ = some (.int .i64 (bh)) := by go_simp
    have c32_2_0 : w32.cell? ⟨w17.heap.size, 0, none⟩ = some (.int .i64 (hl)) := by go_simp
    have c32_2_1 : w32.cell? ⟨w17.heap.size, 1, none⟩ = some (.int .i64 (hh)) := by go_simp
    clear hc32 hf32 c31_0_0 c31_0_1 c31_1_0 c31_1_1 c31_2_0 c31_2_1
    go_wp2
    go_ret
    exact ⟨rfl, (by repeat (first | with_reducible exact Below.refl _ _ | with_reducible refine bdrew ?_ | ((with_reducible first | refine bset ?_ ?_ | refine ball ?_ ?_ | refine bth (by assumption) ?_ ?_); first | omega | (simp <;> omega))))⟩
  · have hn' : mi ah bh < mx al bl := by simpa [meN] using hn
    have cmn : ah < bl ∨ bh < al := by unfold mi mx at hn'; split at hn' <;> split at hn' <;> omega
    rw [hn] at MT
    have ME : Hid (∀ W, Calls Tryd.prog 35 #[.agg #[.int .i64 (al), .int .i64 (ah)], .agg #[.int .i64 (bl), .int .i64 (bh)]] W fun e w' => e = .returned (.tuple #[.agg #[.int .i64 (0), .int .i64 (0)], .int .i64 7]) ∧ Below W.heap.size W w') := hide (fun W => MT W)
    have key : ∃ o : Int, ((o = 1 ∨ o = -1) ∧ (if ah < bl then (-1 : Int) else if bh < al then 1 else 0) = o ∧ (if bh < al then (-1 : Int) else if ah < bl then 1 else 0) = -o) := by
      rcases cmn with h | h
      · exact ⟨-1, Or.inr rfl, if_pos h, by rw [if_neg (by omega), if_pos h]; rfl⟩
      · exact ⟨1, Or.inl rfl, by rw [if_neg (by omega), if_pos h], if_pos h⟩
    obtain ⟨o, ho, k1, k2⟩ := key
    rw [k1] at O1
    rw [k2] at O2
    have OR1 := hide O1
    have OR2 := hide O2
    clear O1 O2 MT hn hn' cmn hlb hhb hhl hhh hm mb im a0 a1 b0 b1 va vb i0 j0 i1 j1 k1 k2
    rcases ho with rfl | rfl
    · go_enter Tryd.func6, Tryd.ntmps6
      go_wp2_with fail
      refine (AL.out _).mono ?_
      rintro e w11 ⟨rfl, hb11⟩
      obtain ⟨hc11, hf11⟩ := bcell hb11
      have hz11 := hb11.size
      try simp only [World.size_alloc, World.size_setCell] at hz11
      try have : w.heap.size < w11.heap.size := by omega
      try have : w.heap.size ≤ w11.heap.size := by omega
      try have : w.heap.size + 1 < w11.heap.size := by omega
      try have : w.heap.size + 1 ≤ w11.heap.size := by omega
      have c11_0_0 : w11.cell? ⟨w.heap.size, 0, none⟩ = some (.int .i64 (al)) := by go_simp
      have c11_0_1 : w11.cell? ⟨w.heap.size, 1, none⟩ = some (.int .i64 (ah)) := by go_simp
      have c11_1_0 : w11.cell? ⟨w.heap.size + 1, 0, none⟩ = some (.int .i64 (bl)) := by go_simp
      have c11_1_1 : w11.cell? ⟨w.heap.size + 1, 1, none⟩ = some (.int .i64 (bh)) := by go_simp
      clear hc11 hf11
      go_wp2_with fail
      refine (CA.out _).mono ?_
      rintro e w12 ⟨rfl, hb12⟩
      obtain ⟨hc12, hf12⟩ := bcell hb12
      have hz12 := hb12.size
      try simp only [World.size_alloc, World.size_setCell] at hz12
      try have : w.heap.size < w12.heap.size := by omega
      try have : w.heap.size ≤ w12.heap.size := by omega
      try have : w.heap.size + 1 < w12.heap.size := by omega
      try have : w.heap.size + 1 ≤ w12.heap.size := by omega
      have c12_0_0 : w12.cell? ⟨w.heap.size, 0, none⟩ = some (.int .i64 (al)) := by go_simp
      have c12_0_1 : w12.cell? ⟨w.heap.size, 1, none⟩ = some (.int .i64 (ah)) := by go_simp
      have c12_1_0 : w12.cell? ⟨w.heap.size + 1, 0, none⟩ = some (.int .i64 (bl)) := by go_simp
      have c12_1_1 : w12.cell? ⟨w.heap.size + 1, 1, none⟩ = some (.int .i64 (bh)) := by go_simp
      clear hc12 hf12 c11_0_0 c11_0_1 c11_1_0 c11_1_1
      go_wp2_with fail
      refine (CB.out _).mono ?_
      rintro e w13 ⟨rfl, hb13⟩
      obtain ⟨hc13, hf13⟩ := bcell hb13
      have hz13 := hb13.size
      try simp only [World.size_alloc, World.size_setCell] at hz13
      try have : w.heap.size < w13.heap.size := by omega
      try have : w.heap.size ≤ w13.heap.size := by omega
      try have : w.heap.size + 1 < w13.heap.size := by omega
      try have : w.heap.size + 1 ≤ w13.heap.size := by omega
      have c13_0_0 : w13.cell? ⟨w.heap.size, 0, none⟩ = some (.int .i64 (al)) := by go_simp
      have c13_0_1 : w13.cell? ⟨w.heap.size, 1, none⟩ = some (.int .i64 (ah)) := by go_simp
      have c13_1_0 : w13.cell? ⟨w.heap.size + 1, 0, none⟩ = some (.int .i64 (bl)) := by go_simp
      have c13_1_1 : w13.cell? ⟨w.heap.size + 1, 1, none⟩ = some (.int .i64 (bh)) := by go_simp
      clear hc13 hf13 c12_0_0 c12_0_1 c12_1_0 c12_1_1
      go_wp2_with fail
      refine (SP.out _).mono ?_
      rintro e w14 ⟨rfl, hb14⟩
      obtain ⟨hc14, hf14⟩ := bcell hb14
      have hz14 := hb14.size
      try simp only [World.size_alloc, World.size_setCell] at hz14
      try have : w.heap.size < w14.heap.size := by omega
      try have : w.heap.size < w14.heap.size + 1 := by omega
      try have : w.heap.size < w14.heap.size + 1 + 1 := by omega
      try have : w.heap.size ≤ w14.heap.size := by omega
      try have : w.heap.size + 1 < w14.heap.size := by omega
      try have : w.heap.size + 1 < w14.heap.size + 1 := by omega
      try have : w.heap.size + 1 < w14.heap.size + 1 + 1 := by omega
      try have : w.heap.size + 1 ≤ w14.heap.size := by omega
      have c14_0_0 : w14.cell? ⟨w.heap.size, 0, none⟩ = some (.int .i64 (al)) := by go_simp
      have c14_0_1 : w14.cell? ⟨w.heap.size, 1, none⟩ = some (.int .i64 (ah)) := by go_simp
      have c14_1_0 : w14.cell? ⟨w.heap.size + 1, 0, none⟩ = some (.int .i64 (bl)) := by go_simp
      have c14_1_1 : w14.cell? ⟨w.heap.size + 1, 1, none⟩ = some (.int .i64 (bh)) := by go_simp
      clear hc14 hf14 c13_0_0 c13_0_1 c13_1_0 c13_1_1
      go_wp2_with fail
      refine (HL.out _).mono ?_
      rintro e w15 ⟨rfl, hb15⟩
      obtain ⟨hc15, hf15⟩ := bcell hb15
      have hz15 := hb15.size
      try simp only [World.size_alloc, World.size_setCell] at hz15
      try have : w.heap.size < w15.heap.size := by omega
      try have : w.heap.size < w15.heap.size + 1 := by omega
      try have : w.heap.size ≤ w15.heap.size := by omega
      try have : w.heap.size + 1 < w15.heap.size := by omega
      try have : w.heap.size + 1 < w15.heap.size + 1 := by omega
      try have : w.heap.size + 1 ≤ w15.heap.size := by omega
      try have : w14.heap.size < w15.heap.size := by omega
      try have : w14.heap.size < w15.heap.size + 1 := by omega
      try have : w14.heap.size ≤ w15.heap.size := by omega
      try have : w14.heap.size + 1 < w15.heap.size := by omega
      try have : w14.heap.size + 1 < w15.heap.size + 1 := by omega
      try have : w14.heap.size + 1 ≤ w15.heap.size := by omega
      have c15_0_0 : w15.cell? ⟨w.heap.size, 0, none⟩ = some (.int .i64 (al)) := by go_simp
      have c15_0_1 : w15.cell? ⟨w.heap.size, 1, none⟩ = some (.int .i64 (ah)) := by go_simp
      have c15_1_0 : w15.cell? ⟨w.heap.size + 1, 0, none⟩ = some (.int .i64 (bl)) := by go_simp
      have c15_1_1 : w15.cell? ⟨w.heap.size + 1, 1, none⟩ = some (.int .i64 (bh)) := by go_simp
      have c15_2_0 : w15.cell? ⟨w14.heap.size, 0, none⟩ = some (.int .i64 (al)) := by go_simp
      have c15_2_1 : w15.cell? ⟨w14.heap.size, 1, none⟩ = some (.int .i64 (m)) := by go_simp
      have c15_3_0 : w15.cell? ⟨w14.heap.size + 1, 0, none⟩ = some (.int .i64 (m)) := by go_simp
      have c15_3_1 : w15.cell? ⟨w14.heap.size + 1, 1, none⟩ = some (.int .i64 (ah)) := by go_simp
      clear hc15 hf15 c14_0_0 c14_0_1 c14_1_0 c14_1_1
      go_wp2_with fail
      refine (MI.out _).mono ?_
      rintro e w16 ⟨rfl, hb16⟩
      obtain ⟨hc16, hf16⟩ := bcell hb16
      have hz16 := hb16.size
      try simp only [World.size_alloc, World.size_setCell] at hz16
      try have : w.heap.size < w16.heap.size := by omega
      try have : w.heap.size ≤ w16.heap.size := by omega
      try have : w.heap.size + 1 < w16.heap.size := by omega
      try have : w.heap.size + 1 ≤ w16.heap.size := by omega
      try have : w14.heap.size < w16.heap.size := by omega
      try have : w14.heap.size ≤ w16.heap.size := by omega
      try have : w14.heap.size + 1 < w16.heap.size := by omega
      try have : w14.heap.size + 1 ≤ w16.heap.size := by omega
      try have : w15.heap.size < w16.heap.size := by omega
      try have : w15.heap.size ≤ w16.heap.size := by omega
      have c16_0_0 : w16.cell? ⟨w.heap.size, 0, none⟩ = some (.int .i64 (al)) := by go_simp
      have c16_0_1 : w16.cell? ⟨w.heap.size, 1, none⟩ = some (.int .i64 (ah)) := by go_simp
      have c16_1_0 : w16.cell? ⟨w.heap.size + 1, 0, none⟩ = some (.int .i64 (bl)) := by go_simp
      have c16_1_1 : w16.cell? ⟨w.heap.size + 1, 1, none⟩ = some (.int .i64 (bh)) := by go_simp
      have c16_2_0 : w16.cell? ⟨w14.heap.size, 0, none⟩ = some (.int .i64 (al)) := by go_simp
      have c16_2_1 : w16.cell? ⟨w14.heap.size, 1, none⟩ = some (.int .i64 (m)) := by go_simp
      have c16_3_0 : w16.cell? ⟨w14.heap.size + 1, 0, none⟩ = some (.int .i64 (m)) := by go_simp
      have c16_3_1 : w16.cell? ⟨w14.heap.size + 1, 1, none⟩ = some (.int .i64 (ah)) := by go_simp
      have c16_4_0 : w16.cell? ⟨w15.heap.size, 0, none⟩ = some (.int .i64 (al)) := by go_simp
      have c16_4_1 : w16.cell? ⟨w15.heap.size, 1, none⟩ = some (.int .i64 (ah)) := by go_simp
      clear hc16 hf16 c15_0_0 c15_0_1 c15_1_0 c15_1_1 c15_2_0 c15_2_1 c15_3_0 c15_3_1
      go_wp2_with fail
      refine (HU.out _).mono ?_
      rintro e w17 ⟨rfl, hb17⟩
      obtain ⟨hc17, hf17⟩ := bcell hb17
      have hz17 := hb17.size
      try simp only [World.size_alloc, World.size_setCell] at hz17
      try have : w.heap.size < w17.heap.size := by omega
      try have : w.heap.size < w17.heap.size + 1 := by omega
      try have : w.heap.size ≤ w17.heap.size := by omega
      try have : w.heap.size + 1 < w17.heap.size := by omega
      try have : w.heap.size + 1 < w17.heap.size + 1 := by omega
      try have : w.heap.size + 1 ≤ w17.heap.size := by omega
      try have : w14.heap.size < w17.heap.size := by omega
      try have : w14.heap.size < w17.heap.size + 1 := by omega
      try have : w14.heap.size ≤ w17.heap.size := by omega
      try have : w14.heap.size + 1 < w17.heap.size := by omega
      try have : w14.heap.size + 1 < w17.heap.size + 1 := by omega
      try have : w14.heap.size + 1 ≤ w17.heap.size := by omega
      try have : w15.heap.size < w17.heap.size := by omega
      try have : w15.heap.size < w17.heap.size + 1 := by omega
      try have : w15.heap.size ≤ w17.heap.size := by omega
      have c17_0_0 : w17.cell? ⟨w.heap.size, 0, none⟩ = some (.int .i64 (al)) := by go_simp
      have c17_0_1 : w17.cell? ⟨w.heap.size, 1, none⟩ = some (.int .i64 (ah)) := by go_simp
      have c17_1_0 : w17.cell? ⟨w.heap.size + 1, 0, none⟩ = some (.int .i64 (bl)) := by go_simp
      have c17_1_1 : w17.cell? ⟨w.heap.size + 1, 1, none⟩ = some (.int .i64 (bh)) := by go_simp
      have c17_2_0 : w17.cell? ⟨w14.heap.size, 0, none⟩ = some (.int .i64 (al)) := by go_simp
      have c17_2_1 : w17.cell? ⟨w14.heap.size, 1, none⟩ = some (.int .i64 (m)) := by go_simp
      have c17_3_0 : w17.cell? ⟨w14.heap.size + 1, 0, none⟩ = some (.int .i64 (m)) := by go_simp
      have c17_3_1 : w17.cell? ⟨w14.heap.size + 1, 1, none⟩ = some (.int .i64 (ah)) := by go_simp
      have c17_4_0 : w17.cell? ⟨w15.heap.size, 0, none⟩ = some (.int .i64 (al)) := by go_simp
      have c17_4_1 : w17.cell? ⟨w15.heap.size, 1, none⟩ = some (.int .i64 (ah)) := by go_simp
      clear hc17 hf17 c16_0_0 c16_0_1 c16_1_0 c16_1_1 c16_2_0 c16_2_1 c16_3_0 c16_3_1 c16_4_0 c16_4_1
      go_wp2_with fail
      refine (ME.out _).mono ?_
      rintro e w18 ⟨rfl, hb18⟩
      obtain ⟨hc18, hf18⟩ := bcell hb18
      have hz18 := hb18.size
      try simp only [World.size_alloc, World.size_setCell] at hz18
      try have : w.heap.size < w18.heap.size := by omega
      try have : w.heap.size < w18.heap.size + 1 := by omega
      try have : w.heap.size ≤ w18.heap.size := by omega
      try have : w.heap.size + 1 < w18.heap.size := by omega
      try have : w.heap.size + 1 < w18.heap.size + 1 := by omega
      try have : w.heap.size + 1 ≤ w18.heap.size := by omega
      try have : w14.heap.size < w18.heap.size := by omega
      try have : w14.heap.size < w18.heap.size + 1 := by omega
      try have : w14.heap.size ≤ w18.heap.size := by omega
      try have : w14.heap.size + 1 < w18.heap.size := by omega
      try have : w14.heap.size + 1 < w18.heap.size + 1 := by omega
      try have : w14.heap.size + 1 ≤ w18.heap.size := by omega
      try have : w15.heap.size < w18.heap.size := by omega
      try have : w15.heap.size < w18.heap.size + 1 := by omega
      try have : w15.heap.size ≤ w18.heap.size := by omega
      try have : w17.heap.size < w18.heap.size := by omega
      try have : w17.heap.size < w18.heap.size + 1 := by omega
      try have : w17.heap.size ≤ w18.heap.size := by omega
      have c18_0_0 : w18.cell? ⟨w.heap.size, 0, none⟩ = some (.int .i64 (al)) := by go_simp
      have c18_0_1 : w18.cell? ⟨w.heap.size, 1, none⟩ = some (.int .i64 (ah)) := by go_simp
      have c18_1_0 : w18.cell? ⟨w.heap.size + 1, 0, none⟩ = some (.int .i64 (bl)) := by go_simp
      have c18_1_1 : w18.cell? ⟨w.heap.size + 1, 1, none⟩ = some (.int .i64 (bh)) := by go_simp
      have c18_2_0 : w18.cell? ⟨w14.heap.size, 0, none⟩ = some (.int .i64 (al)) := by go_simp
      have c18_2_1 : w18.cell? ⟨w14.heap.size, 1, none⟩ = some (.int .i64 (m)) := by go_simp
      have c18_3_0 : w18.cell? ⟨w14.heap.size + 1, 0, none⟩ = some (.int .i64 (m)) := by go_simp
      have c18_3_1 : w18.cell? ⟨w14.heap.size + 1, 1, none⟩ = some (.int .i64 (ah)) := by go_simp
      have c18_4_0 : w18.cell? ⟨w15.heap.size, 0, none⟩ = some (.int .i64 (al)) := by go_simp
      have c18_4_1 : w18.cell? ⟨w15.heap.size, 1, none⟩ = some (.int .i64 (ah)) := by go_simp
      have c18_5_0 : w18.cell? ⟨w17.heap.size, 0, none⟩ = some (.int .i64 (hl)) := by go_simp
      have c18_5_1 : w18.cell? ⟨w17.heap.size, 1, none⟩ = some (.int .i64 (hh)) := by go_simp
      clear hc18 hf18 c17_0_0 c17_0_1 c17_1_0 c17_1_1 c17_2_0 c17_2_1 c17_3_0 c17_3_1 c17_4_0 c17_4_1
      go_wp2_with fail
      refine QT.quiet_b (by kernel_rfl) (by kernel_rfl) ?_
      repeat (first
        | go_big_quiet_skip
        | (go_big_quiet_want; go_big_quiet_op; first
          | go_big_quiet_on
          | (apply Exists.intro
             refine ⟨fun _ => ?_, ?_⟩
             · first
                 | rfl
                 | (intro hC; obtain ⟨hcq, hfq⟩ := bcellB hC; go_simp; done)
                 | (intro hC; obtain ⟨hcq, hfq⟩ := bcellB hC; go_simp; rfl)
                 | (intro hC; have hcq := bcellG hC; go_simp; done)
                 | (intro hC; have hcq := bcellG hC; go_simp; rfl)
                 | (intro hC; go_at_call 36; (first | (with_reducible refine (OR1.out _).mono ?_) | (with_reducible refine (OR2.out _).mono ?_)); (intro e w2 hw; exact ⟨hw.1, qtrans (by simp) hC hw.2⟩))
             go_big_quiet_on)))
      refine wpQuiet_nil ?_
      intro w9 hC9
      obtain ⟨hc9, hf9⟩ := bcellB hC9
      have hz9 := hC9.size
      try simp only [World.size_alloc, World.size_setCell] at hz9
      have y1 : w.heap.size < w9.heap.size := by omega
      have y2 : w.heap.size + 1 < w9.heap.size := by omega
      have y3 : w17.heap.size < w9.heap.size := by omega
      go_wp2_with fail
      refine (W3.out _).mono ?_
      rintro e w31 ⟨rfl, hb31⟩
      obtain ⟨hc31, hf31⟩ := bcell hb31
      have hz31 := hb31.size
      try simp only [World.size_alloc, World.size_setCell] at hz31
      try have : w.heap.size < w31.heap.size := by omega
      try have : w.heap.size ≤ w31.heap.size := by omega
      try have : w.heap.size + 1 < w31.heap.size := by omega
      try have : w.heap.size + 1 ≤ w31.heap.size := by omega
      try have : w17.heap.size < w31.heap.size := by omega
      try have : w17.heap.size ≤ w31.heap.size := by omega
      have c31_0_0 : w31.cell? ⟨w.heap.size, 0, none⟩ = some (.int .i64 (al)) := by go_simp
      have c31_0_1 : w31.cell? ⟨w.heap.size, 1, none⟩ = some (.int .i64 (ah)) := by go_simp
      have c31_1_0 : w31.cell? ⟨w.heap.size + 1, 0, none⟩ = some (.int .i64 (bl)) := by go_simp
      have c31_1_1 : w31.cell? ⟨w.heap.size + 1, 1, none⟩ = some (.int .i64 (bh)) := by go_simp
      have c31_2_0 : w31.cell? ⟨w17.heap.size, 0, none⟩ = some (.int .i64 (hl)) := by go_simp
      have c31_2_1 : w31.cell? ⟨w17.heap.size, 1, none⟩ = some (.int .i64 (hh)) := by go_simp
      clear hc31 hf31
      go_wp2_with fail
      refine (W4.out _).mono ?_
      rintro e w32 ⟨rfl, hb32⟩
      obtain ⟨hc32, hf32⟩ := bcell hb32
      have hz32 := hb32.size
      try simp only [World.size_alloc, World.size_setCell] at hz32
      try have : w.heap.size < w32.heap.size := by omega
      try have : w.heap.size ≤ w32.heap.size := by omega
      try have : w.heap.size + 1 < w32.heap.size := by omega
      try have : w.heap.size + 1 ≤ w32.heap.size := by omega
      try have : w17.heap.size < w32.heap.size := by omega
      try have : w17.heap.size ≤ w32.heap.size := by omega
      have c32_0_0 : w32.cell? ⟨w.heap.size, 0, none⟩ = some (.int .i64 (al)) := by go_simp
      have c32_0_1 : w32.cell? ⟨w.heap.size, 1, none⟩ = some (.int .i64 (ah)) := by go_simp
      have c32_1_0 : w32.cell? ⟨w.heap.size + 1, 0, none⟩ = some (.int .i64 (bl)) := by go_simp
      have c32_1_1 : w32.cell? ⟨w.heap.size + 1, 1, none⟩ = some (.int .i64 (bh)) := by go_simp
      have c32_2_0 : w32.cell? ⟨w17.heap.size, 0, none⟩ = some (.int .i64 (hl)) := by go_simp
      have c32_2_1 : w32.cell? ⟨w17.heap.size, 1, none⟩ = some (.int .i64 (hh)) := by go_simp
      clear hc32 hf32 c31_0_0 c31_0_1 c31_1_0 c31_1_1 c31_2_0 c31_2_1
      go_wp2
      go_ret
      exact ⟨rfl, (by repeat (first | with_reducible exact Below.refl _ _ | with_reducible refine bdrew ?_ | ((with_reducible first | refine bset ?_ ?_ | refine ball ?_ ?_ | refine bth (by assumption) ?_ ?_); first | omega | (simp <;> omega))))⟩
    · go_enter Tryd.func6, Tryd.ntmps6
      go_wp2_with fail
      refine (AL.out _).mono ?_
      rintro e w11 ⟨rfl, hb11⟩
      obtain ⟨hc11, hf11⟩ := bcell hb11
      have hz11 := hb11.size
      try simp only [World.size_alloc, World.size_setCell] at hz11
      try have : w.heap.size < w11.heap.size := by omega
      try have : w.heap.size ≤ w11.heap.size := by omega
      try have : w.heap.size + 1 < w11.heap.size := by omega
      try have : w.heap.size + 1 ≤ w11.heap.size := by omega
      have c11_0_0 : w11.cell? ⟨w.heap.size, 0, none⟩ = some (.int .i64 (al)) := by go_simp
      have c11_0_1 : w11.cell? ⟨w.heap.size, 1, none⟩ = some (.int .i64 (ah)) := by go_simp
      have c11_1_0 : w11.cell? ⟨w.heap.size + 1, 0, none⟩ = some (.int .i64 (bl)) := by go_simp
      have c11_1_1 : w11.cell? ⟨w.heap.size + 1, 1, none⟩ = some (.int .i64 (bh)) := by go_simp
      clear hc11 hf11
      go_wp2_with fail
      refine (CA.out _).mono ?_
      rintro e w12 ⟨rfl, hb12⟩
      obtain ⟨hc12, hf12⟩ := bcell hb12
      have hz12 := hb12.size
      try simp only [World.size_alloc, World.size_setCell] at hz12
      try have : w.heap.size < w12.heap.size := by omega
      try have : w.heap.size ≤ w12.heap.size := by omega
      try have : w.heap.size + 1 < w12.heap.size := by omega
      try have : w.heap.size + 1 ≤ w12.heap.size := by omega
      have c12_0_0 : w12.cell? ⟨w.heap.size, 0, none⟩ = some (.int .i64 (al)) := by go_simp
      have c12_0_1 : w12.cell? ⟨w.heap.size, 1, none⟩ = some (.int .i64 (ah)) := by go_simp
      have c12_1_0 : w12.cell? ⟨w.heap.size + 1, 0, none⟩ = some (.int .i64 (bl)) := by go_simp
      have c12_1_1 : w12.cell? ⟨w.heap.size + 1, 1, none⟩ = some (.int .i64 (bh)) := by go_simp
      clear hc12 hf12 c11_0_0 c11_0_1 c11_1_0 c11_1_1
      go_wp2_with fail
      refine (CB.out _).mono ?_
      rintro e w13 ⟨rfl, hb13⟩
      obtain ⟨hc13, hf13⟩ := bcell hb13
      have hz13 := hb13.size
      try simp only [World.size_alloc, World.size_setCell] at hz13
      try have : w.heap.size < w13.heap.size := by omega
      try have : w.heap.size ≤ w13.heap.size := by omega
      try have : w.heap.size + 1 < w13.heap.size := by omega
      try have : w.heap.size + 1 ≤ w13.heap.size := by omega
      have c13_0_0 : w13.cell? ⟨w.heap.size, 0, none⟩ = some (.int .i64 (al)) := by go_simp
      have c13_0_1 : w13.cell? ⟨w.heap.size, 1, none⟩ = some (.int .i64 (ah)) := by go_simp
      have c13_1_0 : w13.cell? ⟨w.heap.size + 1, 0, none⟩ = some (.int .i64 (bl)) := by go_simp
      have c13_1_1 : w13.cell? ⟨w.heap.size + 1, 1, none⟩ = some (.int .i64 (bh)) := by go_simp
      clear hc13 hf13 c12_0_0 c12_0_1 c12_1_0 c12_1_1
      go_wp2_with fail
      refine (SP.out _).mono ?_
      rintro e w14 ⟨rfl, hb14⟩
      obtain ⟨hc14, hf14⟩ := bcell hb14
      have hz14 := hb14.size
      try simp only [World.size_alloc, World.size_setCell] at hz14
      try have : w.heap.size < w14.heap.size := by omega
      try have : w.heap.size < w14.heap.size + 1 := by omega
      try have : w.heap.size < w14.heap.size + 1 + 1 := by omega
      try have : w.heap.size ≤ w14.heap.size := by omega
      try have : w.heap.size + 1 < w14.heap.size := by omega
      try have : w.heap.size + 1 < w14.heap.size + 1 := by omega
      try have : w.heap.size + 1 < w14.heap.size + 1 + 1 := by omega
      try have : w.heap.size + 1 ≤ w14.heap.size := by omega
      have c14_0_0 : w14.cell? ⟨w.heap.size, 0, none⟩ = some (.int .i64 (al)) := by go_simp
      have c14_0_1 : w14.cell? ⟨w.heap.size, 1, none⟩ = some (.int .i64 (ah)) := by go_simp
      have c14_1_0 : w14.cell? ⟨w.heap.size + 1, 0, none⟩ = some (.int .i64 (bl)) := by go_simp
      have c14_1_1 : w14.cell? ⟨w.heap.size + 1, 1, none⟩ = some (.int .i64 (bh)) := by go_simp
      clear hc14 hf14 c13_0_0 c13_0_1 c13_1_0 c13_1_1
      go_wp2_with fail
      refine (HL.out _).mono ?_
      rintro e w15 ⟨rfl, hb15⟩
      obtain ⟨hc15, hf15⟩ := bcell hb15
      have hz15 := hb15.size
      try simp only [World.size_alloc, World.size_setCell] at hz15
      try have : w.heap.size < w15.heap.size := by omega
      try have : w.heap.size < w15.heap.size + 1 := by omega
      try have : w.heap.size ≤ w15.heap.size := by omega
      try have : w.heap.size + 1 < w15.heap.size := by omega
      try have : w.heap.size + 1 < w15.heap.size + 1 := by omega
      try have : w.heap.size + 1 ≤ w15.heap.size := by omega
      try have : w14.heap.size < w15.heap.size := by omega
      try have : w14.heap.size < w15.heap.size + 1 := by omega
      try have : w14.heap.size ≤ w15.heap.size := by omega
      try have : w14.heap.size + 1 < w15.heap.size := by omega
      try have : w14.heap.size + 1 < w15.heap.size + 1 := by omega
      try have : w14.heap.size + 1 ≤ w15.heap.size := by omega
      have c15_0_0 : w15.cell? ⟨w.heap.size, 0, none⟩ = some (.int .i64 (al)) := by go_simp
      have c15_0_1 : w15.cell? ⟨w.heap.size, 1, none⟩ = some (.int .i64 (ah)) := by go_simp
      have c15_1_0 : w15.cell? ⟨w.heap.size + 1, 0, none⟩ = some (.int .i64 (bl)) := by go_simp
      have c15_1_1 : w15.cell? ⟨w.heap.size + 1, 1, none⟩ = some (.int .i64 (bh)) := by go_simp
      have c15_2_0 : w15.cell? ⟨w14.heap.size, 0, none⟩ = some (.int .i64 (al)) := by go_simp
      have c15_2_1 : w15.cell? ⟨w14.heap.size, 1, none⟩ = some (.int .i64 (m)) := by go_simp
      have c15_3_0 : w15.cell? ⟨w14.heap.size + 1, 0, none⟩ = some (.int .i64 (m)) := by go_simp
      have c15_3_1 : w15.cell? ⟨w14.heap.size + 1, 1, none⟩ = some (.int .i64 (ah)) := by go_simp
      clear hc15 hf15 c14_0_0 c14_0_1 c14_1_0 c14_1_1
      go_wp2_with fail
      refine (MI.out _).mono ?_
      rintro e w16 ⟨rfl, hb16⟩
      obtain ⟨hc16, hf16⟩ := bcell hb16
      have hz16 := hb16.size
      try simp only [World.size_alloc, World.size_setCell] at hz16
      try have : w.heap.size < w16.heap.size := by omega
      try have : w.heap.size ≤ w16.heap.size := by omega
      try have : w.heap.size + 1 < w16.heap.size := by omega
      try have : w.heap.size + 1 ≤ w16.heap.size := by omega
      try have : w14.heap.size < w16.heap.size := by omega
      try have : w14.heap.size ≤ w16.heap.size := by omega
      try have : w14.heap.size + 1 < w16.heap.size := by omega
      try have : w14.heap.size + 1 ≤ w16.heap.size := by omega
      try have : w15.heap.size < w16.heap.size := by omega
      try have : w15.heap.size ≤ w16.heap.size := by omega
      have c16_0_0 : w16.cell? ⟨w.heap.size, 0, none⟩ = some (.int .i64 (al)) := by go_simp
      have c16_0_1 : w16.cell? ⟨w.heap.size, 1, none⟩ = some (.int .i64 (ah)) := by go_simp
      have c16_1_0 : w16.cell? ⟨w.heap.size + 1, 0, none⟩ = some (.int .i64 (bl)) := by go_simp
      have c16_1_1 : w16.cell? ⟨w.heap.size + 1, 1, none⟩ = some (.int .i64 (bh)) := by go_simp
      have c16_2_0 : w16.cell? ⟨w14.heap.size, 0, none⟩ = some (.int .i64 (al)) := by go_simp
      have c16_2_1 : w16.cell? ⟨w14.heap.size, 1, none⟩ = some (.int .i64 (m)) := by go_simp
      have c16_3_0 : w16.cell? ⟨w14.heap.size + 1, 0, none⟩ = some (.int .i64 (m)) := by go_simp
      have c16_3_1 : w16.cell? ⟨w14.heap.size + 1, 1, none⟩ = some (.int .i64 (ah)) := by go_simp
      have c16_4_0 : w16.cell? ⟨w15.heap.size, 0, none⟩ = some (.int .i64 (al)) := by go_simp
      have c16_4_1 : w16.cell? ⟨w15.heap.size, 1, none⟩ = some (.int .i64 (ah)) := by go_simp
      clear hc16 hf16 c15_0_0 c15_0_1 c15_1_0 c15_1_1 c15_2_0 c15_2_1 c15_3_0 c15_3_1
      go_wp2_with fail
      refine (HU.out _).mono ?_
      rintro e w17 ⟨rfl, hb17⟩
      obtain ⟨hc17, hf17⟩ := bcell hb17
      have hz17 := hb17.size
      try simp only [World.size_alloc, World.size_setCell] at hz17
      try have : w.heap.size < w17.heap.size := by omega
      try have : w.heap.size < w17.heap.size + 1 := by omega
      try have : w.heap.size ≤ w17.heap.size := by omega
      try have : w.heap.size + 1 < w17.heap.size := by omega
      try have : w.heap.size + 1 < w17.heap.size + 1 := by omega
      try have : w.heap.size + 1 ≤ w17.heap.size := by omega
      try have : w14.heap.size < w17.heap.size := by omega
      try have : w14.heap.size < w17.heap.size + 1 := by omega
      try have : w14.heap.size ≤ w17.heap.size := by omega
      try have : w14.heap.size + 1 < w17.heap.size := by omega
      try have : w14.heap.size + 1 < w17.heap.size + 1 := by omega
      try have : w14.heap.size + 1 ≤ w17.heap.size := by omega
      try have : w15.heap.size < w17.heap.size := by omega
      try have : w15.heap.size < w17.heap.size + 1 := by omega
      try have : w15.heap.size ≤ w17.heap.size := by omega
      have c17_0_0 : w17.cell? ⟨w.heap.size, 0, none⟩ = some (.int .i64 (al)) := by go_simp
      have c17_0_1 : w17.cell? ⟨w.heap.size, 1, none⟩ = some (.int .i64 (ah)) := by go_simp
      have c17_1_0 : w17.cell? ⟨w.heap.size + 1, 0, none⟩ = some (.int .i64 (bl)) := by go_simp
      have c17_1_1 : w17.cell? ⟨w.heap.size + 1, 1, none⟩ = some (.int .i64 (bh)) := by go_simp
      have c17_2_0 : w17.cell? ⟨w14.heap.size, 0, none⟩ = some (.int .i64 (al)) := by go_simp
      have c17_2_1 : w17.cell? ⟨w14.heap.size, 1, none⟩ = some (.int .i64 (m)) := by go_simp
      have c17_3_0 : w17.cell? ⟨w14.heap.size + 1, 0, none⟩ = some (.int .i64 (m)) := by go_simp
      have c17_3_1 : w17.cell? ⟨w14.heap.size + 1, 1, none⟩ = some (.int .i64 (ah)) := by go_simp
      have c17_4_0 : w17.cell? ⟨w15.heap.size, 0, none⟩ = some (.int .i64 (al)) := by go_simp
      have c17_4_1 : w17.cell? ⟨w15.heap.size, 1, none⟩ = some (.int .i64 (ah)) := by go_simp
      clear hc17 hf17 c16_0_0 c16_0_1 c16_1_0 c16_1_1 c16_2_0 c16_2_1 c16_3_0 c16_3_1 c16_4_0 c16_4_1
      go_wp2_with fail
      refine (ME.out _).mono ?_
      rintro e w18 ⟨rfl, hb18⟩
      obtain ⟨hc18, hf18⟩ := bcell hb18
      have hz18 := hb18.size
      try simp only [World.size_alloc, World.size_setCell] at hz18
      try have : w.heap.size < w18.heap.size := by omega
      try have : w.heap.size < w18.heap.size + 1 := by omega
      try have : w.heap.size ≤ w18.heap.size := by omega
      try have : w.heap.size + 1 < w18.heap.size := by omega
      try have : w.heap.size + 1 < w18.heap.size + 1 := by omega
      try have : w.heap.size + 1 ≤ w18.heap.size := by omega
      try have : w14.heap.size < w18.heap.size := by omega
      try have : w14.heap.size < w18.heap.size + 1 := by omega
      try have : w14.heap.size ≤ w18.heap.size := by omega
      try have : w14.heap.size + 1 < w18.heap.size := by omega
      try have : w14.heap.size + 1 < w18.heap.size + 1 := by omega
      try have : w14.heap.size + 1 ≤ w18.heap.size := by omega
      try have : w15.heap.size < w18.heap.size := by omega
      try have : w15.heap.size < w18.heap.size + 1 := by omega
      try have : w15.heap.size ≤ w18.heap.size := by omega
      try have : w17.heap.size < w18.heap.size := by omega
      try have : w17.heap.size < w18.heap.size + 1 := by omega
      try have : w17.heap.size ≤ w18.heap.size := by omega
      have c18_0_0 : w18.cell? ⟨w.heap.size, 0, none⟩ = some (.int .i64 (al)) := by go_simp
      have c18_0_1 : w18.cell? ⟨w.heap.size, 1, none⟩ = some (.int .i64 (ah)) := by go_simp
      have c18_1_0 : w18.cell? ⟨w.heap.size + 1, 0, none⟩ = some (.int .i64 (bl)) := by go_simp
      have c18_1_1 : w18.cell? ⟨w.heap.size + 1, 1, none⟩ = some (.int .i64 (bh)) := by go_simp
      have c18_2_0 : w18.cell? ⟨w14.heap.size, 0, none⟩ = some (.int .i64 (al)) := by go_simp
      have c18_2_1 : w18.cell? ⟨w14.heap.size, 1, none⟩ = some (.int .i64 (m)) := by go_simp
      have c18_3_0 : w18.cell? ⟨w14.heap.size + 1, 0, none⟩ = some (.int .i64 (m)) := by go_simp
      have c18_3_1 : w18.cell? ⟨w14.heap.size + 1, 1, none⟩ = some (.int .i64 (ah)) := by go_simp
      have c18_4_0 : w18.cell? ⟨w15.heap.size, 0, none⟩ = some (.int .i64 (al)) := by go_simp
      have c18_4_1 : w18.cell? ⟨w15.heap.size, 1, none⟩ = some (.int .i64 (ah)) := by go_simp
      have c18_5_0 : w18.cell? ⟨w17.heap.size, 0, none⟩ = some (.int .i64 (hl)) := by go_simp
      have c18_5_1 : w18.cell? ⟨w17.heap.size, 1, none⟩ = some (.int .i64 (hh)) := by go_simp
      clear hc18 hf18 c17_0_0 c17_0_1 c17_1_0 c17_1_1 c17_2_0 c17_2_1 c17_3_0 c17_3_1 c17_4_0 c17_4_1
      go_wp2_with fail
      refine QT.quiet_b (by kernel_rfl) (by kernel_rfl) ?_
      repeat (first
        | go_big_quiet_skip
        | (go_big_quiet_want; go_big_quiet_op; first
          | go_big_quiet_on
          | (apply Exists.intro
             refine ⟨fun _ => ?_, ?_⟩
             · first
                 | rfl
                 | (intro hC; obtain ⟨hcq, hfq⟩ := bcellB hC; go_simp; done)
                 | (intro hC; obtain ⟨hcq, hfq⟩ := bcellB hC; go_simp; rfl)
                 | (intro hC; have hcq := bcellG hC; go_simp; done)
                 | (intro hC; have hcq := bcellG hC; go_simp; rfl)
                 | (intro hC; go_at_call 36; (first | (with_reducible refine (OR1.out _).mono ?_) | (with_reducible refine (OR2.out _).mono ?_)); (intro e w2 hw; exact ⟨hw.1, qtrans (by simp) hC hw.2⟩))
             go_big_quiet_on)))
      refine wpQuiet_nil ?_
      intro w9 hC9
      obtain ⟨hc9, hf9⟩ := bcellB hC9
      have hz9 := hC9.size
      try simp only [World.size_alloc, World.size_setCell] at hz9
      have y1 : w.heap.size < w9.heap.size := by omega
      have y2 : w.heap.size + 1 < w9.heap.size := by omega
      have y3 : w17.heap.size < w9.heap.size := by omega
      go_wp2_with fail
      refine (W3.out _).mono ?_
      rintro e w31 ⟨rfl, hb31⟩
      obtain ⟨hc31, hf31⟩ := bcell hb31
      have hz31 := hb31.size
      try simp only [World.size_alloc, World.size_setCell] at hz31
      try have : w.heap.size < w31.heap.size := by omega
      try have : w.heap.size ≤ w31.heap.size := by omega
      try have : w.heap.size + 1 < w31.heap.size := by omega
      try have : w.heap.size + 1 ≤ w31.heap.size := by omega
      try have : w17.heap.size < w31.heap.size := by omega
      try have : w17.heap.size ≤ w31.heap.size := by omega
      have c31_0_0 : w31.cell? ⟨w.heap.size, 0, none⟩ = some (.int .i64 (al)) := by go_simp
      have c31_0_1 : w31.cell? ⟨w.heap.size, 1, none⟩ = some (.int .i64 (ah)) := by go_simp
      have c31_1_0 : w31.cell? ⟨w.heap.size + 1, 0, none⟩ = some (.int .i64 (bl)) := by go_simp
      have c31_1_1 : w31.cell? ⟨w.heap.size + 1, 1, none⟩ = some (.int .i64 (bh)) := by go_simp
      have c31_2_0 : w31.cell? ⟨w17.heap.size, 0, none⟩ = some (.int .i64 (hl)) := by go_simp
      have c31_2_1 : w31.cell? ⟨w17.heap.size, 1, none⟩ = some (.int .i64 (hh)) := by go_simp
      clear hc31 hf31
      go_wp2_with fail
      refine (W4.out _).mono ?_
      rintro e w32 ⟨rfl, hb32⟩
      obtain ⟨hc32, hf32⟩ := bcell hb32
      have hz32 := hb32.size
      try simp only [World.size_alloc, World.size_setCell] at hz32
      try have : w.heap.size < w32.heap.size := by omega
      try have : w.heap.size ≤ w32.heap.size := by omega
      try have : w.heap.size + 1 < w32.heap.size := by omega
      try have : w.heap.size + 1 ≤ w32.heap.size := by omega
      try have : w17.heap.size < w32.heap.size := by omega
      try have : w17.heap.size ≤ w32.heap.size := by omega
      have c32_0_0 : w32.cell? ⟨w.heap.size, 0, none⟩ = some (.int .i64 (al)) := by go_simp
      have c32_0_1 : w32.cell? ⟨w.heap.size, 1, none⟩ = some (.int .i64 (ah)) := by go_simp
      have c32_1_0 : w32.cell? ⟨w.heap.size + 1, 0, none⟩ = some (.int .i64 (bl)) := by go_simp
      have c32_1_1 : w32.cell? ⟨w.heap.size + 1, 1, none⟩ = some (.int .i64 (bh)) := by go_simp
      have c32_2_0 : w32.cell? ⟨w17.heap.size, 0, none⟩ = some (.int .i64 (hl)) := by go_simp
      have c32_2_1 : w32.cell? ⟨w17.heap.size, 1, none⟩ = some (.int .i64 (hh)) := by go_simp
      clear hc32 hf32 c31_0_0 c31_0_1 c31_1_0 c31_1_1 c31_2_0 c31_2_1
      go_wp2
      go_ret
      exact ⟨rfl, (by repeat (first | with_reducible exact Below.refl _ _ | with_reducible refine bdrew ?_ | ((with_reducible first | refine bset ?_ ?_ | refine ball ?_ ?_ | refine bth (by assumption) ?_ ?_); first | omega | (simp <;> omega))))⟩
theorem walk (al ah bl bh : Int) (i0 : I64 al) (j0 : I64 ah) (i1 : I64 bl) (j1 : I64 bh) (w : World) :
    Calls Tryd.prog 6 #[.agg #[.int .i64 (al), .int .i64 (ah)], .agg #[.int .i64 (bl), .int .i64 (bh)]] w fun e w' => e = .returned (.bool true) ∧ Below w.heap.size w w' := by
  by_cases va : vB al ah = true
  · by_cases vb : vB bl bh = true
    · exact walk_good al ah bl bh i0 j0 i1 j1 w va vb
    · exact walk_bad al ah bl bh i0 i1 w (.inr (by simpa using vb))
  · exact walk_bad al ah bl bh i0 i1 w (.inl (by simpa using va))
end lawSpanParts
end Go.Proofs.YtbfbnmmgmkbieabDoor
