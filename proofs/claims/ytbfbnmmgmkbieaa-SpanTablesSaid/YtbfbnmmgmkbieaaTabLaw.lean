/- The law of the tables of layer 1. -/
import Derived.Test.YtbfbnmmgmkbieaaTabEq
import Derived.Test.YtbfbnmmgmkbieaaTabOpen
import Derived.Test.YtbfbnmmgmkbieaaMid2
import Derived.Test.YtbfbnmmgmkbieaaRows
import Derived.ProofKit
import Derived.Carry
import Derived.Lib.SmallJoins
import Derived.Laws.AppendOwnNone
set_option linter.unusedVariables false
set_option linter.unusedSimpArgs false
namespace Go.Proofs.Ytbfbnmmgmkbieaa
open Go.RowKit
theorem pt_info : (Try.prog.info? 63).map (fun i => (i.zero, i.size, i.bytes)) = some (some (.agg #[.int .i64 0, .int .i64 0, .int .i64 0]), 3, 24) := by kernel_rfl
/-- A table's cells, one after another. -/
def tabCell (at_ lo hi : Nat → Int) (j : Nat) : Int := if j % 3 = 0 then at_ (j / 3) else if j % 3 = 1 then lo (j / 3) else hi (j / 3)
def tabCells (at_ lo hi : Nat → Int) (n : Nat) : List Value := (List.range (n * 3)).map fun j => .int .i64 (tabCell at_ lo hi j)
theorem tabCells_len (at_ lo hi : Nat → Int) (n : Nat) : (tabCells at_ lo hi n).length = n * 3 := by simp [tabCells]
theorem tabCells_at (at_ lo hi : Nat → Int) (n : Nat) {j : Nat} (h : j < n * 3) : (tabCells at_ lo hi n)[j]? = some (.int .i64 (tabCell at_ lo hi j)) := by simp [tabCells, h]
theorem tabCells_one (at_ lo hi : Nat → Int) (n : Nat) : ∀ u ∈ tabCells at_ lo hi n, u.oneCell' = true := by
  intro u hu
  simp only [tabCells, List.mem_map] at hu
  obtain ⟨j, _, rfl⟩ := hu
  rfl
theorem tab_cell {w : World} {ad : Addr} {n : Nat} {at_ lo hi : Nat → Int} (hT : 0 < n → Tab w ad n at_ lo hi) (j : Nat) (u : Value) (h : (tabCells at_ lo hi n)[j]? = some u) : w.cell? (ad.add j) = some u := by
  have hj : j < n * 3 := by
    rcases Nat.lt_or_ge j (n * 3) with c | c
    · exact c
    · rw [List.getElem?_eq_none (by rw [tabCells_len]; exact c)] at h; cases h
  rw [tabCells_at _ _ _ _ hj] at h
  injection h with h
  subst h
  have T := hT (by omega)
  have e : j = j / 3 * 3 + j % 3 := by omega
  have hi3 : j / 3 < n := by omega
  by_cases h0 : j % 3 = 0
  · have := T.ca (j / 3) hi3
    rw [show j / 3 * 3 = j by omega] at this
    rw [this]; simp [tabCell, h0]
  · rw [e, ← Go.Deep.add_add, add_off _ _ _ (by omega)]
    by_cases h1 : j % 3 = 1
    · rw [h1, T.cl (j / 3) hi3]
      simp only [tabCell]
      rw [show (j / 3 * 3 + 1) % 3 = 1 by omega, show (j / 3 * 3 + 1) / 3 = j / 3 by omega]
      rfl
    · have h2 : j % 3 = 2 := by omega
      rw [h2, T.ch (j / 3) hi3]
      simp only [tabCell]
      rw [show (j / 3 * 3 + 2) % 3 = 2 by omega, show (j / 3 * 3 + 2) / 3 = j / 3 by omega]
      rfl
theorem own_tab {w : World} {base g n cap : Nat} {at_ lo hi : Nat → Int} (h : w.ownsRow base 63 3 (.slice (some ⟨g, 0, none⟩) n cap) n (tabCells at_ lo hi n)) (h0 : 0 < n) : Tab w ⟨g, 0, none⟩ n at_ lo hi := by
  have hc := h.cells (g := g) rfl
  have key : ∀ j, j < n * 3 → w.cell? ((⟨g, 0, none⟩ : Addr).add j) = some (.int .i64 (tabCell at_ lo hi j)) := fun j hj => hc j _ (tabCells_at _ _ _ _ hj)
  refine ⟨(h.lt g rfl).2, fun i hi' => ?_, fun i hi' => ?_, fun i hi' => ?_⟩
  · rw [key _ (by omega)]
    simp only [tabCell]
    rw [if_pos (by omega), show i * 3 / 3 = i by omega]
  · have := key (i * 3 + 1) (by omega)
    rw [← Go.Deep.add_add, add_off _ _ _ (by omega)] at this
    rw [this]
    simp only [tabCell]
    rw [if_neg (by omega), if_pos (by omega), show (i * 3 + 1) / 3 = i by omega]
  · have := key (i * 3 + 2) (by omega)
    rw [← Go.Deep.add_add, add_off _ _ _ (by omega)] at this
    rw [this]
    simp only [tabCell]
    rw [if_neg (by omega), if_neg (by omega), show (i * 3 + 2) / 3 = i by omega]
theorem own_row {w : World} {base n : Nat} {e : TypeId} {size : Nat} {v : Value} {xs : List Value} (h : w.ownsRow base e size v n xs) (hv : ¬ v = .slice none 0 0) : ∃ g cap, v = .slice (some ⟨g, 0, none⟩) n cap := by
  rcases h.2 with ⟨h1, _⟩ | ⟨g, cap, cur, rfl, _⟩
  · exact absurd h1 hv
  · exact ⟨g, cap, rfl⟩
namespace lawSpanTables
open Go.ChangeShapes Go.WideShapes Go.ChangeAt Go.Joins
set_option maxHeartbeats 2000000 in
set_option maxRecDepth 100000 in
theorem walk_some (ad : Addr) (n cap : Nat) (at_ lo hi : Nat → Int) (xl xh : Int) (ix : I64 xl) (jx : I64 xh) (w : World) (hT : 0 < n → Tab w ad n at_ lo hi) (hI : ∀ i, i < n → I64 (at_ i) ∧ I64 (lo i) ∧ I64 (hi i)) (hn70 : n ≤ 70) :
    Calls Try.prog 9 #[.slice (some ad) n cap, .agg #[.int .i64 (xl), .int .i64 (xh)]] w fun e w' => e = .returned (.bool true) ∧ Below w.heap.size w w' := by
  obtain ⟨i0, hi0, hq0, hq1, hq2⟩ := info_parts pt_info
  have HA : Hid (∀ W, Below w.heap.size w W → 0 < n → ∃ ad', some ad = some ad' ∧ Tab W ad' n at_ lo hi) := hide (fun W hb h => ⟨ad, rfl, (hT h).below hb⟩)
  have LK := hide (fun cp g W hW => look_any n cp (some ⟨g, 0, none⟩) at_ lo hi xl xh ix W hW hI)
  have RL := hide (fun W hW => rlook_any n cap (some ad) at_ lo hi xl xh ix jx W hW hI)
  have CT := hide (fun W hW => checktable_any n cap (some ad) at_ lo hi W hW hI _ rfl)
  have RT := hide (fun W hW => rchecktable_any n cap (some ad) at_ lo hi W hW hI _ rfl)
  generalize okI (lkB n at_ lo hi xl xh) (tkL n at_ lo xl xh) = ol at *
  generalize okI (lkB n at_ lo hi xl xh) (tkH n at_ hi xl xh) = oh at *
  generalize errE (lkB n at_ lo hi xl xh) 0 = oe at *
  generalize (if tabB n at_ lo hi then (0 : Int) else 2) = oc at *
  have HC := hide (fun j u h => tab_cell (w := (w.alloc (.cells #[.int .i64 xl, .int .i64 xh] 24)).alloc (.cells #[] 63)) (n := n) (at_ := at_) (lo := lo) (hi := hi) (fun h0 => (hT h0).below (by repeat (first | with_reducible exact Below.refl _ _ | with_reducible refine bdrew ?_ | ((with_reducible first | refine bset ?_ ?_ | refine ball ?_ ?_ | refine bth (by assumption) ?_ ?_); first | omega | (simp <;> omega))))) j u h)
  have HO := hide (World.ownsRow_lit (w.alloc (.cells #[.int .i64 xl, .int .i64 xh] 24)) (base := w.heap.size + 1) (e := 63) (size := 3) #[] 0 (by simp) (by unfold maxLen; omega) rfl)
  have hml : n ≤ maxLen := by unfold maxLen; omega
  have HT := hide hT
  clear ix jx hI hT
  go_enter Try.func9, Try.ntmps9
  go_wp2_with (at_builtin; refine wpList_append_own _ rfl (.tmp 14) (.tmp 15) 59 rfl (w.heap.size + 1) 63 i0 (.agg #[.int .i64 0, .int .i64 0, .int .i64 0]) 3 24 Try.underlying59 hi0 hq0 hq1 hq2 rfl (by decide) (.slice (some ⟨w.heap.size + 1, 0, none⟩) 0 0) 0 [] rfl (by simpa using HO.out) ad n cap (tabCells at_ lo hi n) rfl (tabCells_len _ _ _ _) HC.out (tabCells_one _ _ _ _) (by omega) (by omega) (by simp) ?_; intro v8 w8 hown8 hgrow8 hnil8; have e8 : w8.cell? ⟨w.heap.size, 0, none⟩ = some (.int .i64 xl) := hgrow8.cell (a := ⟨w.heap.size, 0, none⟩) (by go_simp) (by simp [Value.ownBlock]); have f8 : w8.cell? ⟨w.heap.size, 1, none⟩ = some (.int .i64 xh) := hgrow8.cell (a := ⟨w.heap.size, 1, none⟩) (by go_simp) (by simp [Value.ownBlock]); have z8 : w.heap.size < w8.heap.size := (by have := hgrow8.size; simp at this; omega))
  simp only [Nat.zero_add, List.nil_append] at hown8
  obtain ⟨g, cp, rfl⟩ := own_row hown8 (by rw [hnil8]; simp)
  have hb8 : Below w.heap.size w w8 := below_own (w := ((w.alloc (.cells #[.int .i64 xl, .int .i64 xh] 24)).alloc (.cells #[] 63))) ((by repeat (first | with_reducible exact Below.refl _ _ | with_reducible refine bdrew ?_ | ((with_reducible first | refine bset ?_ ?_ | refine ball ?_ ?_ | refine bth (by assumption) ?_ ?_); first | omega | (simp <;> omega))))) (by simpa using HO.out) hgrow8 (by omega) (by simp; omega)
  have HO8 := hide (fun h => own_tab hown8 h)
  have hs8 := hb8.size
  have hg8 := (hown8.lt g rfl).2
  clear hown8 hgrow8 hnil8 HC HO
  refine (LK.out cp g _ (fun h => ⟨_, rfl, HO8.out h⟩)).mono ?_
  rintro e w1 ⟨rfl, hb1⟩
  obtain ⟨hc1, hf1⟩ := bcell hb1
  have hz1 := hb1.size
  have y0 : w.heap.size < w1.heap.size := by omega
  have c1_0_0 : w1.cell? ⟨w.heap.size, 0, none⟩ = some (.int .i64 xl) := by go_simp
  have c1_0_1 : w1.cell? ⟨w.heap.size, 1, none⟩ = some (.int .i64 xh) := by go_simp
  clear hc1 hf1
  go_wp2_with fail
  refine (RL.out _ (HA.out _ (by repeat (first | with_reducible exact Below.refl _ _ | with_reducible refine bdrew ?_ | ((with_reducible first | refine bset ?_ ?_ | refine ball ?_ ?_ | refine bth (by assumption) ?_ ?_); first | omega | (simp <;> omega)))))).mono ?_
  rintro e w2 ⟨rfl, hb2⟩
  obtain ⟨hc2, hf2⟩ := bcell hb2
  have hz2 := hb2.size
  try simp only [World.size_alloc, World.size_setCell] at hz2
  try have : w.heap.size < w2.heap.size := by omega
  try have : w.heap.size < w2.heap.size + 1 := by omega
  try have : w.heap.size ≤ w2.heap.size := by omega
  try have : w1.heap.size < w2.heap.size := by omega
  try have : w1.heap.size < w2.heap.size + 1 := by omega
  try have : w1.heap.size ≤ w2.heap.size := by omega
  have c2_0_0 : w2.cell? ⟨w.heap.size, 0, none⟩ = some (.int .i64 (xl)) := by go_simp
  have c2_0_1 : w2.cell? ⟨w.heap.size, 1, none⟩ = some (.int .i64 (xh)) := by go_simp
  have c2_1_0 : w2.cell? ⟨w1.heap.size, 0, none⟩ = some (.int .i64 (ol)) := by go_simp
  have c2_1_1 : w2.cell? ⟨w1.heap.size, 1, none⟩ = some (.int .i64 (oh)) := by go_simp
  clear hc2 hf2
  go_wp2
  have hbW : Below w.heap.size w (w2.alloc (.cells #[.int .i64 ol, .int .i64 oh] 24)) := (by repeat (first | with_reducible exact Below.refl _ _ | with_reducible refine bdrew ?_ | ((with_reducible first | refine bset ?_ ?_ | refine ball ?_ ?_ | refine bth (by assumption) ?_ ?_); first | omega | (simp <;> omega))))
  have hOW : 0 < n → Tab (w2.alloc (.cells #[.int .i64 ol, .int .i64 oh] 24)) ⟨g, 0, none⟩ n at_ lo hi := fun h => (HO8.out h).below (by repeat (first | with_reducible exact Below.refl _ _ | with_reducible refine bdrew ?_ | ((with_reducible first | refine bset ?_ ?_ | refine ball ?_ ?_ | refine bth (by assumption) ?_ ?_); first | omega | (simp <;> omega))))
  have j0 : (w2.alloc (.cells #[.int .i64 ol, .int .i64 oh] 24)).cell? ⟨w1.heap.size, 0, none⟩ = some (.int .i64 ol) := by go_simp
  have j1 : (w2.alloc (.cells #[.int .i64 ol, .int .i64 oh] 24)).cell? ⟨w1.heap.size, 1, none⟩ = some (.int .i64 oh) := by go_simp
  have j2 : (w2.alloc (.cells #[.int .i64 ol, .int .i64 oh] 24)).cell? ⟨w2.heap.size, 0, none⟩ = some (.int .i64 ol) := by go_simp
  have j3 : (w2.alloc (.cells #[.int .i64 ol, .int .i64 oh] 24)).cell? ⟨w2.heap.size, 1, none⟩ = some (.int .i64 oh) := by go_simp
  have j4 : w1.heap.size < (w2.alloc (.cells #[.int .i64 ol, .int .i64 oh] 24)).heap.size ∧ w2.heap.size < (w2.alloc (.cells #[.int .i64 ol, .int .i64 oh] 24)).heap.size := by (constructor <;> simp); omega
  obtain ⟨j5, j6⟩ := j4
  have HOW := hide hOW
  clear hOW LK RL
  generalize w2.alloc (.cells #[.int .i64 ol, .int .i64 oh] 24) = W3 at *
  clear hb1 hb2 hb8 HO8
  go_loopw [31, 10] (fun s31 s10 wr => ∃ k : Nat, k ≤ n ∧ s31 = .int .i64 k ∧ Below W3.heap.size W3 wr) (fun s31 _ _ => n - (intOf s31).toNat)
  case atStart => exact ⟨0, by omega, rfl, Below.refl _ _⟩
  case round =>
    obtain ⟨k, hk, rfl, hb24⟩ := hrel
    have hs24 := hb24.size
    by_cases hlt : k < n
    · have hT1 := (HOW.out (by omega)).below hb24
      obtain ⟨ad', hax, hT2⟩ := HA.out wr (hbW.trans (hb24.mono hbW.size)) (by omega)
      obtain rfl : ad' = ad := by injection hax with h; exact h.symm
      have t0 := hT1.ca k hlt
      have t1 := hT1.cl k hlt
      have t2 := hT1.ch k hlt
      have u0 := hT2.ca k hlt
      have u1 := hT2.cl k hlt
      have u2 := hT2.ch k hlt
      have hs1 := hT1.blk
      have hs2 := hT2.blk
      have e3 : (⟨g, 0, none⟩ : Addr).add (k * 3) = ⟨g, k * 3, none⟩ := by unfold Addr.add; split <;> simp_all
      rw [e3] at t0 t1 t2
      have g1 : decide ((k : Int) < (n : Int)) = true := decide_eq_true (by omega)
      have hba := block_add ad'
      clear hT1 hT2 hax e3
      generalize at_ k = x0 at *
      generalize lo k = x1 at *
      generalize hi k = x2 at *
      go_wp2_with fail
      refine QT.quiet_b (by kernel_rfl) (by kernel_rfl) ?_
      repeat (first
        | go_big_quiet_skip
        | (go_big_quiet_want; go_big_quiet_op; first
          | go_big_quiet_on
          | (apply Exists.intro
             refine ⟨fun _ => ?_, ?_⟩
             · first
                 | rfl
                 | (intro hC; obtain ⟨hcq, hfq⟩ := bcellB hC; go_simp; done)
                 | (intro hC; obtain ⟨hcq, hfq⟩ := bcellB hC; go_simp; rfl)
                 | (intro hC; have hcq := bcellG hC; go_simp; done)
                 | (intro hC; have hcq := bcellG hC; go_simp; rfl)
             go_big_quiet_on)))
      refine wpQuiet_nil ?_
      intro w9 hC9
      obtain ⟨hc9, hf9⟩ := bcellB hC9
      have hz9 := hC9.size
      go_wp2
      go_roundw
      case rel => exact ⟨k + 1, by omega, by go_num, (by repeat (first | with_reducible exact Below.refl _ _ | with_reducible refine bdrew ?_ | ((with_reducible first | refine bset ?_ ?_ | refine ball ?_ ?_ | refine bth (by assumption) ?_ ?_); first | omega | (simp <;> omega))))⟩
      case measure => simp [intOf]; omega
    · obtain rfl : k = n := by omega
      have q0 := ((bcell hb24).1 _ 0 j5).trans j0
      have q1 := ((bcell hb24).1 _ 1 j5).trans j1
      have q2 := ((bcell hb24).1 _ 0 j6).trans j2
      have q3 := ((bcell hb24).1 _ 1 j6).trans j3
      have hzz := hb24.size
      have j7 : w1.heap.size < wr.heap.size ∧ w2.heap.size < wr.heap.size := by omega
      obtain ⟨j8, j9⟩ := j7
      have hb25 := hide (hbW.trans (hb24.mono hbW.size))
      go_wp2_with fail
      refine (CT.out _ (HA.out _ hb25.out)).mono ?_
      rintro e w11 ⟨rfl, hb11⟩
      obtain ⟨hc11, hf11⟩ := bcell hb11
      have hz11 := hb11.size
      try simp only [World.size_alloc, World.size_setCell] at hz11
      try have : w1.heap.size < w11.heap.size := by omega
      try have : w1.heap.size ≤ w11.heap.size := by omega
      try have : w2.heap.size < w11.heap.size := by omega
      try have : w2.heap.size ≤ w11.heap.size := by omega
      have c11_0_0 : w11.cell? ⟨w1.heap.size, 0, none⟩ = some (.int .i64 (ol)) := by go_simp
      have c11_0_1 : w11.cell? ⟨w1.heap.size, 1, none⟩ = some (.int .i64 (oh)) := by go_simp
      have c11_1_0 : w11.cell? ⟨w2.heap.size, 0, none⟩ = some (.int .i64 (ol)) := by go_simp
      have c11_1_1 : w11.cell? ⟨w2.heap.size, 1, none⟩ = some (.int .i64 (oh)) := by go_simp
      clear hc11 hf11
      go_wp2_with fail
      refine (RT.out _ (HA.out _ (bth (m := wr.heap.size) (by assumption) (by have := hb25.out.size; omega) hb25.out))).mono ?_
      rintro e w12 ⟨rfl, hb12⟩
      obtain ⟨hc12, hf12⟩ := bcell hb12
      have hz12 := hb12.size
      try simp only [World.size_alloc, World.size_setCell] at hz12
      try have : w1.heap.size < w12.heap.size := by omega
      try have : w1.heap.size ≤ w12.heap.size := by omega
      try have : w2.heap.size < w12.heap.size := by omega
      try have : w2.heap.size ≤ w12.heap.size := by omega
      have c12_0_0 : w12.cell? ⟨w1.heap.size, 0, none⟩ = some (.int .i64 (ol)) := by go_simp
      have c12_0_1 : w12.cell? ⟨w1.heap.size, 1, none⟩ = some (.int .i64 (oh)) := by go_simp
      have c12_1_0 : w12.cell? ⟨w2.heap.size, 0, none⟩ = some (.int .i64 (ol)) := by go_simp
      have c12_1_1 : w12.cell? ⟨w2.heap.size, 1, none⟩ = some (.int .i64 (oh)) := by go_simp
      clear hc12 hf12 c11_0_0 c11_0_1 c11_1_0 c11_1_1
      go_wp2_with fail
      refine (same_any ol oh oe _).mono ?_
      rintro e w13 ⟨rfl, hb13⟩
      obtain ⟨hc13, hf13⟩ := bcell hb13
      have hz13 := hb13.size
      try simp only [World.size_alloc, World.size_setCell] at hz13
      try have : w1.heap.size < w13.heap.size := by omega
      try have : w1.heap.size ≤ w13.heap.size := by omega
      try have : w2.heap.size < w13.heap.size := by omega
      try have : w2.heap.size ≤ w13.heap.size := by omega
      have c13_0_0 : w13.cell? ⟨w1.heap.size, 0, none⟩ = some (.int .i64 (ol)) := by go_simp
      have c13_0_1 : w13.cell? ⟨w1.heap.size, 1, none⟩ = some (.int .i64 (oh)) := by go_simp
      have c13_1_0 : w13.cell? ⟨w2.heap.size, 0, none⟩ = some (.int .i64 (ol)) := by go_simp
      have c13_1_1 : w13.cell? ⟨w2.heap.size, 1, none⟩ = some (.int .i64 (oh)) := by go_simp
      clear hc13 hf13 c12_0_0 c12_0_1 c12_1_0 c12_1_1
      go_wp2
      go_ret
      exact ⟨rfl, (by repeat (first | with_reducible exact Below.refl _ _ | with_reducible refine bdrew ?_ | ((with_reducible first | refine bset ?_ ?_ | refine ball ?_ ?_ | refine bth (by assumption) ?_ ?_); first | omega | (simp <;> omega))))⟩
set_option maxHeartbeats 2000000 in
set_option maxRecDepth 100000 in
theorem walk_nil (at_ lo hi : Nat → Int) (xl xh : Int) (ix : I64 xl) (jx : I64 xh) (w : World) :
    Calls Try.prog 9 #[.slice none 0 0, .agg #[.int .i64 (xl), .int .i64 (xh)]] w fun e w' => e = .returned (.bool true) ∧ Below w.heap.size w w' := by
  obtain ⟨i0, hi0, hq0, hq1, hq2⟩ := info_parts pt_info
  have hI : ∀ i, i < 0 → I64 (at_ i) ∧ I64 (lo i) ∧ I64 (hi i) := fun i h => by omega
  have HA : Hid (∀ W, Below w.heap.size w W → 0 < 0 → ∃ ad', (none : Option Addr) = some ad' ∧ Tab W ad' 0 at_ lo hi) := hide (fun W hb h => by omega)
  have LK := hide (fun cp g W hW => look_any 0 cp (some ⟨g, 0, none⟩) at_ lo hi xl xh ix W hW hI)
  have RL := hide (fun W hW => rlook_any 0 0 none at_ lo hi xl xh ix jx W hW hI)
  have CT := hide (fun W hW => checktable_any 0 0 none at_ lo hi W hW hI _ rfl)
  have RT := hide (fun W hW => rchecktable_any 0 0 none at_ lo hi W hW hI _ rfl)
  generalize okI (lkB 0 at_ lo hi xl xh) (tkL 0 at_ lo xl xh) = ol at *
  generalize okI (lkB 0 at_ lo hi xl xh) (tkH 0 at_ hi xl xh) = oh at *
  generalize errE (lkB 0 at_ lo hi xl xh) 0 = oe at *
  generalize (if tabB 0 at_ lo hi then (0 : Int) else 2) = oc at *
  have hml : 0 ≤ maxLen := by unfold maxLen; omega
  have HO := hide (World.ownsRow_lit (w.alloc (.cells #[.int .i64 xl, .int .i64 xh] 24)) (base := w.heap.size + 1) (e := 63) (size := 3) #[] 0 (by simp) (by unfold maxLen; omega) rfl)
  clear ix jx hI
  go_enter Try.func9, Try.ntmps9
  go_wp2_with (at_builtin; refine wpList_append_own_none rfl (.tmp 14) (.tmp 15) 59 rfl (w.heap.size + 1) 63 i0 3 Try.underlying59 hi0 (.slice (some ⟨w.heap.size + 1, 0, none⟩) 0 0) 0 [] rfl (by simpa using HO.out) rfl ?_)
  have HO8 : Hid (0 < 0 → Tab w ⟨w.heap.size + 1, 0, none⟩ 0 at_ lo hi) := hide (fun h => absurd h (by omega))
  have hb8 : True := trivial
  refine (LK.out 0 (w.heap.size + 1) _ (fun h => absurd h (by omega))).mono ?_
  rintro e w1 ⟨rfl, hb1⟩
  obtain ⟨hc1, hf1⟩ := bcell hb1
  have hz1 := hb1.size
  simp only [World.size_alloc] at hz1
  have y0 : w.heap.size < w1.heap.size := by omega
  have c1_0_0 : w1.cell? ⟨w.heap.size, 0, none⟩ = some (.int .i64 xl) := by go_simp
  have c1_0_1 : w1.cell? ⟨w.heap.size, 1, none⟩ = some (.int .i64 xh) := by go_simp
  clear hc1 hf1 HO
  go_wp2_with fail
  refine (RL.out _ (HA.out _ (by repeat (first | with_reducible exact Below.refl _ _ | with_reducible refine bdrew ?_ | ((with_reducible first | refine bset ?_ ?_ | refine ball ?_ ?_ | refine bth (by assumption) ?_ ?_); first | omega | (simp <;> omega)))))).mono ?_
  rintro e w2 ⟨rfl, hb2⟩
  obtain ⟨hc2, hf2⟩ := bcell hb2
  have hz2 := hb2.size
  try simp only [World.size_alloc, World.size_setCell] at hz2
  try have : w.heap.size < w2.heap.size := by omega
  try have : w.heap.size < w2.heap.size + 1 := by omega
  try have : w.heap.size ≤ w2.heap.size := by omega
  try have : w1.heap.size < w2.heap.size := by omega
  try have : w1.heap.size < w2.heap.size + 1 := by omega
  try have : w1.heap.size ≤ w2.heap.size := by omega
  have c2_0_0 : w2.cell? ⟨w.heap.size, 0, none⟩ = some (.int .i64 (xl)) := by go_simp
  have c2_0_1 : w2.cell? ⟨w.heap.size, 1, none⟩ = some (.int .i64 (xh)) := by go_simp
  have c2_1_0 : w2.cell? ⟨w1.heap.size, 0, none⟩ = some (.int .i64 (ol)) := by go_simp
  have c2_1_1 : w2.cell? ⟨w1.heap.size, 1, none⟩ = some (.int .i64 (oh)) := by go_simp
  clear hc2 hf2
  go_wp2
  have hbW : Below w.heap.size w (w2.alloc (.cells #[.int .i64 ol, .int .i64 oh] 24)) := (by repeat (first | with_reducible exact Below.refl _ _ | with_reducible refine bdrew ?_ | ((with_reducible first | refine bset ?_ ?_ | refine ball ?_ ?_ | refine bth (by assumption) ?_ ?_); first | omega | (simp <;> omega))))
  have hOW : 0 < 0 → Tab (w2.alloc (.cells #[.int .i64 ol, .int .i64 oh] 24)) ⟨w.heap.size + 1, 0, none⟩ 0 at_ lo hi := fun h => (HO8.out h).below (by repeat (first | with_reducible exact Below.refl _ _ | with_reducible refine bdrew ?_ | ((with_reducible first | refine bset ?_ ?_ | refine ball ?_ ?_ | refine bth (by assumption) ?_ ?_); first | omega | (simp <;> omega))))
  have j0 : (w2.alloc (.cells #[.int .i64 ol, .int .i64 oh] 24)).cell? ⟨w1.heap.size, 0, none⟩ = some (.int .i64 ol) := by go_simp
  have j1 : (w2.alloc (.cells #[.int .i64 ol, .int .i64 oh] 24)).cell? ⟨w1.heap.size, 1, none⟩ = some (.int .i64 oh) := by go_simp
  have j2 : (w2.alloc (.cells #[.int .i64 ol, .int .i64 oh] 24)).cell? ⟨w2.heap.size, 0, none⟩ = some (.int .i64 ol) := by go_simp
  have j3 : (w2.alloc (.cells #[.int .i64 ol, .int .i64 oh] 24)).cell? ⟨w2.heap.size, 1, none⟩ = some (.int .i64 oh) := by go_simp
  have j4 : w1.heap.size < (w2.alloc (.cells #[.int .i64 ol, .int .i64 oh] 24)).heap.size ∧ w2.heap.size < (w2.alloc (.cells #[.int .i64 ol, .int .i64 oh] 24)).heap.size := by (constructor <;> simp); omega
  obtain ⟨j5, j6⟩ := j4
  have HOW := hide hOW
  clear hOW LK RL
  generalize w2.alloc (.cells #[.int .i64 ol, .int .i64 oh] 24) = W3 at *
  clear hb1 hb2 hb8 HO8
  go_loopw [31, 10] (fun s31 s10 wr => ∃ k : Nat, k ≤ 0 ∧ s31 = .int .i64 k ∧ Below W3.heap.size W3 wr) (fun s31 _ _ => 0 - (intOf s31).toNat)
  case atStart => exact ⟨0, by omega, rfl, Below.refl _ _⟩
  case round =>
    obtain ⟨k, hk, rfl, hb24⟩ := hrel
    have hs24 := hb24.size
    by_cases hlt : k < 0
    · exact absurd hlt (by omega)
    · obtain rfl : k = 0 := by omega
      have q0 := ((bcell hb24).1 _ 0 j5).trans j0
      have q1 := ((bcell hb24).1 _ 1 j5).trans j1
      have q2 := ((bcell hb24).1 _ 0 j6).trans j2
      have q3 := ((bcell hb24).1 _ 1 j6).trans j3
      have hzz := hb24.size
      have j7 : w1.heap.size < wr.heap.size ∧ w2.heap.size < wr.heap.size := by omega
      obtain ⟨j8, j9⟩ := j7
      have hb25 := hide (hbW.trans (hb24.mono hbW.size))
      go_wp2_with fail
      refine (CT.out _ (HA.out _ hb25.out)).mono ?_
      rintro e w11 ⟨rfl, hb11⟩
      obtain ⟨hc11, hf11⟩ := bcell hb11
      have hz11 := hb11.size
      try simp only [World.size_alloc, World.size_setCell] at hz11
      try have : w1.heap.size < w11.heap.size := by omega
      try have : w1.heap.size ≤ w11.heap.size := by omega
      try have : w2.heap.size < w11.heap.size := by omega
      try have : w2.heap.size ≤ w11.heap.size := by omega
      have c11_0_0 : w11.cell? ⟨w1.heap.size, 0, none⟩ = some (.int .i64 (ol)) := by go_simp
      have c11_0_1 : w11.cell? ⟨w1.heap.size, 1, none⟩ = some (.int .i64 (oh)) := by go_simp
      have c11_1_0 : w11.cell? ⟨w2.heap.size, 0, none⟩ = some (.int .i64 (ol)) := by go_simp
      have c11_1_1 : w11.cell? ⟨w2.heap.size, 1, none⟩ = some (.int .i64 (oh)) := by go_simp
      clear hc11 hf11
      go_wp2_with fail
      refine (RT.out _ (HA.out _ (bth (m := wr.heap.size) (by assumption) (by have := hb25.out.size; omega) hb25.out))).mono ?_
      rintro e w12 ⟨rfl, hb12⟩
      obtain ⟨hc12, hf12⟩ := bcell hb12
      have hz12 := hb12.size
      try simp only [World.size_alloc, World.size_setCell] at hz12
      try have : w1.heap.size < w12.heap.size := by omega
      try have : w1.heap.size ≤ w12.heap.size := by omega
      try have : w2.heap.size < w12.heap.size := by omega
      try have : w2.heap.size ≤ w12.heap.size := by omega
      have c12_0_0 : w12.cell? ⟨w1.heap.size, 0, none⟩ = some (.int .i64 (ol)) := by go_simp
      have c12_0_1 : w12.cell? ⟨w1.heap.size, 1, none⟩ = some (.int .i64 (oh)) := by go_simp
      have c12_1_0 : w12.cell? ⟨w2.heap.size, 0, none⟩ = some (.int .i64 (ol)) := by go_simp
      have c12_1_1 : w12.cell? ⟨w2.heap.size, 1, none⟩ = some (.int .i64 (oh)) := by go_simp
      clear hc12 hf12 c11_0_0 c11_0_1 c11_1_0 c11_1_1
      go_wp2_with fail
      refine (same_any ol oh oe _).mono ?_
      rintro e w13 ⟨rfl, hb13⟩
      obtain ⟨hc13, hf13⟩ := bcell hb13
      have hz13 := hb13.size
      try simp only [World.size_alloc, World.size_setCell] at hz13
      try have : w1.heap.size < w13.heap.size := by omega
      try have : w1.heap.size ≤ w13.heap.size := by omega
      try have : w2.heap.size < w13.heap.size := by omega
      try have : w2.heap.size ≤ w13.heap.size := by omega
      have c13_0_0 : w13.cell? ⟨w1.heap.size, 0, none⟩ = some (.int .i64 (ol)) := by go_simp
      have c13_0_1 : w13.cell? ⟨w1.heap.size, 1, none⟩ = some (.int .i64 (oh)) := by go_simp
      have c13_1_0 : w13.cell? ⟨w2.heap.size, 0, none⟩ = some (.int .i64 (ol)) := by go_simp
      have c13_1_1 : w13.cell? ⟨w2.heap.size, 1, none⟩ = some (.int .i64 (oh)) := by go_simp
      clear hc13 hf13 c12_0_0 c12_0_1 c12_1_0 c12_1_1
      go_wp2
      go_ret
      exact ⟨rfl, (by repeat (first | with_reducible exact Below.refl _ _ | with_reducible refine bdrew ?_ | ((with_reducible first | refine bset ?_ ?_ | refine ball ?_ ?_ | refine bth (by assumption) ?_ ?_); first | omega | (simp <;> omega))))⟩
theorem walk_many (A : Option Addr) (n cap : Nat) (hn : 70 < n) (xl xh : Int) (w : World) :
    Calls Try.prog 9 #[.slice A n cap, .agg #[.int .i64 (xl), .int .i64 (xh)]] w fun e w' => e = .returned (.bool true) ∧ Below w.heap.size w w' := by
  have g : (70 : Int) < (n : Int) := by omega
  go_enter Try.func9, Try.ntmps9
  go_wp2
  go_ret
  exact ⟨rfl, (by repeat (first | with_reducible exact Below.refl _ _ | with_reducible refine bdrew ?_ | ((with_reducible first | refine bset ?_ ?_ | refine ball ?_ ?_ | refine bth (by assumption) ?_ ?_); first | omega | (simp <;> omega))))⟩
theorem own : ownKnob Try.prog.godebug = none := by kernel_rfl
theorem cellsSpan : Try.prog.cellsOf 24 = 2 := by kernel_rfl
theorem laidOut : laidOutB Try.prog = true := by kernel_rfl
set_option maxRecDepth 100000 in
theorem lifted (os : Os) (started : os.Started) (H : Type) (enc : TypeId × Value → H) :
    ReturnsInHanded {} Try.checked os 9 .any (Rows.spanTablesSpec.pre6 enc Try.prog Try.f9 Rows.spanTablesRow.domain false) (Rows.spanTablesSpec.post enc Try.prog Try.f9 false true false false) := by
  refine returnsInHanded_of_change (C := Try.checked) own started (by kernel_rfl) Try.func9
    (ChangeSpec.witness6 (enc := enc) (C := Try.checked) false ⟨#[], #[.slice none 0 0, .agg #[.int .i64 0, .int .i64 0]], []⟩ 8 (by kernel_rfl) (by kernel_rfl) (by kernel_rfl) (by kernel_rfl)) ?_
  intro W base args ds gs before hval0 hW _ _
  have hval : ∀ (j : Nat) t v, Try.f9.params[j]? = some t → args[j]? = some v → Value.okWide Try.prog W .any base t v := hval0
  have hW' := hW
  obtain ⟨p, q, hA0, hV, rfl, _, _⟩ := hW
  have hA : DataW.TrodAll enc Try.prog W 0 (fun _ => true) true Try.f9.params.toList args.toList ds p := hA0
  rw [Try.params9] at hA hval
  obtain ⟨v0, vs0, d0, ds0, p0, q0, hargs, rfl, rfl, h0, r0⟩ := trodAll_cons hA
  obtain ⟨v1, vs1, d1, ds1, p1, q1, rfl, rfl, rfl, h1, r1⟩ := trodAll_cons r0
  obtain ⟨rfl, rfl, rfl⟩ := trodAll_nil r1
  obtain rfl : args = #[v0, v1] := by cases args; simp_all
  obtain ⟨rfl, rfl⟩ := trodVars_none hV
  have hsl := okWide_slice Try.underlying59 (hval 0 59 v0 rfl rfl)
  have h1k := h1
  obtain ⟨c10, c11, y10, y11, m1, rfl, rfl, rfl, hy10, hy11⟩ := open_agg2 Try.underlying24 (by kernel_rfl) cellsSpan (hval 1 24 v1 rfl rfl) h1
  obtain ⟨x10, e10, rfl, wf10⟩ := DataW.trod_int Try.underlying22 hy10
  obtain ⟨x11, e11, rfl, wf11⟩ := DataW.trod_int Try.underlying22 hy11
  simp at e10 e11
  subst e10 e11
  clear hA0 hval0
  simp only [List.append_nil] at hW'
  have key : Calls Try.prog 9 #[v0, .agg #[.int .i64 x10, .int .i64 x11]] W fun e w' => e = .returned (.bool true) ∧ Below W.heap.size W w' := by
    rcases open_table hsl h0 with rfl | ⟨ad, n, cap, at_, lo, hi, rfl, hm, hT, hI⟩
    · exact walk_nil (fun _ => 0) (fun _ => 0) (fun _ => 0) x10 x11 (i64_of_wf wf10) (i64_of_wf wf11) W
    · by_cases h70 : n ≤ 70
      · exact walk_some ad n cap at_ lo hi x10 x11 (i64_of_wf wf10) (i64_of_wf wf11) W hT hI h70
      · exact walk_many (some ad) n cap (by omega) x10 x11 W
  refine key.mono fun e W' ⟨he, hb⟩ => ?_
  subst he
  have hlt : ∀ x ∈ p0, x.block < W.heap.size := fun x hx => hW'.lt x (by simp [hx])
  exact ⟨_, rfl, _, _, _, [], _, [], hW', (trodAll_cons_mk (shut_bool Try.underlying4 _) trodAll_mk0), (trodAll_cons_mk (Below.trod laidOut (by kernel_rfl) (of_decide_eq_true (by kernel_rfl)) h0 hb hlt) (trodAll_cons_mk (Below.trod laidOut (by kernel_rfl) (of_decide_eq_true (by kernel_rfl)) h1k hb (by simp)) trodAll_mk0)), rfl, hb.frame _, fun h => by cases h⟩
theorem holds : Rows.SpanTablesSaid :=
  OpenClaim.holds_of_wide 9 Try.f9 rfl rfl rfl rfl rfl rfl rfl ⟨rfl, rfl, rfl, rfl, rfl⟩ rfl rfl rfl rfl rfl (by kernel_rfl) Try.func9 (by kernel_rfl)
    (of_decide_eq_true (by kernel_rfl)) (by unfold Func.isWrapper; first | (rw [if_pos (by decide +kernel)]; kernel_rfl) | (rw [if_neg (by decide +kernel)]; exact ⟨rfl, rfl⟩))
    (fun os started H enc _ => lifted os started H enc)
#print axioms holds
end lawSpanTables
end Go.Proofs.Ytbfbnmmgmkbieaa
