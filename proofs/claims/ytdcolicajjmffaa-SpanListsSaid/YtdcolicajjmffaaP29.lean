/- Packed: LiG LiH. -/
import Derived.Test.YtdcolicajjmffaaRows
import Derived.ProofKit
import Derived.Carry
import Derived.Lib.SmallJoins
import Derived.Laws.AppendOwnNone
import Derived.Test.YtdcolicajjmffaaP17
import Derived.Test.YtdcolicajjmffaaP26
import Derived.Test.YtdcolicajjmffaaP28
set_option linter.unusedVariables false
set_option linter.unusedSimpArgs false
namespace Go.Proofs.Ytdcolicajjmffaa
section
open Go.RowKit
open FP
theorem sp_info : (Try.prog.info? 25).map (fun i => (i.zero, i.size, i.bytes)) = some (some (.agg #[.int .i64 0, .int .i64 0]), 2, 16) := by kernel_rfl
def spCell (lo hi : Nat → Int) (j : Nat) : Int := if j % 2 = 0 then lo (j / 2) else hi (j / 2)
def spCells (lo hi : Nat → Int) (n : Nat) : List Value := (List.range (n * 2)).map fun j => .int .i64 (spCell lo hi j)
theorem spCells_len (lo hi : Nat → Int) (n : Nat) : (spCells lo hi n).length = n * 2 := by simp [spCells]
theorem spCells_at (lo hi : Nat → Int) (n : Nat) {j : Nat} (h : j < n * 2) : (spCells lo hi n)[j]? = some (.int .i64 (spCell lo hi j)) := by simp [spCells, h]
theorem spCells_one (lo hi : Nat → Int) (n : Nat) : ∀ u ∈ spCells lo hi n, u.oneCell' = true := by
 intro u hu
 simp only [spCells, List.mem_map] at hu
 obtain ⟨j, _, rfl⟩ := hu
 rfl
theorem add_off2 (a : Addr) (k j : Nat) (hj : 0 < j) : (a.add k).add j = ⟨a.block, (a.add k).off + j, none⟩ := by
 unfold Addr.add
 rw [if_neg (by omega)]
 split <;> rfl
theorem sp_cell {w : World} {ad : Addr} {n : Nat} {lo hi : Nat → Int} (hT : SpL w (some ad) n lo hi) (j : Nat) (u : Value) (h : (spCells lo hi n)[j]? = some u) : w.cell? (ad.add j) = some u := by
 have hj : j < n * 2 := by
  rcases Nat.lt_or_ge j (n * 2) with c | c
  ·exact c
  ·rw [List.getElem?_eq_none (by rw [spCells_len]; exact c)] at h; cases h
 rw [spCells_at _ _ _ hj] at h
 injection h with h
 subst h
 obtain ⟨ad', e, hl, T⟩ := hT (by omega)
 injection e with e
 subst e
 have hi3 : j / 2 < n := by omega
 by_cases h0 : j % 2 = 0
 ·have := (T (j / 2) hi3).1
  rw [show j / 2 * 2 = j by omega] at this
  rw [this]; simp [spCell, h0]
 ·have e : j = j / 2 * 2 + 1 := by omega
  have := (T (j / 2) hi3).2
  rw [e, ← addadd, add_off2 _ _ _ (by omega), this]
  simp only [spCell]
  rw [if_neg (by omega), show (j / 2 * 2 + 1) / 2 = j / 2 by omega]
theorem own_sp {w : World} {base g n cap : Nat} {lo hi : Nat → Int} (h : w.ownsRow base 25 2 (.slice (some ⟨g, 0, none⟩) n cap) n (spCells lo hi n)) : SpL w (some ⟨g, 0, none⟩) n lo hi := fun h0 => by
 have hc := h.cells (g := g) rfl
 have key : ∀ j, j < n * 2 → w.cell? ((⟨g, 0, none⟩ : Addr).add j) = some (.int .i64 (spCell lo hi j)) := fun j hj => hc j _ (spCells_at _ _ _ hj)
 refine ⟨_, rfl, (h.lt g rfl).2, fun i hi' => ⟨?_, ?_⟩⟩
 ·rw [key _ (by omega)]
  simp only [spCell]
  rw [if_pos (by omega), show i * 2 / 2 = i by omega]
 ·have := key (i * 2 + 1) (by omega)
  rw [← addadd, add_off2 _ _ _ (by omega)] at this
  rw [this]
  simp only [spCell]
  rw [if_neg (by omega), show (i * 2 + 1) / 2 = i by omega]
theorem below_own2 {B : Nat} {a w w' : World} {base : Nat} {e : TypeId} {size : Nat} {v : Value} {n : Nat} {xs : List Value} (h : Below B a w) (ho : w.ownsRow base e size v n xs) (hg : w.grownBy w' v.ownBlock) (hB : B ≤ base) (hs : B ≤ w.heap.size) : Below B a w' :=
 h.grown hg hs (fun k hk => Nat.le_trans hB (ho.lt k hk).1)
theorem own_row2 {w : World} {base n : Nat} {e : TypeId} {size : Nat} {v : Value} {xs : List Value} (h : w.ownsRow base e size v n xs) (hv : ¬ v = .slice none 0 0) : ∃ g cap, v = .slice (some ⟨g, 0, none⟩) n cap := by
 rcases h.2 with ⟨h1, _⟩ | ⟨g, cap, cur, rfl, _⟩
 ·exact absurd h1 hv
 ·exact ⟨g, cap, rfl⟩
namespace lawSpanLists
open Go.ChangeShapes Go.WideShapes Go.ChangeAt Go.Joins
set_option maxHeartbeats 4000000 in
set_option maxRecDepth 100000 in
theorem walk_some (ad : Addr) (n cap : Nat) (B : Option Addr) (m cap' : Nat) (lo hi lo' hi' : Nat → Int) (hE : ∀ j, FD.In64 (lo j) ∧ FD.In64 (hi j)) (hE' : ∀ j, FD.In64 (lo' j) ∧ FD.In64 (hi' j)) (w : World) (hT : SpL w (some ad) n lo hi) (hT' : SpL w B m lo' hi') (hn70 : n ≤ 70) (hm70 : m ≤ 70) :
  Calls Try.prog 3 #[.slice (some ad) n cap, .slice B m cap'] w fun e w' => e = .returned (.bool true) ∧ Below w.heap.size w w' := by
 obtain ⟨i0, hi0, hq0, hq1, hq2⟩ := info_parts sp_info
 have HA := hide (fun W (hb : Below w.heap.size w W) => hT.below hb)
 have HM := hide (fun W (hb : Below w.heap.size w W) => hT'.below hb)
 have SO := hide (fun cp g W hg hS => sum_own g n cp lo hi hE hn70 W hg hS)
 have RS := hide (fun W hS => rsum_any (some ad) n cap lo hi hE hn70 W hS)
 have DO := hide (fun cp g W hg hS hS' => dot_own g n cp B m cap' lo hi lo' hi' hE hE' hn70 hm70 W hg hS hS')
 have RD := hide (fun W hS hS' => rdot_any (some ad) n cap B m cap' lo hi lo' hi' hE hE' hn70 hm70 W hS hS')
 have NO := hide (fun cp g W hg hS => norm_own g n cp lo hi hE hn70 W hg hS)
 have RN := hide (fun W hS => rnorm_any (some ad) n cap lo hi hE hn70 W hS)
 generalize sumR n lo hi hE = S at *
 generalize dotR n m lo hi lo' hi' hE hE' = D at *
 generalize normR n lo hi hE = N at *
 obtain ⟨⟨sl, sh, s2⟩, se⟩ := S
 obtain ⟨⟨dl, dh, d2⟩, de⟩ := D
 obtain ⟨⟨nl, nh, n2⟩, ne⟩ := N
 dsimp only [FD.spv] at SO RS DO RD NO RN
 have HC := hide (fun j u h => sp_cell (w := w.alloc (.cells #[] 25)) (n := n) (lo := lo) (hi := hi) (hT.below blw_) j u h)
 have HO := hide (World.ownsRow_lit w (base := w.heap.size) (e := 25) (size := 2) #[] 0 (by simp) (by unfold maxLen; omega) rfl)
 have hml : n ≤ maxLen := by unfold maxLen; omega
 clear hT hT'
 have hnI : ¬ (70 : Int) < (n : Int) := by omega
 have hmI : ¬ (70 : Int) < (m : Int) := by omega
 go_enter Try.func3, Try.ntmps3
 go_wp2_with (at_builtin; refine wpList_append_own _ rfl (.tmp 27) (.tmp 28) 22 rfl w.heap.size 25 i0 (.agg #[.int .i64 0, .int .i64 0]) 2 16 Try.underlying22 hi0 hq0 hq1 hq2 rfl (by decide) (.slice (some ⟨w.heap.size, 0, none⟩) 0 0) 0 [] rfl (by simpa using HO.out) ad n cap (spCells lo hi n) rfl (spCells_len _ _ _) HC.out (spCells_one _ _ _) (by omega) (by omega) (by simp) ?_; intro v8 w8 hown8 hgrow8 hnil8)
 simp only [Nat.zero_add, List.nil_append] at hown8
 obtain ⟨g, cp, rfl⟩ := own_row2 hown8 (by rw [hnil8]; simp)
 have hb8 : Below w.heap.size w w8 := below_own2 (w := (w.alloc (.cells #[] 25))) (blw_) (by simpa using HO.out) hgrow8 (by omega) (by simp)
 have hs8 := hb8.size
 have hg8 := (hown8.lt g rfl).2
 have hO8 := own_sp hown8
 have HW := hide (fun W (hb : Below w8.heap.size w8 W) => And.intro (hO8.below hb) (Nat.lt_of_lt_of_le hg8 hb.size))
 clear hown8 hgrow8 hnil8 HC HO
 refine (SO.out cp g _ (by first | exact hg8 | simp) hO8).mono ?_
 rintro e w1 ⟨rfl, hb1⟩
 have hz1 := hb1.size
 try simp only [World.size_alloc] at hz1
 have y0 : w.heap.size ≤ w1.heap.size := by omega
 go_wp2_with fail
 refine (RS.out _ (HA.out _ blw_)).mono ?_
 rintro e w2 ⟨rfl, hb2⟩
 obtain ⟨hc2, hf2⟩ := bcell hb2
 have hz2 := hb2.size
 try simp only [World.size_alloc, World.size_setCell] at hz2
 try have : w1.heap.size < w2.heap.size := by omega
 try have : w1.heap.size < w2.heap.size + 1 := by omega
 try have : w1.heap.size ≤ w2.heap.size := by omega
 have c2_0_0 := zci w2 w1.heap.size 0 (sl) (by go_simp)
 have c2_0_1 := zci w2 w1.heap.size 1 (sh) (by go_simp)
 clear hc2 hf2
 go_wp2_with fail
 refine (DO.out cp g _ (HW.out _ blw_).2 (HW.out _ blw_).1 (HM.out _ blw_)).mono ?_
 rintro e w3 ⟨rfl, hb3⟩
 obtain ⟨hc3, hf3⟩ := bcell hb3
 have hz3 := hb3.size
 try simp only [World.size_alloc, World.size_setCell] at hz3
 try have : w1.heap.size < w3.heap.size := by omega
 try have : w1.heap.size < w3.heap.size + 1 := by omega
 try have : w1.heap.size ≤ w3.heap.size := by omega
 try have : w2.heap.size < w3.heap.size := by omega
 try have : w2.heap.size < w3.heap.size + 1 := by omega
 try have : w2.heap.size ≤ w3.heap.size := by omega
 have c3_0_0 := zci w3 w1.heap.size 0 (sl) (by go_simp)
 have c3_0_1 := zci w3 w1.heap.size 1 (sh) (by go_simp)
 have c3_1_0 := zci w3 w2.heap.size 0 (sl) (by go_simp)
 have c3_1_1 := zci w3 w2.heap.size 1 (sh) (by go_simp)
 clear hc3 hf3 c2_0_0 c2_0_1
 go_wp2_with fail
 refine (RD.out _ (HA.out _ blw_) (HM.out _ blw_)).mono ?_
 rintro e w4 ⟨rfl, hb4⟩
 obtain ⟨hc4, hf4⟩ := bcell hb4
 have hz4 := hb4.size
 try simp only [World.size_alloc, World.size_setCell] at hz4
 try have : w1.heap.size < w4.heap.size := by omega
 try have : w1.heap.size < w4.heap.size + 1 := by omega
 try have : w1.heap.size ≤ w4.heap.size := by omega
 try have : w2.heap.size < w4.heap.size := by omega
 try have : w2.heap.size < w4.heap.size + 1 := by omega
 try have : w2.heap.size ≤ w4.heap.size := by omega
 try have : w3.heap.size < w4.heap.size := by omega
 try have : w3.heap.size < w4.heap.size + 1 := by omega
 try have : w3.heap.size ≤ w4.heap.size := by omega
 have c4_0_0 := zci w4 w1.heap.size 0 (sl) (by go_simp)
 have c4_0_1 := zci w4 w1.heap.size 1 (sh) (by go_simp)
 have c4_1_0 := zci w4 w2.heap.size 0 (sl) (by go_simp)
 have c4_1_1 := zci w4 w2.heap.size 1 (sh) (by go_simp)
 have c4_2_0 := zci w4 w3.heap.size 0 (dl) (by go_simp)
 have c4_2_1 := zci w4 w3.heap.size 1 (dh) (by go_simp)
 clear hc4 hf4 c3_0_0 c3_0_1 c3_1_0 c3_1_1
 go_wp2_with fail
 refine (NO.out cp g _ (HW.out _ blw_).2 (HW.out _ blw_).1).mono ?_
 rintro e w5 ⟨rfl, hb5⟩
 obtain ⟨hc5, hf5⟩ := bcell hb5
 have hz5 := hb5.size
 try simp only [World.size_alloc, World.size_setCell] at hz5
 try have : w1.heap.size < w5.heap.size := by omega
 try have : w1.heap.size < w5.heap.size + 1 := by omega
 try have : w1.heap.size ≤ w5.heap.size := by omega
 try have : w2.heap.size < w5.heap.size := by omega
 try have : w2.heap.size < w5.heap.size + 1 := by omega
 try have : w2.heap.size ≤ w5.heap.size := by omega
 try have : w3.heap.size < w5.heap.size := by omega
 try have : w3.heap.size < w5.heap.size + 1 := by omega
 try have : w3.heap.size ≤ w5.heap.size := by omega
 try have : w4.heap.size < w5.heap.size := by omega
 try have : w4.heap.size < w5.heap.size + 1 := by omega
 try have : w4.heap.size ≤ w5.heap.size := by omega
 have c5_0_0 := zci w5 w1.heap.size 0 (sl) (by go_simp)
 have c5_0_1 := zci w5 w1.heap.size 1 (sh) (by go_simp)
 have c5_1_0 := zci w5 w2.heap.size 0 (sl) (by go_simp)
 have c5_1_1 := zci w5 w2.heap.size 1 (sh) (by go_simp)
 have c5_2_0 := zci w5 w3.heap.size 0 (dl) (by go_simp)
 have c5_2_1 := zci w5 w3.heap.size 1 (dh) (by go_simp)
 have c5_3_0 := zci w5 w4.heap.size 0 (dl) (by go_simp)
 have c5_3_1 := zci w5 w4.heap.size 1 (dh) (by go_simp)
 clear hc5 hf5 c4_0_0 c4_0_1 c4_1_0 c4_1_1 c4_2_0 c4_2_1
 go_wp2_with fail
 refine (RN.out _ (HA.out _ blw_)).mono ?_
 rintro e w6 ⟨rfl, hb6⟩
 obtain ⟨hc6, hf6⟩ := bcell hb6
 have hz6 := hb6.size
 try simp only [World.size_alloc, World.size_setCell] at hz6
 try have : w1.heap.size < w6.heap.size := by omega
 try have : w1.heap.size < w6.heap.size + 1 := by omega
 try have : w1.heap.size ≤ w6.heap.size := by omega
 try have : w2.heap.size < w6.heap.size := by omega
 try have : w2.heap.size < w6.heap.size + 1 := by omega
 try have : w2.heap.size ≤ w6.heap.size := by omega
 try have : w3.heap.size < w6.heap.size := by omega
 try have : w3.heap.size < w6.heap.size + 1 := by omega
 try have : w3.heap.size ≤ w6.heap.size := by omega
 try have : w4.heap.size < w6.heap.size := by omega
 try have : w4.heap.size < w6.heap.size + 1 := by omega
 try have : w4.heap.size ≤ w6.heap.size := by omega
 try have : w5.heap.size < w6.heap.size := by omega
 try have : w5.heap.size < w6.heap.size + 1 := by omega
 try have : w5.heap.size ≤ w6.heap.size := by omega
 have c6_0_0 := zci w6 w1.heap.size 0 (sl) (by go_simp)
 have c6_0_1 := zci w6 w1.heap.size 1 (sh) (by go_simp)
 have c6_1_0 := zci w6 w2.heap.size 0 (sl) (by go_simp)
 have c6_1_1 := zci w6 w2.heap.size 1 (sh) (by go_simp)
 have c6_2_0 := zci w6 w3.heap.size 0 (dl) (by go_simp)
 have c6_2_1 := zci w6 w3.heap.size 1 (dh) (by go_simp)
 have c6_3_0 := zci w6 w4.heap.size 0 (dl) (by go_simp)
 have c6_3_1 := zci w6 w4.heap.size 1 (dh) (by go_simp)
 have c6_4_0 := zci w6 w5.heap.size 0 (nl) (by go_simp)
 have c6_4_1 := zci w6 w5.heap.size 1 (nh) (by go_simp)
 clear hc6 hf6 c5_0_0 c5_0_1 c5_1_0 c5_1_1 c5_2_0 c5_2_1 c5_3_0 c5_3_1
 go_wp2
 have hbW : Below w.heap.size w (w6.alloc (.cells #[.int .i64 nl, .int .i64 nh] 25)) := blw_
 have hOW := (HW.out (w6.alloc (.cells #[.int .i64 nl, .int .i64 nh] 25)) blw_).1
 have j00 : (w6.alloc (.cells #[.int .i64 nl, .int .i64 nh] 25)).cell? ⟨w1.heap.size, 0, none⟩ = some (.int .i64 sl) := by go_simp
 have j01 : (w6.alloc (.cells #[.int .i64 nl, .int .i64 nh] 25)).cell? ⟨w1.heap.size, 1, none⟩ = some (.int .i64 sh) := by go_simp
 have j02 : w1.heap.size < (w6.alloc (.cells #[.int .i64 nl, .int .i64 nh] 25)).heap.size := by first | (simp; done) | (simp; omega)
 have j10 : (w6.alloc (.cells #[.int .i64 nl, .int .i64 nh] 25)).cell? ⟨w2.heap.size, 0, none⟩ = some (.int .i64 sl) := by go_simp
 have j11 : (w6.alloc (.cells #[.int .i64 nl, .int .i64 nh] 25)).cell? ⟨w2.heap.size, 1, none⟩ = some (.int .i64 sh) := by go_simp
 have j12 : w2.heap.size < (w6.alloc (.cells #[.int .i64 nl, .int .i64 nh] 25)).heap.size := by first | (simp; done) | (simp; omega)
 have j20 : (w6.alloc (.cells #[.int .i64 nl, .int .i64 nh] 25)).cell? ⟨w3.heap.size, 0, none⟩ = some (.int .i64 dl) := by go_simp
 have j21 : (w6.alloc (.cells #[.int .i64 nl, .int .i64 nh] 25)).cell? ⟨w3.heap.size, 1, none⟩ = some (.int .i64 dh) := by go_simp
 have j22 : w3.heap.size < (w6.alloc (.cells #[.int .i64 nl, .int .i64 nh] 25)).heap.size := by first | (simp; done) | (simp; omega)
 have j30 : (w6.alloc (.cells #[.int .i64 nl, .int .i64 nh] 25)).cell? ⟨w4.heap.size, 0, none⟩ = some (.int .i64 dl) := by go_simp
 have j31 : (w6.alloc (.cells #[.int .i64 nl, .int .i64 nh] 25)).cell? ⟨w4.heap.size, 1, none⟩ = some (.int .i64 dh) := by go_simp
 have j32 : w4.heap.size < (w6.alloc (.cells #[.int .i64 nl, .int .i64 nh] 25)).heap.size := by first | (simp; done) | (simp; omega)
 have j40 : (w6.alloc (.cells #[.int .i64 nl, .int .i64 nh] 25)).cell? ⟨w5.heap.size, 0, none⟩ = some (.int .i64 nl) := by go_simp
 have j41 : (w6.alloc (.cells #[.int .i64 nl, .int .i64 nh] 25)).cell? ⟨w5.heap.size, 1, none⟩ = some (.int .i64 nh) := by go_simp
 have j42 : w5.heap.size < (w6.alloc (.cells #[.int .i64 nl, .int .i64 nh] 25)).heap.size := by first | (simp; done) | (simp; omega)
 have j50 : (w6.alloc (.cells #[.int .i64 nl, .int .i64 nh] 25)).cell? ⟨w6.heap.size, 0, none⟩ = some (.int .i64 nl) := by go_simp
 have j51 : (w6.alloc (.cells #[.int .i64 nl, .int .i64 nh] 25)).cell? ⟨w6.heap.size, 1, none⟩ = some (.int .i64 nh) := by go_simp
 have j52 : w6.heap.size < (w6.alloc (.cells #[.int .i64 nl, .int .i64 nh] 25)).heap.size := by first | (simp; done) | (simp; omega)
 have HOW := hide hOW
 clear hOW SO RS DO RD NO RN
 generalize w6.alloc (.cells #[.int .i64 nl, .int .i64 nh] 25) = W3 at *
 clear hb1 hb2 hb3 hb4 hb5 hb6
 go_loopw [64, 18] (fun s64 s18 wr => ∃ k : Nat, k ≤ n ∧ s64 = .int .i64 k ∧ Below W3.heap.size W3 wr) (fun s64 _ _ => n - (intOf s64).toNat)
 case atStart => exact ⟨0, by omega, rfl, Below.refl _ _⟩
 case round =>
  obtain ⟨k, hk, rfl, hb24⟩ := hrel
  have hs24 := hb24.size
  by_cases hlt : k < n
  ·have hT1 := HOW.out.below hb24
   obtain ⟨ad1, e1, hs1, hT1⟩ := hT1 (by omega)
   injection e1 with e1
   subst e1
   obtain ⟨ad', hax, hs2, hT2⟩ := HA.out wr (hbW.trans (hb24.mono hbW.size)) (by omega)
   obtain rfl : ad' = ad := by injection hax with h; exact h.symm
   have t0 := (hT1 k hlt).1
   have t1 := (hT1 k hlt).2
   have u0 := (hT2 k hlt).1
   have u1 := (hT2 k hlt).2
   have e3 : (⟨g, 0, none⟩ : Addr).add (k * 2) = ⟨g, k * 2, none⟩ := by unfold Addr.add; split <;> simp_all
   rw [e3] at t0 t1
   have g1 : decide ((k : Int) < (n : Int)) = true := decide_eq_true (by omega)
   have hba := block_add ad'
   clear hT1 hT2 hax e3
   generalize lo k = x0 at *
   generalize hi k = x1 at *
   go_wp2_with fail
   refine QT.quiet_b (by kernel_rfl) (by kernel_rfl) ?_
   repeat (first
    | go_big_quiet_skip
    | (go_big_quiet_want; go_big_quiet_op; first
     | go_big_quiet_on
     | (apply Exists.intro
        refine ⟨fun _ => ?_, ?_⟩
        ·first
         | rfl
         | (intro hC; obtain ⟨hcq, hfq⟩ := bcellB hC; go_simp; done)
         | (intro hC; obtain ⟨hcq, hfq⟩ := bcellB hC; go_simp; rfl)
         | (intro hC; have hcq := bcellG hC; go_simp; done)
         | (intro hC; have hcq := bcellG hC; go_simp; rfl)
        go_big_quiet_on)))
   refine wpQuiet_nil ?_
   intro w9 hC9
   obtain ⟨hc9, hf9⟩ := bcellB hC9
   have hz9 := hC9.size
   go_wp2
   go_roundw
   case rel => exact ⟨k + 1, by omega, by go_num, blw_⟩
   case measure => simp [intOf]; omega
  ·obtain rfl : k = n := by omega
   have hcc := (bcell hb24).1
   have q00 := (hcc _ 0 j02).trans j00
   have q01 := (hcc _ 1 j02).trans j01
   have r0 : w1.heap.size < wr.heap.size := by omega
   have q10 := (hcc _ 0 j12).trans j10
   have q11 := (hcc _ 1 j12).trans j11
   have r1 : w2.heap.size < wr.heap.size := by omega
   have q20 := (hcc _ 0 j22).trans j20
   have q21 := (hcc _ 1 j22).trans j21
   have r2 : w3.heap.size < wr.heap.size := by omega
   have q30 := (hcc _ 0 j32).trans j30
   have q31 := (hcc _ 1 j32).trans j31
   have r3 : w4.heap.size < wr.heap.size := by omega
   have q40 := (hcc _ 0 j42).trans j40
   have q41 := (hcc _ 1 j42).trans j41
   have r4 : w5.heap.size < wr.heap.size := by omega
   have q50 := (hcc _ 0 j52).trans j50
   have q51 := (hcc _ 1 j52).trans j51
   have r5 : w6.heap.size < wr.heap.size := by omega
   have hb25 := hbW.trans (hb24.mono hbW.size)
   clear hcc HW HA HM HOW
   go_wp2_with fail
   refine (same_any sl sh se _).mono ?_
   rintro e w11 ⟨rfl, hb11⟩
   obtain ⟨hc11, hf11⟩ := bcell hb11
   have hz11 := hb11.size
   try simp only [World.size_alloc, World.size_setCell] at hz11
   try have : w1.heap.size < w11.heap.size := by omega
   try have : w1.heap.size ≤ w11.heap.size := by omega
   try have : w2.heap.size < w11.heap.size := by omega
   try have : w2.heap.size ≤ w11.heap.size := by omega
   try have : w3.heap.size < w11.heap.size := by omega
   try have : w3.heap.size ≤ w11.heap.size := by omega
   try have : w4.heap.size < w11.heap.size := by omega
   try have : w4.heap.size ≤ w11.heap.size := by omega
   try have : w5.heap.size < w11.heap.size := by omega
   try have : w5.heap.size ≤ w11.heap.size := by omega
   try have : w6.heap.size < w11.heap.size := by omega
   try have : w6.heap.size ≤ w11.heap.size := by omega
   have c11_0_0 := zci w11 w1.heap.size 0 (sl) (by go_simp)
   have c11_0_1 := zci w11 w1.heap.size 1 (sh) (by go_simp)
   have c11_1_0 := zci w11 w2.heap.size 0 (sl) (by go_simp)
   have c11_1_1 := zci w11 w2.heap.size 1 (sh) (by go_simp)
   have c11_2_0 := zci w11 w3.heap.size 0 (dl) (by go_simp)
   have c11_2_1 := zci w11 w3.heap.size 1 (dh) (by go_simp)
   have c11_3_0 := zci w11 w4.heap.size 0 (dl) (by go_simp)
   have c11_3_1 := zci w11 w4.heap.size 1 (dh) (by go_simp)
   have c11_4_0 := zci w11 w5.heap.size 0 (nl) (by go_simp)
   have c11_4_1 := zci w11 w5.heap.size 1 (nh) (by go_simp)
   have c11_5_0 := zci w11 w6.heap.size 0 (nl) (by go_simp)
   have c11_5_1 := zci w11 w6.heap.size 1 (nh) (by go_simp)
   clear hc11 hf11
   go_wp2_with fail
   refine (same_any dl dh de _).mono ?_
   rintro e w12 ⟨rfl, hb12⟩
   obtain ⟨hc12, hf12⟩ := bcell hb12
   have hz12 := hb12.size
   try simp only [World.size_alloc, World.size_setCell] at hz12
   try have : w1.heap.size < w12.heap.size := by omega
   try have : w1.heap.size ≤ w12.heap.size := by omega
   try have : w2.heap.size < w12.heap.size := by omega
   try have : w2.heap.size ≤ w12.heap.size := by omega
   try have : w3.heap.size < w12.heap.size := by omega
   try have : w3.heap.size ≤ w12.heap.size := by omega
   try have : w4.heap.size < w12.heap.size := by omega
   try have : w4.heap.size ≤ w12.heap.size := by omega
   try have : w5.heap.size < w12.heap.size := by omega
   try have : w5.heap.size ≤ w12.heap.size := by omega
   try have : w6.heap.size < w12.heap.size := by omega
   try have : w6.heap.size ≤ w12.heap.size := by omega
   have c12_0_0 := zci w12 w1.heap.size 0 (sl) (by go_simp)
   have c12_0_1 := zci w12 w1.heap.size 1 (sh) (by go_simp)
   have c12_1_0 := zci w12 w2.heap.size 0 (sl) (by go_simp)
   have c12_1_1 := zci w12 w2.heap.size 1 (sh) (by go_simp)
   have c12_2_0 := zci w12 w3.heap.size 0 (dl) (by go_simp)
   have c12_2_1 := zci w12 w3.heap.size 1 (dh) (by go_simp)
   have c12_3_0 := zci w12 w4.heap.size 0 (dl) (by go_simp)
   have c12_3_1 := zci w12 w4.heap.size 1 (dh) (by go_simp)
   have c12_4_0 := zci w12 w5.heap.size 0 (nl) (by go_simp)
   have c12_4_1 := zci w12 w5.heap.size 1 (nh) (by go_simp)
   have c12_5_0 := zci w12 w6.heap.size 0 (nl) (by go_simp)
   have c12_5_1 := zci w12 w6.heap.size 1 (nh) (by go_simp)
   clear hc12 hf12 c11_0_0 c11_0_1 c11_1_0 c11_1_1 c11_2_0 c11_2_1 c11_3_0 c11_3_1 c11_4_0 c11_4_1 c11_5_0 c11_5_1
   go_wp2_with fail
   refine (same_any nl nh ne _).mono ?_
   rintro e w13 ⟨rfl, hb13⟩
   obtain ⟨hc13, hf13⟩ := bcell hb13
   have hz13 := hb13.size
   try simp only [World.size_alloc, World.size_setCell] at hz13
   try have : w1.heap.size < w13.heap.size := by omega
   try have : w1.heap.size ≤ w13.heap.size := by omega
   try have : w2.heap.size < w13.heap.size := by omega
   try have : w2.heap.size ≤ w13.heap.size := by omega
   try have : w3.heap.size < w13.heap.size := by omega
   try have : w3.heap.size ≤ w13.heap.size := by omega
   try have : w4.heap.size < w13.heap.size := by omega
   try have : w4.heap.size ≤ w13.heap.size := by omega
   try have : w5.heap.size < w13.heap.size := by omega
   try have : w5.heap.size ≤ w13.heap.size := by omega
   try have : w6.heap.size < w13.heap.size := by omega
   try have : w6.heap.size ≤ w13.heap.size := by omega
   have c13_0_0 := zci w13 w1.heap.size 0 (sl) (by go_simp)
   have c13_0_1 := zci w13 w1.heap.size 1 (sh) (by go_simp)
   have c13_1_0 := zci w13 w2.heap.size 0 (sl) (by go_simp)
   have c13_1_1 := zci w13 w2.heap.size 1 (sh) (by go_simp)
   have c13_2_0 := zci w13 w3.heap.size 0 (dl) (by go_simp)
   have c13_2_1 := zci w13 w3.heap.size 1 (dh) (by go_simp)
   have c13_3_0 := zci w13 w4.heap.size 0 (dl) (by go_simp)
   have c13_3_1 := zci w13 w4.heap.size 1 (dh) (by go_simp)
   have c13_4_0 := zci w13 w5.heap.size 0 (nl) (by go_simp)
   have c13_4_1 := zci w13 w5.heap.size 1 (nh) (by go_simp)
   have c13_5_0 := zci w13 w6.heap.size 0 (nl) (by go_simp)
   have c13_5_1 := zci w13 w6.heap.size 1 (nh) (by go_simp)
   clear hc13 hf13 c12_0_0 c12_0_1 c12_1_0 c12_1_1 c12_2_0 c12_2_1 c12_3_0 c12_3_1 c12_4_0 c12_4_1 c12_5_0 c12_5_1
   go_wp2
   go_ret
   exact ⟨rfl, blw_⟩
end lawSpanLists
end
section
open Go.RowKit
open FP
namespace lawSpanLists
open Go.ChangeShapes Go.WideShapes Go.ChangeAt Go.Joins
set_option maxHeartbeats 4000000 in
set_option maxRecDepth 100000 in
theorem walk_nil (B : Option Addr) (m cap' : Nat) (lo hi lo' hi' : Nat → Int) (hE : ∀ j, FD.In64 (lo j) ∧ FD.In64 (hi j)) (hE' : ∀ j, FD.In64 (lo' j) ∧ FD.In64 (hi' j)) (w : World) (hT' : SpL w B m lo' hi') (hm70 : m ≤ 70) :
  Calls Try.prog 3 #[.slice none 0 0, .slice B m cap'] w fun e w' => e = .returned (.bool true) ∧ Below w.heap.size w w' := by
 obtain ⟨i0, hi0, hq0, hq1, hq2⟩ := info_parts sp_info
 have hn70 : 0 ≤ 70 := by omega
 have HA : Hid (∀ W, Below w.heap.size w W → SpL W none 0 lo hi) := hide (fun W hb h => absurd h (by omega))
 have HM := hide (fun W (hb : Below w.heap.size w W) => hT'.below hb)
 have SO := hide (fun cp g W hg hS => sum_own g 0 cp lo hi hE hn70 W hg hS)
 have RS := hide (fun W hS => rsum_any none 0 0 lo hi hE hn70 W hS)
 have DO := hide (fun cp g W hg hS hS' => dot_own g 0 cp B m cap' lo hi lo' hi' hE hE' hn70 hm70 W hg hS hS')
 have RD := hide (fun W hS hS' => rdot_any none 0 0 B m cap' lo hi lo' hi' hE hE' hn70 hm70 W hS hS')
 have NO := hide (fun cp g W hg hS => norm_own g 0 cp lo hi hE hn70 W hg hS)
 have RN := hide (fun W hS => rnorm_any none 0 0 lo hi hE hn70 W hS)
 generalize sumR 0 lo hi hE = S at *
 generalize dotR 0 m lo hi lo' hi' hE hE' = D at *
 generalize normR 0 lo hi hE = N at *
 obtain ⟨⟨sl, sh, s2⟩, se⟩ := S
 obtain ⟨⟨dl, dh, d2⟩, de⟩ := D
 obtain ⟨⟨nl, nh, n2⟩, ne⟩ := N
 dsimp only [FD.spv] at SO RS DO RD NO RN
 have HO := hide (World.ownsRow_lit w (base := w.heap.size) (e := 25) (size := 2) #[] 0 (by simp) (by unfold maxLen; omega) rfl)
 have hml : 0 ≤ maxLen := by unfold maxLen; omega
 clear hT'
 have hmI : ¬ (70 : Int) < (m : Int) := by omega
 go_enter Try.func3, Try.ntmps3
 go_wp2_with (at_builtin; refine wpList_append_own_none rfl (.tmp 27) (.tmp 28) 22 rfl w.heap.size 25 i0 2 Try.underlying22 hi0 (.slice (some ⟨w.heap.size, 0, none⟩) 0 0) 0 [] rfl (by simpa using HO.out) rfl ?_)
 obtain ⟨w8, hw8⟩ : ∃ w8, w8 = w.alloc (.cells #[] 25) := ⟨_, rfl⟩
 have hg8 : w.heap.size < w8.heap.size := by rw [hw8]; simp
 have hb8 : Below w.heap.size w w8 := by rw [hw8]; exact blw_
 rw [← hw8]
 clear hw8
 have hs8 := hb8.size
 have hO8 : SpL w8 (some ⟨w.heap.size, 0, none⟩) 0 lo hi := fun h => absurd h (by omega)
 have HW := hide (fun W (hb : Below w8.heap.size w8 W) => And.intro (hO8.below hb) (Nat.lt_of_lt_of_le hg8 hb.size))
 clear HO
 refine (SO.out 0 w.heap.size _ (by first | exact hg8 | simp) hO8).mono ?_
 rintro e w1 ⟨rfl, hb1⟩
 have hz1 := hb1.size
 try simp only [World.size_alloc] at hz1
 have y0 : w.heap.size ≤ w1.heap.size := by omega
 go_wp2_with fail
 refine (RS.out _ (HA.out _ blw_)).mono ?_
 rintro e w2 ⟨rfl, hb2⟩
 obtain ⟨hc2, hf2⟩ := bcell hb2
 have hz2 := hb2.size
 try simp only [World.size_alloc, World.size_setCell] at hz2
 try have : w1.heap.size < w2.heap.size := by omega
 try have : w1.heap.size < w2.heap.size + 1 := by omega
 try have : w1.heap.size ≤ w2.heap.size := by omega
 have c2_0_0 := zci w2 w1.heap.size 0 (sl) (by go_simp)
 have c2_0_1 := zci w2 w1.heap.size 1 (sh) (by go_simp)
 clear hc2 hf2
 go_wp2_with fail
 refine (DO.out 0 w.heap.size _ (HW.out _ blw_).2 (HW.out _ blw_).1 (HM.out _ blw_)).mono ?_
 rintro e w3 ⟨rfl, hb3⟩
 obtain ⟨hc3, hf3⟩ := bcell hb3
 have hz3 := hb3.size
 try simp only [World.size_alloc, World.size_setCell] at hz3
 try have : w1.heap.size < w3.heap.size := by omega
 try have : w1.heap.size < w3.heap.size + 1 := by omega
 try have : w1.heap.size ≤ w3.heap.size := by omega
 try have : w2.heap.size < w3.heap.size := by omega
 try have : w2.heap.size < w3.heap.size + 1 := by omega
 try have : w2.heap.size ≤ w3.heap.size := by omega
 have c3_0_0 := zci w3 w1.heap.size 0 (sl) (by go_simp)
 have c3_0_1 := zci w3 w1.heap.size 1 (sh) (by go_simp)
 have c3_1_0 := zci w3 w2.heap.size 0 (sl) (by go_simp)
 have c3_1_1 := zci w3 w2.heap.size 1 (sh) (by go_simp)
 clear hc3 hf3 c2_0_0 c2_0_1
 go_wp2_with fail
 refine (RD.out _ (HA.out _ blw_) (HM.out _ blw_)).mono ?_
 rintro e w4 ⟨rfl, hb4⟩
 obtain ⟨hc4, hf4⟩ := bcell hb4
 have hz4 := hb4.size
 try simp only [World.size_alloc, World.size_setCell] at hz4
 try have : w1.heap.size < w4.heap.size := by omega
 try have : w1.heap.size < w4.heap.size + 1 := by omega
 try have : w1.heap.size ≤ w4.heap.size := by omega
 try have : w2.heap.size < w4.heap.size := by omega
 try have : w2.heap.size < w4.heap.size + 1 := by omega
 try have : w2.heap.size ≤ w4.heap.size := by omega
 try have : w3.heap.size < w4.heap.size := by omega
 try have : w3.heap.size < w4.heap.size + 1 := by omega
 try have : w3.heap.size ≤ w4.heap.size := by omega
 have c4_0_0 := zci w4 w1.heap.size 0 (sl) (by go_simp)
 have c4_0_1 := zci w4 w1.heap.size 1 (sh) (by go_simp)
 have c4_1_0 := zci w4 w2.heap.size 0 (sl) (by go_simp)
 have c4_1_1 := zci w4 w2.heap.size 1 (sh) (by go_simp)
 have c4_2_0 := zci w4 w3.heap.size 0 (dl) (by go_simp)
 have c4_2_1 := zci w4 w3.heap.size 1 (dh) (by go_simp)
 clear hc4 hf4 c3_0_0 c3_0_1 c3_1_0 c3_1_1
 go_wp2_with fail
 refine (NO.out 0 w.heap.size _ (HW.out _ blw_).2 (HW.out _ blw_).1).mono ?_
 rintro e w5 ⟨rfl, hb5⟩
 obtain ⟨hc5, hf5⟩ := bcell hb5
 have hz5 := hb5.size
 try simp only [World.size_alloc, World.size_setCell] at hz5
 try have : w1.heap.size < w5.heap.size := by omega
 try have : w1.heap.size < w5.heap.size + 1 := by omega
 try have : w1.heap.size ≤ w5.heap.size := by omega
 try have : w2.heap.size < w5.heap.size := by omega
 try have : w2.heap.size < w5.heap.size + 1 := by omega
 try have : w2.heap.size ≤ w5.heap.size := by omega
 try have : w3.heap.size < w5.heap.size := by omega
 try have : w3.heap.size < w5.heap.size + 1 := by omega
 try have : w3.heap.size ≤ w5.heap.size := by omega
 try have : w4.heap.size < w5.heap.size := by omega
 try have : w4.heap.size < w5.heap.size + 1 := by omega
 try have : w4.heap.size ≤ w5.heap.size := by omega
 have c5_0_0 := zci w5 w1.heap.size 0 (sl) (by go_simp)
 have c5_0_1 := zci w5 w1.heap.size 1 (sh) (by go_simp)
 have c5_1_0 := zci w5 w2.heap.size 0 (sl) (by go_simp)
 have c5_1_1 := zci w5 w2.heap.size 1 (sh) (by go_simp)
 have c5_2_0 := zci w5 w3.heap.size 0 (dl) (by go_simp)
 have c5_2_1 := zci w5 w3.heap.size 1 (dh) (by go_simp)
 have c5_3_0 := zci w5 w4.heap.size 0 (dl) (by go_simp)
 have c5_3_1 := zci w5 w4.heap.size 1 (dh) (by go_simp)
 clear hc5 hf5 c4_0_0 c4_0_1 c4_1_0 c4_1_1 c4_2_0 c4_2_1
 go_wp2_with fail
 refine (RN.out _ (HA.out _ blw_)).mono ?_
 rintro e w6 ⟨rfl, hb6⟩
 obtain ⟨hc6, hf6⟩ := bcell hb6
 have hz6 := hb6.size
 try simp only [World.size_alloc, World.size_setCell] at hz6
 try have : w1.heap.size < w6.heap.size := by omega
 try have : w1.heap.size < w6.heap.size + 1 := by omega
 try have : w1.heap.size ≤ w6.heap.size := by omega
 try have : w2.heap.size < w6.heap.size := by omega
 try have : w2.heap.size < w6.heap.size + 1 := by omega
 try have : w2.heap.size ≤ w6.heap.size := by omega
 try have : w3.heap.size < w6.heap.size := by omega
 try have : w3.heap.size < w6.heap.size + 1 := by omega
 try have : w3.heap.size ≤ w6.heap.size := by omega
 try have : w4.heap.size < w6.heap.size := by omega
 try have : w4.heap.size < w6.heap.size + 1 := by omega
 try have : w4.heap.size ≤ w6.heap.size := by omega
 try have : w5.heap.size < w6.heap.size := by omega
 try have : w5.heap.size < w6.heap.size + 1 := by omega
 try have : w5.heap.size ≤ w6.heap.size := by omega
 have c6_0_0 := zci w6 w1.heap.size 0 (sl) (by go_simp)
 have c6_0_1 := zci w6 w1.heap.size 1 (sh) (by go_simp)
 have c6_1_0 := zci w6 w2.heap.size 0 (sl) (by go_simp)
 have c6_1_1 := zci w6 w2.heap.size 1 (sh) (by go_simp)
 have c6_2_0 := zci w6 w3.heap.size 0 (dl) (by go_simp)
 have c6_2_1 := zci w6 w3.heap.size 1 (dh) (by go_simp)
 have c6_3_0 := zci w6 w4.heap.size 0 (dl) (by go_simp)
 have c6_3_1 := zci w6 w4.heap.size 1 (dh) (by go_simp)
 have c6_4_0 := zci w6 w5.heap.size 0 (nl) (by go_simp)
 have c6_4_1 := zci w6 w5.heap.size 1 (nh) (by go_simp)
 clear hc6 hf6 c5_0_0 c5_0_1 c5_1_0 c5_1_1 c5_2_0 c5_2_1 c5_3_0 c5_3_1
 go_wp2
 have hbW : Below w.heap.size w (w6.alloc (.cells #[.int .i64 nl, .int .i64 nh] 25)) := blw_
 have hOW := (HW.out (w6.alloc (.cells #[.int .i64 nl, .int .i64 nh] 25)) blw_).1
 have j00 : (w6.alloc (.cells #[.int .i64 nl, .int .i64 nh] 25)).cell? ⟨w1.heap.size, 0, none⟩ = some (.int .i64 sl) := by go_simp
 have j01 : (w6.alloc (.cells #[.int .i64 nl, .int .i64 nh] 25)).cell? ⟨w1.heap.size, 1, none⟩ = some (.int .i64 sh) := by go_simp
 have j02 : w1.heap.size < (w6.alloc (.cells #[.int .i64 nl, .int .i64 nh] 25)).heap.size := by first | (simp; done) | (simp; omega)
 have j10 : (w6.alloc (.cells #[.int .i64 nl, .int .i64 nh] 25)).cell? ⟨w2.heap.size, 0, none⟩ = some (.int .i64 sl) := by go_simp
 have j11 : (w6.alloc (.cells #[.int .i64 nl, .int .i64 nh] 25)).cell? ⟨w2.heap.size, 1, none⟩ = some (.int .i64 sh) := by go_simp
 have j12 : w2.heap.size < (w6.alloc (.cells #[.int .i64 nl, .int .i64 nh] 25)).heap.size := by first | (simp; done) | (simp; omega)
 have j20 : (w6.alloc (.cells #[.int .i64 nl, .int .i64 nh] 25)).cell? ⟨w3.heap.size, 0, none⟩ = some (.int .i64 dl) := by go_simp
 have j21 : (w6.alloc (.cells #[.int .i64 nl, .int .i64 nh] 25)).cell? ⟨w3.heap.size, 1, none⟩ = some (.int .i64 dh) := by go_simp
 have j22 : w3.heap.size < (w6.alloc (.cells #[.int .i64 nl, .int .i64 nh] 25)).heap.size := by first | (simp; done) | (simp; omega)
 have j30 : (w6.alloc (.cells #[.int .i64 nl, .int .i64 nh] 25)).cell? ⟨w4.heap.size, 0, none⟩ = some (.int .i64 dl) := by go_simp
 have j31 : (w6.alloc (.cells #[.int .i64 nl, .int .i64 nh] 25)).cell? ⟨w4.heap.size, 1, none⟩ = some (.int .i64 dh) := by go_simp
 have j32 : w4.heap.size < (w6.alloc (.cells #[.int .i64 nl, .int .i64 nh] 25)).heap.size := by first | (simp; done) | (simp; omega)
 have j40 : (w6.alloc (.cells #[.int .i64 nl, .int .i64 nh] 25)).cell? ⟨w5.heap.size, 0, none⟩ = some (.int .i64 nl) := by go_simp
 have j41 : (w6.alloc (.cells #[.int .i64 nl, .int .i64 nh] 25)).cell? ⟨w5.heap.size, 1, none⟩ = some (.int .i64 nh) := by go_simp
 have j42 : w5.heap.size < (w6.alloc (.cells #[.int .i64 nl, .int .i64 nh] 25)).heap.size := by first | (simp; done) | (simp; omega)
 have j50 : (w6.alloc (.cells #[.int .i64 nl, .int .i64 nh] 25)).cell? ⟨w6.heap.size, 0, none⟩ = some (.int .i64 nl) := by go_simp
 have j51 : (w6.alloc (.cells #[.int .i64 nl, .int .i64 nh] 25)).cell? ⟨w6.heap.size, 1, none⟩ = some (.int .i64 nh) := by go_simp
 have j52 : w6.heap.size < (w6.alloc (.cells #[.int .i64 nl, .int .i64 nh] 25)).heap.size := by first | (simp; done) | (simp; omega)
 have HOW := hide hOW
 clear hOW SO RS DO RD NO RN
 generalize w6.alloc (.cells #[.int .i64 nl, .int .i64 nh] 25) = W3 at *
 clear hb1 hb2 hb3 hb4 hb5 hb6
 go_loopw [64, 18] (fun s64 s18 wr => ∃ k : Nat, k ≤ 0 ∧ s64 = .int .i64 k ∧ Below W3.heap.size W3 wr) (fun s64 _ _ => 0 - (intOf s64).toNat)
 case atStart => exact ⟨0, by omega, rfl, Below.refl _ _⟩
 case round =>
  obtain ⟨k, hk, rfl, hb24⟩ := hrel
  have hs24 := hb24.size
  by_cases hlt : k < 0
  ·exact absurd hlt (by omega)
  ·obtain rfl : k = 0 := by omega
   have hcc := (bcell hb24).1
   have q00 := (hcc _ 0 j02).trans j00
   have q01 := (hcc _ 1 j02).trans j01
   have r0 : w1.heap.size < wr.heap.size := by omega
   have q10 := (hcc _ 0 j12).trans j10
   have q11 := (hcc _ 1 j12).trans j11
   have r1 : w2.heap.size < wr.heap.size := by omega
   have q20 := (hcc _ 0 j22).trans j20
   have q21 := (hcc _ 1 j22).trans j21
   have r2 : w3.heap.size < wr.heap.size := by omega
   have q30 := (hcc _ 0 j32).trans j30
   have q31 := (hcc _ 1 j32).trans j31
   have r3 : w4.heap.size < wr.heap.size := by omega
   have q40 := (hcc _ 0 j42).trans j40
   have q41 := (hcc _ 1 j42).trans j41
   have r4 : w5.heap.size < wr.heap.size := by omega
   have q50 := (hcc _ 0 j52).trans j50
   have q51 := (hcc _ 1 j52).trans j51
   have r5 : w6.heap.size < wr.heap.size := by omega
   have hb25 := hbW.trans (hb24.mono hbW.size)
   clear hcc HW HA HM HOW
   go_wp2_with fail
   refine (same_any sl sh se _).mono ?_
   rintro e w11 ⟨rfl, hb11⟩
   obtain ⟨hc11, hf11⟩ := bcell hb11
   have hz11 := hb11.size
   try simp only [World.size_alloc, World.size_setCell] at hz11
   try have : w1.heap.size < w11.heap.size := by omega
   try have : w1.heap.size ≤ w11.heap.size := by omega
   try have : w2.heap.size < w11.heap.size := by omega
   try have : w2.heap.size ≤ w11.heap.size := by omega
   try have : w3.heap.size < w11.heap.size := by omega
   try have : w3.heap.size ≤ w11.heap.size := by omega
   try have : w4.heap.size < w11.heap.size := by omega
   try have : w4.heap.size ≤ w11.heap.size := by omega
   try have : w5.heap.size < w11.heap.size := by omega
   try have : w5.heap.size ≤ w11.heap.size := by omega
   try have : w6.heap.size < w11.heap.size := by omega
   try have : w6.heap.size ≤ w11.heap.size := by omega
   have c11_0_0 := zci w11 w1.heap.size 0 (sl) (by go_simp)
   have c11_0_1 := zci w11 w1.heap.size 1 (sh) (by go_simp)
   have c11_1_0 := zci w11 w2.heap.size 0 (sl) (by go_simp)
   have c11_1_1 := zci w11 w2.heap.size 1 (sh) (by go_simp)
   have c11_2_0 := zci w11 w3.heap.size 0 (dl) (by go_simp)
   have c11_2_1 := zci w11 w3.heap.size 1 (dh) (by go_simp)
   have c11_3_0 := zci w11 w4.heap.size 0 (dl) (by go_simp)
   have c11_3_1 := zci w11 w4.heap.size 1 (dh) (by go_simp)
   have c11_4_0 := zci w11 w5.heap.size 0 (nl) (by go_simp)
   have c11_4_1 := zci w11 w5.heap.size 1 (nh) (by go_simp)
   have c11_5_0 := zci w11 w6.heap.size 0 (nl) (by go_simp)
   have c11_5_1 := zci w11 w6.heap.size 1 (nh) (by go_simp)
   clear hc11 hf11
   go_wp2_with fail
   refine (same_any dl dh de _).mono ?_
   rintro e w12 ⟨rfl, hb12⟩
   obtain ⟨hc12, hf12⟩ := bcell hb12
   have hz12 := hb12.size
   try simp only [World.size_alloc, World.size_setCell] at hz12
   try have : w1.heap.size < w12.heap.size := by omega
   try have : w1.heap.size ≤ w12.heap.size := by omega
   try have : w2.heap.size < w12.heap.size := by omega
   try have : w2.heap.size ≤ w12.heap.size := by omega
   try have : w3.heap.size < w12.heap.size := by omega
   try have : w3.heap.size ≤ w12.heap.size := by omega
   try have : w4.heap.size < w12.heap.size := by omega
   try have : w4.heap.size ≤ w12.heap.size := by omega
   try have : w5.heap.size < w12.heap.size := by omega
   try have : w5.heap.size ≤ w12.heap.size := by omega
   try have : w6.heap.size < w12.heap.size := by omega
   try have : w6.heap.size ≤ w12.heap.size := by omega
   have c12_0_0 := zci w12 w1.heap.size 0 (sl) (by go_simp)
   have c12_0_1 := zci w12 w1.heap.size 1 (sh) (by go_simp)
   have c12_1_0 := zci w12 w2.heap.size 0 (sl) (by go_simp)
   have c12_1_1 := zci w12 w2.heap.size 1 (sh) (by go_simp)
   have c12_2_0 := zci w12 w3.heap.size 0 (dl) (by go_simp)
   have c12_2_1 := zci w12 w3.heap.size 1 (dh) (by go_simp)
   have c12_3_0 := zci w12 w4.heap.size 0 (dl) (by go_simp)
   have c12_3_1 := zci w12 w4.heap.size 1 (dh) (by go_simp)
   have c12_4_0 := zci w12 w5.heap.size 0 (nl) (by go_simp)
   have c12_4_1 := zci w12 w5.heap.size 1 (nh) (by go_simp)
   have c12_5_0 := zci w12 w6.heap.size 0 (nl) (by go_simp)
   have c12_5_1 := zci w12 w6.heap.size 1 (nh) (by go_simp)
   clear hc12 hf12 c11_0_0 c11_0_1 c11_1_0 c11_1_1 c11_2_0 c11_2_1 c11_3_0 c11_3_1 c11_4_0 c11_4_1 c11_5_0 c11_5_1
   go_wp2_with fail
   refine (same_any nl nh ne _).mono ?_
   rintro e w13 ⟨rfl, hb13⟩
   obtain ⟨hc13, hf13⟩ := bcell hb13
   have hz13 := hb13.size
   try simp only [World.size_alloc, World.size_setCell] at hz13
   try have : w1.heap.size < w13.heap.size := by omega
   try have : w1.heap.size ≤ w13.heap.size := by omega
   try have : w2.heap.size < w13.heap.size := by omega
   try have : w2.heap.size ≤ w13.heap.size := by omega
   try have : w3.heap.size < w13.heap.size := by omega
   try have : w3.heap.size ≤ w13.heap.size := by omega
   try have : w4.heap.size < w13.heap.size := by omega
   try have : w4.heap.size ≤ w13.heap.size := by omega
   try have : w5.heap.size < w13.heap.size := by omega
   try have : w5.heap.size ≤ w13.heap.size := by omega
   try have : w6.heap.size < w13.heap.size := by omega
   try have : w6.heap.size ≤ w13.heap.size := by omega
   have c13_0_0 := zci w13 w1.heap.size 0 (sl) (by go_simp)
   have c13_0_1 := zci w13 w1.heap.size 1 (sh) (by go_simp)
   have c13_1_0 := zci w13 w2.heap.size 0 (sl) (by go_simp)
   have c13_1_1 := zci w13 w2.heap.size 1 (sh) (by go_simp)
   have c13_2_0 := zci w13 w3.heap.size 0 (dl) (by go_simp)
   have c13_2_1 := zci w13 w3.heap.size 1 (dh) (by go_simp)
   have c13_3_0 := zci w13 w4.heap.size 0 (dl) (by go_simp)
   have c13_3_1 := zci w13 w4.heap.size 1 (dh) (by go_simp)
   have c13_4_0 := zci w13 w5.heap.size 0 (nl) (by go_simp)
   have c13_4_1 := zci w13 w5.heap.size 1 (nh) (by go_simp)
   have c13_5_0 := zci w13 w6.heap.size 0 (nl) (by go_simp)
   have c13_5_1 := zci w13 w6.heap.size 1 (nh) (by go_simp)
   clear hc13 hf13 c12_0_0 c12_0_1 c12_1_0 c12_1_1 c12_2_0 c12_2_1 c12_3_0 c12_3_1 c12_4_0 c12_4_1 c12_5_0 c12_5_1
   go_wp2
   go_ret
   exact ⟨rfl, blw_⟩
theorem walk_many (A : Option Addr) (n cap : Nat) (B : Option Addr) (m cap' : Nat) (h : 70 < n ∨ 70 < m) (w : World) :
  Calls Try.prog 3 #[.slice A n cap, .slice B m cap'] w fun e w' => e = .returned (.bool true) ∧ Below w.heap.size w w' := by
 by_cases hn : 70 < n
 ·have g : (70 : Int) < (n : Int) := by omega
  clear h hn
  go_enter Try.func3, Try.ntmps3
  go_wp2
  go_ret
  exact ⟨rfl, blw_⟩
 ·have g : ¬ (70 : Int) < (n : Int) := by omega
  have g2 : (70 : Int) < (m : Int) := by omega
  clear h hn
  go_enter Try.func3, Try.ntmps3
  go_wp2
  go_ret
  exact ⟨rfl, blw_⟩
theorem zero_in : FD.In64 0 := ⟨by decide, by decide⟩
theorem clamp_in (x : Int) : FD.In64 (SX.clampI x) := SX.clampI_R64 x
theorem list_is {v : Value} {H : Type} {enc : TypeId × Value → H} {d : DataW H} {p : List MemPlace} {W : World} (hs : ∃ a l c, v = .slice a l c) (h : DataW.Trod enc Try.prog W 0 (fun _ => true) true 22 v d p) :
  ∃ (A : Option Addr) (n cap : Nat) (lo hi : Nat → Int), v = .slice A n cap ∧ (A = none → n = 0 ∧ cap = 0) ∧ (∀ j, FD.In64 (lo j) ∧ FD.In64 (hi j)) ∧ SpL W A n lo hi := by
 rcases open_list Try.underlying22 (m := 2) (by kernel_rfl) (by kernel_rfl) (by omega) hs h with rfl | ⟨ad, n, cap, el, rfl, hm, hc⟩
 ·exact ⟨none, 0, 0, fun _ => 0, fun _ => 0, rfl, fun _ => ⟨rfl, rfl⟩, fun _ => ⟨zero_in, zero_in⟩, fun h => absurd h (by omega)⟩
 ·refine ⟨some ad, n, cap, fun j => SX.clampI (el (j * 2)), fun j => SX.clampI (el (j * 2 + 1)), rfl, (by intro h; cases h), fun j => ⟨clamp_in _, clamp_in _⟩, fun h0 => ⟨ad, rfl, (hc 0 h0).1, fun j hj => ?_⟩⟩
  obtain ⟨c0, i0⟩ := (hc j hj).2 0 (by omega)
  obtain ⟨c1, i1⟩ := (hc j hj).2 1 (by omega)
  rw [Nat.add_zero] at c0 i0
  rw [← addadd, add_off2 _ _ _ (by omega)] at c1
  dsimp only
  rw [SX.clampI_eq i0, SX.clampI_eq i1]
  exact ⟨c0, c1⟩
theorem own : ownKnob Try.prog.godebug = none := by kernel_rfl
theorem laidOut : laidOutB Try.prog = true := by kernel_rfl
set_option maxRecDepth 100000 in
theorem lifted (os : Os) (started : os.Started) (H : Type) (enc : TypeId × Value → H) :
  ReturnsInHanded {} Try.checked os 3 .any (Rows.spanListsSpec.pre6 enc Try.prog Try.f3 Rows.spanListsRow.domain false) (Rows.spanListsSpec.post enc Try.prog Try.f3 false true false false) := by
 refine returnsInHanded_of_change (C := Try.checked) own started (by kernel_rfl) Try.func3
  (ChangeSpec.witness6 (enc := enc) (C := Try.checked) false ⟨#[], #[.slice none 0 0, .slice none 0 0], []⟩ 8 (by kernel_rfl) (by kernel_rfl) (by kernel_rfl) (by kernel_rfl)) ?_
 intro W base args ds gs before hval0 hW _ _
 have hval : ∀ (j : Nat) t v, Try.f3.params[j]? = some t → args[j]? = some v → Value.okWide Try.prog W .any base t v := hval0
 have hW' := hW
 obtain ⟨p, q, hA0, hV, rfl, _, _⟩ := hW
 have hA : DataW.TrodAll enc Try.prog W 0 (fun _ => true) true Try.f3.params.toList args.toList ds p := hA0
 rw [Try.params3] at hA hval
 obtain ⟨v0, vs0, d0, ds0, p0, q0, hargs, rfl, rfl, h0, r0⟩ := trodAll_cons hA
 obtain ⟨v1, vs1, d1, ds1, p1, q1, rfl, rfl, rfl, h1, r1⟩ := trodAll_cons r0
 obtain ⟨rfl, rfl, rfl⟩ := trodAll_nil r1
 obtain rfl : args = #[v0, v1] := by cases args; simp_all
 obtain ⟨rfl, rfl⟩ := trodVars_none hV
 have hsl := okWide_slice Try.underlying22 (hval 0 22 v0 rfl rfl)
 have hsm := okWide_slice Try.underlying22 (hval 1 22 v1 rfl rfl)
 clear hA0 hval0
 simp only [List.append_nil] at hW'
 have key : Calls Try.prog 3 #[v0, v1] W fun e w' => e = .returned (.bool true) ∧ Below W.heap.size W w' := by
  obtain ⟨A, n, cap, lo, hi, rfl, hnil, hE, hS⟩ := list_is hsl h0
  obtain ⟨B, m, cap', lo', hi', rfl, hnil', hE', hS'⟩ := list_is hsm h1
  by_cases h70 : 70 < n ∨ 70 < m
  ·exact walk_many A n cap B m cap' h70 W
  ·cases A with
   | none =>
    obtain ⟨rfl, rfl⟩ := hnil rfl
    exact walk_nil B m cap' lo hi lo' hi' hE hE' W hS' (by omega)
   | some ad => exact walk_some ad n cap B m cap' lo hi lo' hi' hE hE' W hS hS' (by omega) (by omega)
 refine key.mono fun e W' ⟨he, hb⟩ => ?_
 subst he
 have hlt : ∀ x ∈ p0, x.block < W.heap.size := fun x hx => hW'.lt x (by simp [hx])
 have hlt1 : ∀ x ∈ p1, x.block < W.heap.size := fun x hx => hW'.lt x (by simp [hx])
 exact ⟨_, rfl, _, _, _, [], _, [], hW', (trodAll_cons_mk (shut_bool Try.underlying4 _) trodAll_mk0), (trodAll_cons_mk (Below.trod laidOut (by kernel_rfl) (of_decide_eq_true (by kernel_rfl)) h0 hb hlt) (trodAll_cons_mk (Below.trod laidOut (by kernel_rfl) (of_decide_eq_true (by kernel_rfl)) h1 hb hlt1) trodAll_mk0)), rfl, hb.frame _, fun h => by cases h⟩
theorem holds : Rows.SpanListsSaid :=
 OpenClaim.holds_of_wide 3 Try.f3 rfl rfl rfl rfl rfl rfl rfl ⟨rfl, rfl, rfl, rfl, rfl⟩ rfl rfl rfl rfl rfl (by kernel_rfl) Try.func3 (by kernel_rfl)
  (of_decide_eq_true (by kernel_rfl)) (by unfold Func.isWrapper; first | (rw [if_pos (by decide +kernel)]; kernel_rfl) | (rw [if_neg (by decide +kernel)]; exact ⟨rfl, rfl⟩))
  (fun os started H enc _ => lifted os started H enc)
#print axioms holds
end lawSpanLists
end
end Go.Proofs.Ytdcolicajjmffaa
