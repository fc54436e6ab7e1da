/- Packed: Text Alive. -/
import Derived.Laws.IdiomStrings
import Derived.Lib.ItoaNum
import Derived.OwnWalk
import Derived.Lib.SmallJoins
import Derived.Test.YtkkanjeamngdiaaDoorP6
import Derived.Test.YtkkanjeamngdiaaDoorP12
set_option linter.unusedVariables false
set_option linter.unusedSimpArgs false
namespace Go.Proofs.YtkkanjeamngdiaaDoor
section
open Go.RowKit
theorem byte_info : (Tryd.prog.info? 5).map (fun i => (i.zero, i.size, i.bytes)) = some (some (.int .u8 0), 1, 1) := by kernel_rfl
theorem own_kept {w w' : World} {base : Nat} {e : TypeId} {size : Nat} {v : Value} {n : Nat} {xs : List Value} (h : w.ownsRow base e size v n xs) (hb : Below w.heap.size w w') : w'.ownsRow base e size v n xs := by
 refine ⟨h.1, ?_⟩
 rcases h.2 with h1 | ⟨g, cap, cur, rfl, h1, h2, h3⟩
 ·exact .inl h1
 ·exact .inr ⟨g, cap, cur, rfl, h1, (hb.block g (Array.getElem?_eq_some_iff.1 h2).1).trans h2, h3⟩
theorem kept_own {B : Nat} {a w w' : World} {base : Nat} {e : TypeId} {size : Nat} {v : Value} {n : Nat} {xs : List Value} (h : Below B a w) (ho : w.ownsRow base e size v n xs) (hg : w.grownBy w' v.ownBlock) (hB : B ≤ base) (hs : B ≤ w.heap.size) : Below B a w' :=
 h.grown hg hs (fun k hk => Nat.le_trans hB (ho.lt k hk).1)
def tdig : Nat → Nat → List UInt8
 | 0, _ => []
 | k + 1, t => if t = 0 then [] else UInt8.ofNat (48 + t * 10 / 4294967296) :: tdig k (t * 10 % 4294967296)
theorem tdig_next (k t : Nat) (h : t ≠ 0) : tdig (k + 1) t = UInt8.ofNat (48 + t * 10 / 4294967296) :: tdig k (t * 10 % 4294967296) := by
 rw [tdig, if_neg h]
theorem tdig_zero (k : Nat) : tdig k 0 = [] := by cases k <;> simp [tdig]
theorem tail_div (j t : Nat) (h : 2 ^ j ∣ t) : 2 ^ (j + 1) ∣ t * 10 % 4294967296 ∨ 32 ≤ j := by
 by_cases c : 32 ≤ j
 ·exact .inr c
 ·refine .inl ?_
  have e : (4294967296 : Nat) = 2 ^ 32 := rfl
  rw [e]
  refine (Nat.dvd_mod_iff (Nat.pow_dvd_pow 2 (by omega))).2 ?_
  obtain ⟨q, rfl⟩ := h
  exact ⟨q * 5, by rw [Nat.pow_succ]; simp only [Nat.mul_assoc]; congr 1; omega⟩
def textL (x : Int) : List UInt8 :=
 (if x < 0 then [45] else []) ++ Lib.decDigits (x.natAbs / 4294967296) ++ (if x.natAbs % 4294967296 = 0 then [] else 46 :: tdig 32 (x.natAbs % 4294967296))
theorem digits_few (u : Nat) (hu : u < 18446744073709551616) : (Lib.decDigits u).length ≤ 20 := by
 by_cases h0 : u = 0
 ·subst h0; rw [Lib.decDigits_length, Lib.nDigits_small (by omega)]; omega
 ·rw [Lib.decDigits_length]
  have := Lib.numDigits_eq u (by omega) hu
  split at this <;> omega
def PowTab (w : World) : Prop := Lib.TabIs Tryd.prog w "internal/strconv.uint64pow10" .u64 Lib.pow10Tab
theorem digits_some (u : Nat) : 0 < (Lib.decDigits u).length := by
 rw [Lib.decDigits]
 split <;> simp
def rowLen : Value → Nat
 | .slice _ n _ => n
 | _ => 0
theorem rowLen_own {w : World} {base : Nat} {e : TypeId} {size : Nat} {v : Value} {n : Nat} {xs : List Value} (h : w.ownsRow base e size v n xs) : rowLen v = n := by
 rcases h.2 with ⟨rfl, h2⟩ | ⟨g, cap, cur, rfl, _⟩
 ·exact h2.symm
 ·rfl
theorem own_text {w : World} {base n : Nat} {v : Value} {l : List UInt8} (h : w.ownsRow base 5 1 v n (Lib.byteCells l)) (h0 : 0 < n) :
  (convert 51 9 v).run Tryd.prog w = .ok (.string ⟨l.toArray⟩) w := by
 have hl : n = l.length := by have := h.1; rw [Lib.byteCells_length] at this; omega
 obtain ⟨g, cap, rfl⟩ : ∃ g cap, v = .slice (some ⟨g, 0, none⟩) n cap := by
  rcases h.2 with ⟨_, h2⟩ | ⟨g, cap, cur, h1, _⟩
  ·omega
  ·exact ⟨g, cap, h1⟩
 subst hl
 refine run_convert_bytes_back w _ _ 5 _ _ l Tryd.underlying51 Tryd.underlying5 Tryd.underlying9 (fun j hj => ?_)
 have := h.cellAt j (by omega)
 have e0 : (⟨g, 0, none⟩ : Addr).add j = ⟨g, j, none⟩ := by simp [Addr.add]; omega
 rw [e0, this]
 simp [Lib.byteCells, hj]
theorem byte_cell (d : Nat) (h : d < 10) : Value.int .u8 (48 + (d : Int)) = Value.int .u8 ((UInt8.ofNat (48 + d)).toNat : Int) := by
 have : (UInt8.ofNat (48 + d)).toNat = 48 + d := by simp [UInt8.toNat_ofNat']; omega
 rw [this]; rfl
theorem own_byte {w : World} {base n : Nat} {v : Value} {l : List UInt8} {z : Int} (b : UInt8) (h : w.ownsRow base 5 1 v n (Lib.byteCells l ++ [.int .u8 z])) (hz : z = (b.toNat : Int)) : w.ownsRow base 5 1 v n (Lib.byteCells (l ++ [b])) := by
 subst hz
 simpa [Lib.byteCells] using h
structure TextInv (W0 : World) (full : List UInt8) (s3 s5 : Value) (wr : World) (n k t : Nat) (xs : List UInt8) : Prop where
 tail : s5 = .int .u64 t
 own : wr.ownsRow W0.heap.size 5 1 s3 n (Lib.byteCells xs)
 full : xs ++ tdig k t = full
 pos : 0 < n
 few : n + k ≤ 60
 small : t < 4294967296
 div : 2 ^ (32 - k) ∣ t
 left : k ≤ 32
 below : Below W0.heap.size W0 wr
theorem pow_kept {w w' : World} (h : PowTab w) (hb : Below w.heap.size w w') : PowTab w' := by
 have hg : Tryd.prog.globalNamed "internal/strconv.uint64pow10" = some 2 := by kernel_rfl
 exact Joins.tab_stays (P := Tryd.prog) (w := w) (w' := w') (B := w.heap.size) hg h hb (Nat.le_refl _)
set_option maxHeartbeats 1000000 in
set_option maxRecDepth 100000 in
theorem append_u (B n u : Nat) (hu : u < 18446744073709551616) (sv : Value) (xs : List Value) (w : World) (hown : w.ownsRow B 5 1 sv n xs) (hB : B ≤ w.heap.size) (hn : n ≤ 1000) (ht : 100 ≤ u → PowTab w) :
  Calls Tryd.prog 26 #[sv, .int .u64 u, .int .i64 10] w fun e w' => ∃ v', e = .returned v' ∧ w'.ownsRow B 5 1 v' (n + (Lib.decDigits u).length) (xs ++ Lib.byteCells (Lib.decDigits u)) ∧ Below B w w' := by
 have C : Calls Tryd.prog 33 #[sv, .int .u64 u, .int .i64 10] w fun e w' => ∃ v', e = .returned v' ∧ w'.ownsRow B 5 1 v' (n + (Lib.decDigits u).length) (xs ++ Lib.byteCells (Lib.decDigits u)) ∧ Below B w w' := by
  by_cases h : u < 100
  ·exact (Any.internal_strconv_AppendUint_10_small lays288 B n u h sv xs w hown hB (by omega)).mono fun e w' ⟨v', h1, h2, h3, _⟩ => ⟨v', h1, h2, h3⟩
  ·exact (Any.internal_strconv_AppendUint_10_big lays288 B n u (by omega) hu sv xs w hown hB (by omega) (ht (by omega))).mono fun e w' ⟨v', h1, h2, h3, _⟩ => ⟨v', h1, h2, h3⟩
 have HC := hide C
 clear C hown ht
 go_enter Tryd.func26, Tryd.ntmps26
 go_wp2_with (go_at_call 33; refine HC.out.mono ?_; rintro e w1 ⟨v1, rfl, hown1, hb1⟩)
 go_wp2
 go_ret
 exact ⟨_, rfl, hown1, hb1⟩
set_option maxHeartbeats 4000000 in
set_option maxRecDepth 100000 in
theorem text_any (x : Int) (h : I64 x) (hne : x ≠ -9223372036854775808) (w : World) (ht : 100 ≤ x.natAbs / 4294967296 → PowTab w) (res : ByteArray) (hres : res = ⟨(textL x).toArray⟩) :
  Calls Tryd.prog 14 #[.int .i64 x] w fun e w' => e = .returned (.string res) ∧ Below w.heap.size w w' := by
 obtain ⟨i0, hi0, hq0, hq1, hq2⟩ := info_parts byte_info
 obtain ⟨m, hm⟩ : ∃ m : Nat, m = x.natAbs := ⟨_, rfl⟩
 have hab : ab x = (m : Int) := by unfold ab; split <;> omega
 have hm64 : m < 9223372036854775808 := by obtain ⟨h1, h2⟩ := h; omega
 have SZ := hide (fun W => hab ▸ size_any x h W)
 have g0 : (x == -9223372036854775808) = false := beq_eq_false_iff_ne.2 hne
 have u1 : m / 4294967296 < 18446744073709551616 := by omega
 have DF := digits_few _ u1
 have AU := hide (fun B n sv xs W ho hB hn hT => append_u B n (m / 4294967296) u1 sv xs W ho hB hn hT)
 rw [← hm] at ht
 have HT := hide ht
 have HRES := hide hres
 have HM := hide hm
 clear ht hres hm hab hne
 by_cases c : x < 0
 ·have SG : Hid (textL x = [45] ++ Lib.decDigits (m / 4294967296) ++ (if m % 4294967296 = 0 then [] else 46 :: tdig 32 (m % 4294967296))) := hide (by unfold textL; rw [← HM.out, if_pos c])
  go_enter Tryd.func14, Tryd.ntmps14
  go_wp2_with (at_builtin; refine wpList_append_own _ rfl _ _ 51 rfl w.heap.size 5 i0 (.int .u8 0) 1 1 Tryd.underlying51 hi0 hq0 hq1 hq2 rfl (by decide) _ _ _ rfl (World.ownsRow_nil _ _ _ _) ⟨w.heap.size, 0, none⟩ 1 1 [.int .u8 45] rfl rfl (by intro j u hj; match j, hj with | 0, hj => (simp at hj; subst hj; simp [Addr.add])) (by intro u hu; simp at hu; subst hu; rfl) (by unfold maxLen; omega) (by omega) (by simp; try omega) ?_; intro v1 w1 hown1 hgrow1 hq; clear hq)
  have hb1 := kept_own (B := w.heap.size) (a := w) (w := w.alloc (.cells #[.int .u8 45] 5)) (blw_) (World.ownsRow_nil _ w.heap.size 5 1) hgrow1 (Nat.le_refl _) (by simp)
  simp only [Nat.zero_add, List.nil_append] at hown1
  clear hgrow1
  go_wp2_with (go_at_call 25; refine (SZ.out _).mono ?_; rintro e w2 ⟨rfl, hb2⟩)
  have hb12 : Below w.heap.size w w2 := hb1.trans (hb2.mono hb1.size)
  have hown2 := own_kept hown1 hb2
  have A3 := hide (AU.out w.heap.size 1 v1 [.int .u8 45] w2 hown2 hb12.size (by omega) (fun h => pow_kept (HT.out h) hb12))
  clear hown1 hb1 hb2 hown2 AU HT SZ
  simp only [Int.natCast_ediv] at A3
  have nb : m / 4294967296 < 2147483648 := by omega
  by_cases ct : m % 4294967296 = 0
  ·have SG2 : Hid (textL x = ([45] ++ Lib.decDigits (m / 4294967296)) ++ []) := hide (by rw [SG.out, if_pos ct])
   have ea : bits .and .u64 (m : Int) 4294967295 = 0 := by rw [andB _ ⟨by omega, by omega⟩]; omega
   clear SG HM
   go_wp2_with (go_at_call 26; refine A3.out.mono ?_; rintro e w3 ⟨v3, rfl, hown3, hb3⟩; have z3 : w.heap.size ≤ w3.heap.size := Nat.le_trans hb12.size hb3.size)
   have hb4 := hb12.trans hb3
   have hown4 : w3.ownsRow w.heap.size 5 1 v3 (1 + (Lib.decDigits (m / 4294967296)).length) (Lib.byteCells ([45] ++ Lib.decDigits (m / 4294967296))) := by simpa [Lib.byteCells] using hown3
   have hpos := digits_some (m / 4294967296)
   have hfull : Hid (textL x = ([45] ++ Lib.decDigits (m / 4294967296)) ++ tdig 32 0) := hide (by rw [SG2.out]; simp [tdig_zero])
   clear SG2 hown3 hb3 hb12 A3 ea
   have RES := hide (HRES.out.trans (congrArg (fun l => (⟨l.toArray⟩ : ByteArray)) hfull.out))
   clear hfull HRES
   have hst : TextInv w (([45] ++ Lib.decDigits (m / 4294967296)) ++ tdig 32 0) v3 (.int .u64 ((0 : Nat) : Int)) w3 (1 + (Lib.decDigits (m / 4294967296)).length) 32 0 ([45] ++ Lib.decDigits (m / 4294967296)) := ⟨rfl, hown4, rfl, by omega, by omega, by omega, by simp, by omega, hb4⟩
   generalize hF : ([45] ++ Lib.decDigits (m / 4294967296)) ++ tdig 32 0 = full at *
   have HST := hide hst
   clear hst hF DF
   go_wp2
   go_loopw [3, 5] (fun s3 s5 wr => ∃ (n k t : Nat) (xs : List UInt8), TextInv w full s3 s5 wr n k t xs) (fun s3 _ _ => 100 - rowLen s3)
   case atStart => exact ⟨_, _, _, _, HST.out⟩
   case round =>
    obtain ⟨n, k, t', xs, rfl, hown, hfu, hpos', hfew, hsm, hdv, hle, hbel⟩ := hrel
    have hrl := rowLen_own hown
    by_cases c0 : t' = 0
    ·subst c0
     have hcv := own_text hown hpos'
     rw [tdig_zero, List.append_nil] at hfu
     subst hfu
     rw [← RES.out] at hcv
     clear hown RES HST hdv hrl
     go_wp2
     go_ret
     exact ⟨rfl, hbel⟩
    ·obtain ⟨k', rfl⟩ : ∃ k', k = k' + 1 := by
      cases k with
      | zero => exact absurd (Nat.le_of_dvd (by omega) hdv) (by have : (2 : Nat) ^ 32 = 4294967296 := rfl; simp only [Nat.sub_zero]; omega)
      | succ k' => exact ⟨k', rfl⟩
     rw [tdig_next k' t' c0] at hfu
     have hdv2 := tail_div _ _ hdv
     have hdv3 : 2 ^ (32 - k') ∣ t' * 10 % 4294967296 := by
      rcases hdv2 with h | h
      ·have e : 32 - (k' + 1) + 1 = 32 - k' := by omega
       rw [e] at h; exact h
      ·omega
     have hd10 : t' * 10 / 4294967296 < 10 := by omega
     have hr10 : t' * 10 % 4294967296 < 4294967296 := by omega
     have eb : bits .and .u64 ((t' : Int) * 10) 4294967295 = ((t' * 10 % 4294967296 : Nat) : Int) := by rw [andB _ ⟨by omega, by omega⟩]; omega
     have ed : ((t' : Int) * 10) / 4294967296 = ((t' * 10 / 4294967296 : Nat) : Int) := by omega
     have g0' : ((t' : Int) == 0) = false := beq_eq_false_iff_ne.2 (by omega)
     have ew : IntKind.u64.wrap ((t' : Int) * 10) = (t' : Int) * 10 := by rw [IntKind.wrap_u64]; omega
     generalize t' * 10 / 4294967296 = d at *
     generalize t' * 10 % 4294967296 = r at *
     have ev : IntKind.u8.wrap (d : Int) = (d : Int) := by rw [IntKind.wrap_u8]; omega
     have ew2 : IntKind.u8.wrap (48 + (d : Int)) = 48 + (d : Int) := by rw [IntKind.wrap_u8]; omega
     have HFU := hide hfu
     have HD := hide hdv3
     have zr := hbel.size
     clear hfu hdv hdv2 hdv3 HST
     go_wp2_with (at_builtin; refine wpList_append_own _ rfl _ _ 51 rfl w.heap.size 5 i0 (.int .u8 0) 1 1 Tryd.underlying51 hi0 hq0 hq1 hq2 rfl (by decide) _ _ _ rfl (hown.alloc _) ⟨wr.heap.size, 0, none⟩ 1 1 [.int .u8 (48 + (d : Int))] rfl rfl (by intro j u hj; match j, hj with | 0, hj => (simp at hj; subst hj; simp [Addr.add])) (by intro u hu; simp at hu; subst hu; rfl) (by unfold maxLen; omega) (by omega) (by simp; try omega) ?_; intro v7 w7 hown7 hgrow7 hq; clear hq)
     have hb7 := kept_own (B := w.heap.size) (a := w) (w := wr.alloc (.cells #[.int .u8 (48 + (d : Int))] 5)) (ball (by omega) hbel) (hown.alloc _) hgrow7 (Nat.le_refl _) (by simp; omega)
     have hown8 := own_byte (UInt8.ofNat (48 + d)) hown7 (by have := byte_cell d hd10; simpa using this)
     clear hgrow7 hown7 hown
     go_wp2
     go_roundw
     case rel => exact ⟨n + 1, k', r, xs ++ [UInt8.ofNat (48 + d)], by first | rfl | go_num, hown8, by rw [List.append_assoc]; exact HFU.out, by omega, by omega, hr10, HD.out, by omega, hb7⟩
     case measure => rw [rowLen_own hown8]; omega
  ·have SG2 : Hid (textL x = ([45] ++ Lib.decDigits (m / 4294967296)) ++ (46 :: tdig 32 (m % 4294967296))) := hide (by rw [SG.out, if_neg ct])
   obtain ⟨t, ht⟩ : ∃ t, t = m % 4294967296 := ⟨_, rfl⟩
   have ea : bits .and .u64 (m : Int) 4294967295 = (t : Int) := by rw [andB _ ⟨by omega, by omega⟩]; omega
   have gt : ((t : Int) == 0) = false := beq_eq_false_iff_ne.2 (by omega)
   have ts : t < 4294967296 := by omega
   rw [← ht] at SG2
   clear ht ct
   clear SG HM
   go_wp2_with (first | (go_at_call 26; refine A3.out.mono ?_; rintro e w3 ⟨v3, rfl, hown3, hb3⟩; have z3 : w.heap.size ≤ w3.heap.size := Nat.le_trans hb12.size hb3.size) | (at_builtin; refine wpList_append_own _ rfl _ _ 51 rfl w.heap.size 5 i0 (.int .u8 0) 1 1 Tryd.underlying51 hi0 hq0 hq1 hq2 rfl (by decide) _ _ _ rfl (hown3.alloc _) ⟨w3.heap.size, 0, none⟩ 1 1 [.int .u8 46] rfl rfl (by intro j u hj; match j, hj with | 0, hj => (simp at hj; subst hj; simp [Addr.add])) (by intro u hu; simp at hu; subst hu; rfl) (by unfold maxLen; omega) (by omega) (by simp; try omega) ?_; intro v4 w4 hown4 hgrow4 hq; clear hq))
   have hb4 := kept_own (B := w.heap.size) (a := w) (w := w3.alloc (.cells #[.int .u8 46] 5)) (ball (by omega) (hb12.trans hb3)) (hown3.alloc _) hgrow4 (Nat.le_refl _) (by simp; omega)
   have hown5 : w4.ownsRow w.heap.size 5 1 v4 (1 + (Lib.decDigits (m / 4294967296)).length + 1) (Lib.byteCells (([45] ++ Lib.decDigits (m / 4294967296)) ++ [46])) := by simpa [Lib.byteCells] using hown4
   clear hown4 hgrow4
   have hpos := digits_some (m / 4294967296)
   have hfull : Hid (textL x = (([45] ++ Lib.decDigits (m / 4294967296)) ++ [46]) ++ tdig 32 t) := hide (by rw [SG2.out]; simp [tdig_zero])
   clear SG2 hown3 hb3 hb12 A3 ea
   have RES := hide (HRES.out.trans (congrArg (fun l => (⟨l.toArray⟩ : ByteArray)) hfull.out))
   clear hfull HRES
   have hst : TextInv w ((([45] ++ Lib.decDigits (m / 4294967296)) ++ [46]) ++ tdig 32 t) v4 (.int .u64 ((t : Nat) : Int)) w4 (1 + (Lib.decDigits (m / 4294967296)).length + 1) 32 t (([45] ++ Lib.decDigits (m / 4294967296)) ++ [46]) := ⟨rfl, hown5, rfl, by omega, by omega, by omega, by simp, by omega, hb4⟩
   generalize hF : (([45] ++ Lib.decDigits (m / 4294967296)) ++ [46]) ++ tdig 32 t = full at *
   have HST := hide hst
   clear hst hF DF
   go_wp2
   go_loopw [3, 5] (fun s3 s5 wr => ∃ (n k t : Nat) (xs : List UInt8), TextInv w full s3 s5 wr n k t xs) (fun s3 _ _ => 100 - rowLen s3)
   case atStart => exact ⟨_, _, _, _, HST.out⟩
   case round =>
    obtain ⟨n, k, t', xs, rfl, hown, hfu, hpos', hfew, hsm, hdv, hle, hbel⟩ := hrel
    have hrl := rowLen_own hown
    by_cases c0 : t' = 0
    ·subst c0
     have hcv := own_text hown hpos'
     rw [tdig_zero, List.append_nil] at hfu
     subst hfu
     rw [← RES.out] at hcv
     clear hown RES HST hdv hrl
     go_wp2
     go_ret
     exact ⟨rfl, hbel⟩
    ·obtain ⟨k', rfl⟩ : ∃ k', k = k' + 1 := by
      cases k with
      | zero => exact absurd (Nat.le_of_dvd (by omega) hdv) (by have : (2 : Nat) ^ 32 = 4294967296 := rfl; simp only [Nat.sub_zero]; omega)
      | succ k' => exact ⟨k', rfl⟩
     rw [tdig_next k' t' c0] at hfu
     have hdv2 := tail_div _ _ hdv
     have hdv3 : 2 ^ (32 - k') ∣ t' * 10 % 4294967296 := by
      rcases hdv2 with h | h
      ·have e : 32 - (k' + 1) + 1 = 32 - k' := by omega
       rw [e] at h; exact h
      ·omega
     have hd10 : t' * 10 / 4294967296 < 10 := by omega
     have hr10 : t' * 10 % 4294967296 < 4294967296 := by omega
     have eb : bits .and .u64 ((t' : Int) * 10) 4294967295 = ((t' * 10 % 4294967296 : Nat) : Int) := by rw [andB _ ⟨by omega, by omega⟩]; omega
     have ed : ((t' : Int) * 10) / 4294967296 = ((t' * 10 / 4294967296 : Nat) : Int) := by omega
     have g0' : ((t' : Int) == 0) = false := beq_eq_false_iff_ne.2 (by omega)
     have ew : IntKind.u64.wrap ((t' : Int) * 10) = (t' : Int) * 10 := by rw [IntKind.wrap_u64]; omega
     generalize t' * 10 / 4294967296 = d at *
     generalize t' * 10 % 4294967296 = r at *
     have ev : IntKind.u8.wrap (d : Int) = (d : Int) := by rw [IntKind.wrap_u8]; omega
     have ew2 : IntKind.u8.wrap (48 + (d : Int)) = 48 + (d : Int) := by rw [IntKind.wrap_u8]; omega
     have HFU := hide hfu
     have HD := hide hdv3
     have zr := hbel.size
     clear hfu hdv hdv2 hdv3 HST
     go_wp2_with (at_builtin; refine wpList_append_own _ rfl _ _ 51 rfl w.heap.size 5 i0 (.int .u8 0) 1 1 Tryd.underlying51 hi0 hq0 hq1 hq2 rfl (by decide) _ _ _ rfl (hown.alloc _) ⟨wr.heap.size, 0, none⟩ 1 1 [.int .u8 (48 + (d : Int))] rfl rfl (by intro j u hj; match j, hj with | 0, hj => (simp at hj; subst hj; simp [Addr.add])) (by intro u hu; simp at hu; subst hu; rfl) (by unfold maxLen; omega) (by omega) (by simp; try omega) ?_; intro v7 w7 hown7 hgrow7 hq; clear hq)
     have hb7 := kept_own (B := w.heap.size) (a := w) (w := wr.alloc (.cells #[.int .u8 (48 + (d : Int))] 5)) (ball (by omega) hbel) (hown.alloc _) hgrow7 (Nat.le_refl _) (by simp; omega)
     have hown8 := own_byte (UInt8.ofNat (48 + d)) hown7 (by have := byte_cell d hd10; simpa using this)
     clear hgrow7 hown7 hown
     go_wp2
     go_roundw
     case rel => exact ⟨n + 1, k', r, xs ++ [UInt8.ofNat (48 + d)], by first | rfl | go_num, hown8, by rw [List.append_assoc]; exact HFU.out, by omega, by omega, hr10, HD.out, by omega, hb7⟩
     case measure => rw [rowLen_own hown8]; omega
 ·have SG : Hid (textL x = [] ++ Lib.decDigits (m / 4294967296) ++ (if m % 4294967296 = 0 then [] else 46 :: tdig 32 (m % 4294967296))) := hide (by unfold textL; rw [← HM.out, if_neg c])
  go_enter Tryd.func14, Tryd.ntmps14
  obtain ⟨w1, hw1⟩ : ∃ W, w = W := ⟨_, rfl⟩
  have hown1 : w1.ownsRow w.heap.size 5 1 (.slice none 0 0) 0 [] := World.ownsRow_nil _ _ _ _
  have hb1 : Below w.heap.size w w1 := by subst hw1; exact Below.refl _ _
  go_wp2_with (go_at_call 25; refine (SZ.out _).mono ?_; rintro e w2 ⟨rfl, hb2⟩)
  subst hw1
  have hb12 : Below w.heap.size w w2 := hb1.trans (hb2.mono hb1.size)
  have hown2 := own_kept hown1 hb2
  have A3 := hide (AU.out w.heap.size 0 (.slice none 0 0) [] w2 hown2 hb12.size (by omega) (fun h => pow_kept (HT.out h) hb12))
  clear hown1 hb1 hb2 hown2 AU HT SZ
  simp only [Int.natCast_ediv] at A3
  have nb : m / 4294967296 < 2147483648 := by omega
  by_cases ct : m % 4294967296 = 0
  ·have SG2 : Hid (textL x = ([] ++ Lib.decDigits (m / 4294967296)) ++ []) := hide (by rw [SG.out, if_pos ct])
   have ea : bits .and .u64 (m : Int) 4294967295 = 0 := by rw [andB _ ⟨by omega, by omega⟩]; omega
   clear SG HM
   go_wp2_with (go_at_call 26; refine A3.out.mono ?_; rintro e w3 ⟨v3, rfl, hown3, hb3⟩; have z3 : w.heap.size ≤ w3.heap.size := Nat.le_trans hb12.size hb3.size)
   have hb4 := hb12.trans hb3
   have hown4 : w3.ownsRow w.heap.size 5 1 v3 (0 + (Lib.decDigits (m / 4294967296)).length) (Lib.byteCells ([] ++ Lib.decDigits (m / 4294967296))) := by simpa [Lib.byteCells] using hown3
   have hpos := digits_some (m / 4294967296)
   have hfull : Hid (textL x = ([] ++ Lib.decDigits (m / 4294967296)) ++ tdig 32 0) := hide (by rw [SG2.out]; simp [tdig_zero])
   clear SG2 hown3 hb3 hb12 A3 ea
   have RES := hide (HRES.out.trans (congrArg (fun l => (⟨l.toArray⟩ : ByteArray)) hfull.out))
   clear hfull HRES
   have hst : TextInv w (([] ++ Lib.decDigits (m / 4294967296)) ++ tdig 32 0) v3 (.int .u64 ((0 : Nat) : Int)) w3 (0 + (Lib.decDigits (m / 4294967296)).length) 32 0 ([] ++ Lib.decDigits (m / 4294967296)) := ⟨rfl, hown4, rfl, by omega, by omega, by omega, by simp, by omega, hb4⟩
   generalize hF : ([] ++ Lib.decDigits (m / 4294967296)) ++ tdig 32 0 = full at *
   have HST := hide hst
   clear hst hF DF
   go_wp2
   go_loopw [3, 5] (fun s3 s5 wr => ∃ (n k t : Nat) (xs : List UInt8), TextInv w full s3 s5 wr n k t xs) (fun s3 _ _ => 100 - rowLen s3)
   case atStart => exact ⟨_, _, _, _, HST.out⟩
   case round =>
    obtain ⟨n, k, t', xs, rfl, hown, hfu, hpos', hfew, hsm, hdv, hle, hbel⟩ := hrel
    have hrl := rowLen_own hown
    by_cases c0 : t' = 0
    ·subst c0
     have hcv := own_text hown hpos'
     rw [tdig_zero, List.append_nil] at hfu
     subst hfu
     rw [← RES.out] at hcv
     clear hown RES HST hdv hrl
     go_wp2
     go_ret
     exact ⟨rfl, hbel⟩
    ·obtain ⟨k', rfl⟩ : ∃ k', k = k' + 1 := by
      cases k with
      | zero => exact absurd (Nat.le_of_dvd (by omega) hdv) (by have : (2 : Nat) ^ 32 = 4294967296 := rfl; simp only [Nat.sub_zero]; omega)
      | succ k' => exact ⟨k', rfl⟩
     rw [tdig_next k' t' c0] at hfu
     have hdv2 := tail_div _ _ hdv
     have hdv3 : 2 ^ (32 - k') ∣ t' * 10 % 4294967296 := by
      rcases hdv2 with h | h
      ·have e : 32 - (k' + 1) + 1 = 32 - k' := by omega
       rw [e] at h; exact h
      ·omega
     have hd10 : t' * 10 / 4294967296 < 10 := by omega
     have hr10 : t' * 10 % 4294967296 < 4294967296 := by omega
     have eb : bits .and .u64 ((t' : Int) * 10) 4294967295 = ((t' * 10 % 4294967296 : Nat) : Int) := by rw [andB _ ⟨by omega, by omega⟩]; omega
     have ed : ((t' : Int) * 10) / 4294967296 = ((t' * 10 / 4294967296 : Nat) : Int) := by omega
     have g0' : ((t' : Int) == 0) = false := beq_eq_false_iff_ne.2 (by omega)
     have ew : IntKind.u64.wrap ((t' : Int) * 10) = (t' : Int) * 10 := by rw [IntKind.wrap_u64]; omega
     generalize t' * 10 / 4294967296 = d at *
     generalize t' * 10 % 4294967296 = r at *
     have ev : IntKind.u8.wrap (d : Int) = (d : Int) := by rw [IntKind.wrap_u8]; omega
     have ew2 : IntKind.u8.wrap (48 + (d : Int)) = 48 + (d : Int) := by rw [IntKind.wrap_u8]; omega
     have HFU := hide hfu
     have HD := hide hdv3
     have zr := hbel.size
     clear hfu hdv hdv2 hdv3 HST
     go_wp2_with (at_builtin; refine wpList_append_own _ rfl _ _ 51 rfl w.heap.size 5 i0 (.int .u8 0) 1 1 Tryd.underlying51 hi0 hq0 hq1 hq2 rfl (by decide) _ _ _ rfl (hown.alloc _) ⟨wr.heap.size, 0, none⟩ 1 1 [.int .u8 (48 + (d : Int))] rfl rfl (by intro j u hj; match j, hj with | 0, hj => (simp at hj; subst hj; simp [Addr.add])) (by intro u hu; simp at hu; subst hu; rfl) (by unfold maxLen; omega) (by omega) (by simp; try omega) ?_; intro v7 w7 hown7 hgrow7 hq; clear hq)
     have hb7 := kept_own (B := w.heap.size) (a := w) (w := wr.alloc (.cells #[.int .u8 (48 + (d : Int))] 5)) (ball (by omega) hbel) (hown.alloc _) hgrow7 (Nat.le_refl _) (by simp; omega)
     have hown8 := own_byte (UInt8.ofNat (48 + d)) hown7 (by have := byte_cell d hd10; simpa using this)
     clear hgrow7 hown7 hown
     go_wp2
     go_roundw
     case rel => exact ⟨n + 1, k', r, xs ++ [UInt8.ofNat (48 + d)], by first | rfl | go_num, hown8, by rw [List.append_assoc]; exact HFU.out, by omega, by omega, hr10, HD.out, by omega, hb7⟩
     case measure => rw [rowLen_own hown8]; omega
  ·have SG2 : Hid (textL x = ([] ++ Lib.decDigits (m / 4294967296)) ++ (46 :: tdig 32 (m % 4294967296))) := hide (by rw [SG.out, if_neg ct])
   obtain ⟨t, ht⟩ : ∃ t, t = m % 4294967296 := ⟨_, rfl⟩
   have ea : bits .and .u64 (m : Int) 4294967295 = (t : Int) := by rw [andB _ ⟨by omega, by omega⟩]; omega
   have gt : ((t : Int) == 0) = false := beq_eq_false_iff_ne.2 (by omega)
   have ts : t < 4294967296 := by omega
   rw [← ht] at SG2
   clear ht ct
   clear SG HM
   go_wp2_with (first | (go_at_call 26; refine A3.out.mono ?_; rintro e w3 ⟨v3, rfl, hown3, hb3⟩; have z3 : w.heap.size ≤ w3.heap.size := Nat.le_trans hb12.size hb3.size) | (at_builtin; refine wpList_append_own _ rfl _ _ 51 rfl w.heap.size 5 i0 (.int .u8 0) 1 1 Tryd.underlying51 hi0 hq0 hq1 hq2 rfl (by decide) _ _ _ rfl (hown3.alloc _) ⟨w3.heap.size, 0, none⟩ 1 1 [.int .u8 46] rfl rfl (by intro j u hj; match j, hj with | 0, hj => (simp at hj; subst hj; simp [Addr.add])) (by intro u hu; simp at hu; subst hu; rfl) (by unfold maxLen; omega) (by omega) (by simp; try omega) ?_; intro v4 w4 hown4 hgrow4 hq; clear hq))
   have hb4 := kept_own (B := w.heap.size) (a := w) (w := w3.alloc (.cells #[.int .u8 46] 5)) (ball (by omega) (hb12.trans hb3)) (hown3.alloc _) hgrow4 (Nat.le_refl _) (by simp; omega)
   have hown5 : w4.ownsRow w.heap.size 5 1 v4 (0 + (Lib.decDigits (m / 4294967296)).length + 1) (Lib.byteCells (([] ++ Lib.decDigits (m / 4294967296)) ++ [46])) := by simpa [Lib.byteCells] using hown4
   clear hown4 hgrow4
   have hpos := digits_some (m / 4294967296)
   have hfull : Hid (textL x = (([] ++ Lib.decDigits (m / 4294967296)) ++ [46]) ++ tdig 32 t) := hide (by rw [SG2.out]; simp [tdig_zero])
   clear SG2 hown3 hb3 hb12 A3 ea
   have RES := hide (HRES.out.trans (congrArg (fun l => (⟨l.toArray⟩ : ByteArray)) hfull.out))
   clear hfull HRES
   have hst : TextInv w ((([] ++ Lib.decDigits (m / 4294967296)) ++ [46]) ++ tdig 32 t) v4 (.int .u64 ((t : Nat) : Int)) w4 (0 + (Lib.decDigits (m / 4294967296)).length + 1) 32 t (([] ++ Lib.decDigits (m / 4294967296)) ++ [46]) := ⟨rfl, hown5, rfl, by omega, by omega, by omega, by simp, by omega, hb4⟩
   generalize hF : (([] ++ Lib.decDigits (m / 4294967296)) ++ [46]) ++ tdig 32 t = full at *
   have HST := hide hst
   clear hst hF DF
   go_wp2
   go_loopw [3, 5] (fun s3 s5 wr => ∃ (n k t : Nat) (xs : List UInt8), TextInv w full s3 s5 wr n k t xs) (fun s3 _ _ => 100 - rowLen s3)
   case atStart => exact ⟨_, _, _, _, HST.out⟩
   case round =>
    obtain ⟨n, k, t', xs, rfl, hown, hfu, hpos', hfew, hsm, hdv, hle, hbel⟩ := hrel
    have hrl := rowLen_own hown
    by_cases c0 : t' = 0
    ·subst c0
     have hcv := own_text hown hpos'
     rw [tdig_zero, List.append_nil] at hfu
     subst hfu
     rw [← RES.out] at hcv
     clear hown RES HST hdv hrl
     go_wp2
     go_ret
     exact ⟨rfl, hbel⟩
    ·obtain ⟨k', rfl⟩ : ∃ k', k = k' + 1 := by
      cases k with
      | zero => exact absurd (Nat.le_of_dvd (by omega) hdv) (by have : (2 : Nat) ^ 32 = 4294967296 := rfl; simp only [Nat.sub_zero]; omega)
      | succ k' => exact ⟨k', rfl⟩
     rw [tdig_next k' t' c0] at hfu
     have hdv2 := tail_div _ _ hdv
     have hdv3 : 2 ^ (32 - k') ∣ t' * 10 % 4294967296 := by
      rcases hdv2 with h | h
      ·have e : 32 - (k' + 1) + 1 = 32 - k' := by omega
       rw [e] at h; exact h
      ·omega
     have hd10 : t' * 10 / 4294967296 < 10 := by omega
     have hr10 : t' * 10 % 4294967296 < 4294967296 := by omega
     have eb : bits .and .u64 ((t' : Int) * 10) 4294967295 = ((t' * 10 % 4294967296 : Nat) : Int) := by rw [andB _ ⟨by omega, by omega⟩]; omega
     have ed : ((t' : Int) * 10) / 4294967296 = ((t' * 10 / 4294967296 : Nat) : Int) := by omega
     have g0' : ((t' : Int) == 0) = false := beq_eq_false_iff_ne.2 (by omega)
     have ew : IntKind.u64.wrap ((t' : Int) * 10) = (t' : Int) * 10 := by rw [IntKind.wrap_u64]; omega
     generalize t' * 10 / 4294967296 = d at *
     generalize t' * 10 % 4294967296 = r at *
     have ev : IntKind.u8.wrap (d : Int) = (d : Int) := by rw [IntKind.wrap_u8]; omega
     have ew2 : IntKind.u8.wrap (48 + (d : Int)) = 48 + (d : Int) := by rw [IntKind.wrap_u8]; omega
     have HFU := hide hfu
     have HD := hide hdv3
     have zr := hbel.size
     clear hfu hdv hdv2 hdv3 HST
     go_wp2_with (at_builtin; refine wpList_append_own _ rfl _ _ 51 rfl w.heap.size 5 i0 (.int .u8 0) 1 1 Tryd.underlying51 hi0 hq0 hq1 hq2 rfl (by decide) _ _ _ rfl (hown.alloc _) ⟨wr.heap.size, 0, none⟩ 1 1 [.int .u8 (48 + (d : Int))] rfl rfl (by intro j u hj; match j, hj with | 0, hj => (simp at hj; subst hj; simp [Addr.add])) (by intro u hu; simp at hu; subst hu; rfl) (by unfold maxLen; omega) (by omega) (by simp; try omega) ?_; intro v7 w7 hown7 hgrow7 hq; clear hq)
     have hb7 := kept_own (B := w.heap.size) (a := w) (w := wr.alloc (.cells #[.int .u8 (48 + (d : Int))] 5)) (ball (by omega) hbel) (hown.alloc _) hgrow7 (Nat.le_refl _) (by simp; omega)
     have hown8 := own_byte (UInt8.ofNat (48 + d)) hown7 (by have := byte_cell d hd10; simpa using this)
     clear hgrow7 hown7 hown
     go_wp2
     go_roundw
     case rel => exact ⟨n + 1, k', r, xs ++ [UInt8.ofNat (48 + d)], by first | rfl | go_num, hown8, by rw [List.append_assoc]; exact HFU.out, by omega, by omega, hr10, HD.out, by omega, hb7⟩
     case measure => rw [rowLen_own hown8]; omega
theorem text_quarter : textL (-1073741824) = [45, 48, 46, 50, 53] := by
 have e1 : (-1073741824 : Int).natAbs = 1073741824 := rfl
 unfold textL
 rw [e1, if_pos (by omega), if_neg (by omega)]
 rw [show (1073741824 : Nat) / 4294967296 = 0 from rfl, show (1073741824 : Nat) % 4294967296 = 1073741824 from rfl]
 have d0 : Lib.decDigits 0 = [48] := by rw [Lib.decDigits, dif_pos (by omega)]; rfl
 have t0 : tdig 32 1073741824 = [50, 53] := by decide
 rw [d0, t0]
 rfl
theorem text_alive (w : World) : Calls Tryd.prog 14 #[.int .i64 (-1073741824)] w fun e w' => e = .returned (.string ⟨#[45, 48, 46, 50, 53]⟩) ∧ Below w.heap.size w w' :=
 text_any (-1073741824) ⟨by omega, by omega⟩ (by omega) w (fun h => absurd h (by decide)) _ (by rw [text_quarter])
end
section
open Go.RowKit
theorem of_run (a b p q : Int) (ha : -1000 ≤ a ∧ a ≤ 1000) (hb : -1000 ≤ b ∧ b ≤ 1000) (hp : a * 4294967296 = p) (hq : b * 4294967296 = q) (w : World) :
  Calls Tryd.prog 11 #[.int .i64 a, .int .i64 b] w fun e w' => e = .returned (.agg #[.int .i64 (p), .int .i64 (q)]) ∧ Below w.heap.size w w' := by
 subst hp hq
 have e1 : wrap64 (a * 4294967296) = a * 4294967296 := by unfold wrap64; omega
 have e2 : wrap64 (b * 4294967296) = b * 4294967296 := by unfold wrap64; omega
 go_enter Tryd.func11, Tryd.ntmps11
 go_wp2
 refine bodyPost_ret (v := .agg #[.int .i64 (a * 4294967296), .int .i64 (b * 4294967296)]) (by simp only [results, Tryd.results11]; go_simp) rfl ⟨rfl, blw_⟩
theorem root_four : rtL 17179869184 = 8589934592 := by
 obtain ⟨a0, a1, a2⟩ := rt_spec (x := 17179869184) (by omega)
 generalize rtL 17179869184 = r at *
 by_cases h1 : r < 8589934592
 ·have := Int.mul_le_mul (show r + 1 ≤ 8589934592 by omega) (show r + 1 ≤ 8589934592 by omega) (by omega) (by omega)
  omega
 ·by_cases h2 : 8589934592 < r
  ·have := Int.mul_le_mul (show 8589934593 ≤ r by omega) (show 8589934593 ≤ r by omega) (by omega) (by omega)
   omega
  ·omega
theorem root_null : rtL 0 = 0 := by
 obtain ⟨a0, a1, a2⟩ := rt_spec (x := 0) (by omega)
 generalize rtL 0 = r at *
 by_cases h2 : 0 < r
 ·have := Int.mul_le_mul (show 1 ≤ r by omega) (show 1 ≤ r by omega) (by omega) (by omega)
  omega
 ·omega
theorem rootH_four : rtH 17179869184 = 8589934592 := by
 unfold rtH rtR
 rw [root_four]
 rfl
theorem mul_alive (w : World) : Calls Tryd.prog 10 #[.agg #[.int .i64 (-4294967296), .int .i64 (8589934592)], .agg #[.int .i64 (12884901888), .int .i64 (17179869184)]] w fun e w' => e = .returned (.tuple #[.agg #[.int .i64 (-17179869184), .int .i64 (34359738368)], .int .i64 0]) ∧ Below w.heap.size w w' := by
 refine (mul_any (-4294967296) 8589934592 12884901888 17179869184 ⟨by omega, by omega⟩ ⟨by omega, by omega⟩ ⟨by omega, by omega⟩ ⟨by omega, by omega⟩ w).mono ?_
 rintro e w' ⟨rfl, h⟩
 exact ⟨by kernel_rfl, h⟩
theorem ratio_alive (w : World) : Calls Tryd.prog 12 #[.int .i64 1, .int .i64 3] w fun e w' => e = .returned (.tuple #[.agg #[.int .i64 (1431655765), .int .i64 (1431655766)], .int .i64 0]) ∧ Below w.heap.size w w' := by
 refine (ratio_any 1 3 ⟨by omega, by omega⟩ ⟨by omega, by omega⟩ w).mono ?_
 rintro e w' ⟨rfl, h⟩
 exact ⟨by kernel_rfl, h⟩
theorem root_alive (w : World) : Calls Tryd.prog 13 #[.agg #[.int .i64 (-38654705664), .int .i64 (17179869184)]] w fun e w' => e = .returned (.tuple #[.agg #[.int .i64 (0), .int .i64 (8589934592)], .int .i64 0]) ∧ Below w.heap.size w w' := by
 refine (sroot_any (-38654705664) 17179869184 ⟨by omega, by omega⟩ ⟨by omega, by omega⟩ w).mono ?_
 rintro e w' ⟨rfl, h⟩
 have v : vB (-38654705664) 17179869184 = true := by decide
 have e1 : roH 17179869184 = 8589934592 := by unfold roH; simp [rootH_four]
 have e2 : roL (-38654705664) 17179869184 = 0 := by unfold roL; rw [if_neg (by omega), show mx (-38654705664) 0 = 0 from rfl, root_null]
 rw [v, e1, e2]
 exact ⟨by kernel_rfl, h⟩
set_option maxHeartbeats 4000000 in
set_option maxRecDepth 100000 in
theorem alive_any (w : World) : Calls Tryd.prog 4 #[] w fun e w' => e = .returned (.bool true) ∧ Below w.heap.size w w' := by
 have O1 := hide (of_run (-1) 2 (-4294967296) 8589934592 (by omega) (by omega) rfl rfl)
 have O2 := hide (of_run 3 4 12884901888 17179869184 (by omega) (by omega) rfl rfl)
 have O3 := hide (of_run (-9) 4 (-38654705664) 17179869184 (by omega) (by omega) rfl rfl)
 have O4 := hide (of_run (-4) 8 (-17179869184) 34359738368 (by omega) (by omega) rfl rfl)
 have O5 := hide (of_run 0 2 0 8589934592 (by omega) (by omega) rfl rfl)
 have M := hide mul_alive
 have R := hide ratio_alive
 have Q := hide root_alive
 have T := hide text_alive
 go_enter Tryd.func4, Tryd.ntmps4
 go_wp2_with fail
 refine (O1.out _).mono ?_
 rintro e w1 ⟨rfl, hb1⟩
 obtain ⟨hc1, hf1⟩ := bcell hb1
 have hz1 := hb1.size
 try simp only [World.size_alloc, World.size_setCell] at hz1
 clear hc1 hf1
 go_wp2_with fail
 refine (O2.out _).mono ?_
 rintro e w2 ⟨rfl, hb2⟩
 obtain ⟨hc2, hf2⟩ := bcell hb2
 have hz2 := hb2.size
 try simp only [World.size_alloc, World.size_setCell] at hz2
 clear hc2 hf2
 go_wp2_with fail
 refine (M.out _).mono ?_
 rintro e w3 ⟨rfl, hb3⟩
 obtain ⟨hc3, hf3⟩ := bcell hb3
 have hz3 := hb3.size
 try simp only [World.size_alloc, World.size_setCell] at hz3
 clear hc3 hf3
 go_wp2_with fail
 refine (R.out _).mono ?_
 rintro e w4 ⟨rfl, hb4⟩
 obtain ⟨hc4, hf4⟩ := bcell hb4
 have hz4 := hb4.size
 try simp only [World.size_alloc, World.size_setCell] at hz4
 try have : w3.heap.size < w4.heap.size := by omega
 try have : w3.heap.size < w4.heap.size + 1 := by omega
 try have : w3.heap.size ≤ w4.heap.size := by omega
 have c4_0_0 := zci w4 w3.heap.size 0 (-17179869184) (by go_simp)
 have c4_0_1 := zci w4 w3.heap.size 1 (34359738368) (by go_simp)
 clear hc4 hf4
 go_wp2_with fail
 refine (O3.out _).mono ?_
 rintro e w5 ⟨rfl, hb5⟩
 obtain ⟨hc5, hf5⟩ := bcell hb5
 have hz5 := hb5.size
 try simp only [World.size_alloc, World.size_setCell] at hz5
 try have : w3.heap.size < w5.heap.size := by omega
 try have : w3.heap.size ≤ w5.heap.size := by omega
 try have : w4.heap.size < w5.heap.size := by omega
 try have : w4.heap.size ≤ w5.heap.size := by omega
 have c5_0_0 := zci w5 w3.heap.size 0 (-17179869184) (by go_simp)
 have c5_0_1 := zci w5 w3.heap.size 1 (34359738368) (by go_simp)
 have c5_1_0 := zci w5 w4.heap.size 0 (1431655765) (by go_simp)
 have c5_1_1 := zci w5 w4.heap.size 1 (1431655766) (by go_simp)
 clear hc5 hf5 c4_0_0 c4_0_1
 go_wp2_with fail
 refine (Q.out _).mono ?_
 rintro e w6 ⟨rfl, hb6⟩
 obtain ⟨hc6, hf6⟩ := bcell hb6
 have hz6 := hb6.size
 try simp only [World.size_alloc, World.size_setCell] at hz6
 try have : w3.heap.size < w6.heap.size := by omega
 try have : w3.heap.size < w6.heap.size + 1 := by omega
 try have : w3.heap.size ≤ w6.heap.size := by omega
 try have : w4.heap.size < w6.heap.size := by omega
 try have : w4.heap.size < w6.heap.size + 1 := by omega
 try have : w4.heap.size ≤ w6.heap.size := by omega
 have c6_0_0 := zci w6 w3.heap.size 0 (-17179869184) (by go_simp)
 have c6_0_1 := zci w6 w3.heap.size 1 (34359738368) (by go_simp)
 have c6_1_0 := zci w6 w4.heap.size 0 (1431655765) (by go_simp)
 have c6_1_1 := zci w6 w4.heap.size 1 (1431655766) (by go_simp)
 clear hc6 hf6 c5_0_0 c5_0_1 c5_1_0 c5_1_1
 go_wp2_with fail
 refine QT.quiet_b (by kernel_rfl) (by kernel_rfl) ?_
 repeat (first
  | go_big_quiet_skip
  | (go_big_quiet_want; go_big_quiet_op; first
   | go_big_quiet_on
   | (apply Exists.intro
      refine ⟨fun _ => ?_, ?_⟩
      ·first
       | rfl
       | (intro hC; obtain ⟨hcq, hfq⟩ := bcellB hC; go_simp; done)
       | (intro hC; obtain ⟨hcq, hfq⟩ := bcellB hC; go_simp; rfl)
       | (intro hC; have hcq := bcellG hC; go_simp; done)
       | (intro hC; have hcq := bcellG hC; go_simp; rfl)
       | (intro hC; go_at_call 11; (first | (with_reducible refine (O4.out _).mono ?_) | (with_reducible refine (O5.out _).mono ?_)); (intro e w2 hw; exact ⟨hw.1, qtrans (by simp) hC hw.2⟩))
       | (intro hC; go_at_call 14; (first | (with_reducible refine (T.out _).mono ?_)); (intro e w2 hw; exact ⟨hw.1, qtrans (by simp) hC hw.2⟩))
      go_big_quiet_on)))
 refine wpQuiet_nil ?_
 intro w9 hC9
 obtain ⟨hc9, hf9⟩ := bcellB hC9
 have hz9 := hC9.size
 go_wp2
 go_ret
 exact ⟨rfl, blw_⟩
end
end Go.Proofs.YtkkanjeamngdiaaDoor
