/- Packed: SwB SwH SwI SwC SwD SwE SwF SwG. -/
import Derived.OwnWalk
import Derived.Laws.AppendOwn
import Derived.Laws.OwnMore
import Derived.Test.YtacpahebbnnckaaP10
set_option linter.unusedVariables false
set_option linter.unusedSimpArgs false
namespace Go.Proofs.Ytacpahebbnnckaa
section
set_option maxRecDepth 1000000
open Go.RowKit
open FP
namespace Sw
theorem span_info : (Try.prog.info? 24).map (fun i => (i.zero, i.size, i.bytes)) = some (some (.agg #[.int .i64 0, .int .i64 0]), 2, 16) := by kernel_rfl
def spC : List (Int × Int) → List Value
 | [] => []
 | x :: l => .int .i64 x.1 :: .int .i64 x.2 :: spC l
theorem spC_app : ∀ L M, spC (L ++ M) = spC L ++ spC M
 | [], M => rfl
 | x :: l, M => by simp [spC, spC_app l M]
theorem spC_at : ∀ (L : List (Int × Int)) (j : Nat) (h : j < L.length), (spC L)[j * 2]? = some (.int .i64 L[j].1) ∧ (spC L)[j * 2 + 1]? = some (.int .i64 L[j].2)
 | x :: l, 0, _ => by simp [spC]
 | x :: l, j + 1, h => by
  have := spC_at l j (by simpa using h)
  rw [show (j + 1) * 2 = j * 2 + 2 by omega]
  simpa [spC] using this
theorem own_below {w w' : World} {base : Nat} {e : TypeId} {size : Nat} {v : Value} {n : Nat} {xs : List Value} (h : w.ownsRow base e size v n xs) (hb : Below w.heap.size w w') : w'.ownsRow base e size v n xs := by
 refine ⟨h.1, ?_⟩
 rcases h.2 with h1 | ⟨g, cap, cur, rfl, h1, h2, h3⟩
 ·exact .inl h1
 ·exact .inr ⟨g, cap, cur, rfl, h1, (hb.block g (Array.getElem?_eq_some_iff.1 h2).1).trans h2, h3⟩
theorem own_alloc {w : World} {base : Nat} {e : TypeId} {size : Nat} {v : Value} {n : Nat} {xs : List Value} (h : w.ownsRow base e size v n xs) (o : Obj) : (w.alloc o).ownsRow base e size v n xs := own_below h ((Below.refl _ w).alloc (Nat.le_refl _) o)
theorem below_own {B : Nat} {a w w' : World} {base : Nat} {e : TypeId} {size : Nat} {v : Value} {n : Nat} {xs : List Value} (h : Below B a w) (ho : w.ownsRow base e size v n xs) (hg : w.grownBy w' v.ownBlock) (hB : B ≤ base) (hs : B ≤ w.heap.size) : Below B a w' :=
 h.grown hg hs (fun k hk => Nat.le_trans hB (ho.lt k hk).1)
def keep (f : Int) (lo hi : Nat → Int) : Nat → List (Int × Int)
 | 0 => []
 | k + 1 => keep f lo hi k ++ (if bit f k then [] else [(lo k, hi k)])
theorem keep_len (f : Int) (lo hi : Nat → Int) : ∀ k, (keep f lo hi k).length ≤ k
 | 0 => Nat.le_refl _
 | k + 1 => by
  have := keep_len f lo hi k
  simp only [keep, List.length_append]
  split <;> simp <;> omega
set_option maxHeartbeats 4000000 in
theorem left_any (A : Option Addr) (n cap : Nat) (lo hi : Nat → Int) (f : Int) (f0 : 0 ≤ f) (f1 : f ≤ 9223372036854775807) (hm : n ≤ 20) (w : World) (hS : SpL w A n lo hi) :
  Calls Try.prog 48 #[.slice A n cap, .int .i64 f] w fun e w' => ∃ v, e = .returned v ∧ w'.ownsRow w.heap.size 24 2 v (keep f lo hi n).length (spC (keep f lo hi n)) ∧ Below w.heap.size w w' := by
 obtain ⟨i0, hi0, hq0, hq1, hq2⟩ := info_parts span_info
 have HS := hide hS
 have BA := hide (bit_and f0 f1)
 clear hS f0 f1
 go_enter Try.func48, Try.ntmps48
 go_wp2
 go_loopw [10, 5] (fun s10 s5 wr => ∃ k : Nat, k ≤ n ∧ s10 = .int .i64 k ∧ wr.ownsRow w.heap.size 24 2 s5 (keep f lo hi k).length (spC (keep f lo hi k)) ∧ Below w.heap.size w wr) (fun s10 _ _ => n - (intOf s10).toNat)
 case atStart => exact ⟨0, Nat.zero_le _, rfl, World.ownsRow_nil _ _ _ _, Below.refl _ _⟩
 case round =>
  obtain ⟨k, hk, rfl, hown, hB⟩ := hrel
  have hs := hB.size
  by_cases hlt : k < n
  ·obtain ⟨ad, hA, hl, hE⟩ := HS.out (by omega)
   subst hA
   have hE' := elA_below hE hB hl
   have t0 := (hE' k hlt).1
   have t1 := (hE' k hlt).2
   have hbr : ad.block < wr.heap.size := Nat.lt_of_lt_of_le hl hB.size
   have hba := block_add ad
   have ba := BA.out k
   have HK : Hid (keep f lo hi (k + 1) = keep f lo hi k ++ (if bit f k then [] else [(lo k, hi k)])) := hide rfl
   have hlen := keep_len f lo hi k
   clear hE hE'
   obtain ⟨M, eM⟩ : ∃ M, keep f lo hi (k + 1) = M := ⟨_, rfl⟩
   rw [eM] at HK
   have HM := hide eM
   clear eM
   generalize keep f lo hi k = L at *
   generalize lo k = X at *
   generalize hi k = Y at *
   cases hb : bit f k
   ·rw [hb] at ba
    have hM : M = L ++ [(X, Y)] := by rw [HK.out, hb]; rfl
    have hlc : M.length = L.length + 1 := by rw [hM]; simp
    have hsc : spC M = spC L ++ [.int .i64 X, .int .i64 Y] := by rw [hM, spC_app]; rfl
    have HLC := hide (And.intro hlc hsc)
    clear hlc hsc hM HK hb
    simp only [Bool.not_false] at ba
    have hv : ∃ A cp, u5 = .slice A L.length cp := by
     rcases hown.2 with ⟨h1, h2⟩ | ⟨g, cp, cur, h1, _⟩
     ·exact ⟨none, 0, by rw [h1, h2]⟩
     ·exact ⟨_, _, h1⟩
    obtain ⟨A, cp, rfl⟩ := hv
    go_wp2_with (at_builtin; go_loud (refine wpList_append_own _ rfl _ _ 50 rfl w.heap.size 24 i0 (.agg #[.int .i64 0, .int .i64 0]) 2 16 Try.underlying50 hi0 hq0 hq1 hq2 rfl (by decide) _ _ _ rfl (own_alloc (own_alloc hown _) _) ⟨wr.heap.size + 1, 0, none⟩ 1 1 [.int .i64 X, .int .i64 Y] (by first | rfl | (simp; done)) rfl (by intro j u hj; match j, hj with | 0, hj => (simp at hj; subst hj; simp [Addr.add]) | 1, hj => (simp at hj; subst hj; simp [Addr.add])) (by intro u hu; simp at hu; rcases hu with rfl | rfl <;> rfl) (by unfold maxLen; omega) (by omega) (by simp; omega) ?_); intro v8 w8 hown8 hgrow8 hq8; clear hq8; have hbx : Below w.heap.size w w8 := below_own (w := (wr.alloc (.cells #[.int .i64 X, .int .i64 Y] 24)).alloc (.cells #[.int .i64 X, .int .i64 Y] 24)) ((hB.alloc (by omega) _).alloc (by simp; omega) _) (own_alloc (own_alloc hown _) _) hgrow8 (Nat.le_refl _) (by simp; omega); have hz8 := hbx.size)
    rw [← HLC.out.1, ← HLC.out.2] at hown8
    clear hgrow8 hown
    go_roundw
    case rel => exact ⟨k + 1, by omega, by go_num, by rw [HM.out]; exact hown8, hbx⟩
    case measure => simp [intOf]; omega
   ·rw [hb] at ba
    have hM : M = L := by rw [HK.out, hb]; simp
    subst hM
    clear HK hb
    simp only [Bool.not_true] at ba
    go_wp2
    go_roundw
    case rel => exact ⟨k + 1, by omega, by go_num, by rw [HM.out]; exact own_alloc hown _, hB.alloc (by omega) _⟩
    case measure => simp [intOf]; omega
  ·obtain rfl : k = n := by omega
   go_wp2
   refine bodyPost_ret (by simp only [results, Try.results48]; go_simp) rfl ⟨_, rfl, hown, blw_⟩
end Sw
end
section
open Go.RowKit
open FP
namespace Sw
def keepS (f : Int) (el : Nat → FD.Sp) : Nat → List FD.Sp
 | 0 => []
 | k + 1 => keepS f el k ++ (if bit f k then [] else [el k])
def docS (g : FD.Sp → FD.Sp → FD.Sp × Int) (f : Int) (el : Nat → FD.Sp) : Nat → FD.Sp × Int
 | 0 => (.zero, 0)
 | k + 1 => if bit f k then docS g f el k else if (docS g f el k).2 = 0 then g (docS g f el k).1 (el k) else (.zero, (docS g f el k).2)
theorem fold_snoc (g : FD.Sp → FD.Sp → FD.Sp × Int) (x : FD.Sp) : ∀ (xs : List FD.Sp) (s : FD.Sp), ((FD.foldS g s xs).2 = 0 → (FD.foldS g s (xs ++ [x])).2 = (g (FD.foldS g s xs).1 x).2 ∧ ((g (FD.foldS g s xs).1 x).2 = 0 → (FD.foldS g s (xs ++ [x])).1 = (g (FD.foldS g s xs).1 x).1)) ∧ (¬ (FD.foldS g s xs).2 = 0 → (FD.foldS g s (xs ++ [x])).2 = (FD.foldS g s xs).2)
 | [], s => by
  simp only [FD.foldS, List.nil_append]
  refine ⟨fun _ => ?_, fun h => absurd trivial h⟩
  by_cases h : (g s x).2 = 0
  ·rw [if_pos h]; exact ⟨h.symm, fun _ => rfl⟩
  ·rw [if_neg h]; exact ⟨rfl, fun k => absurd k h⟩
 | y :: ys, s => by
  simp only [FD.foldS, List.cons_append]
  split
  ·exact fold_snoc g x ys _
  ·rename_i h
   exact ⟨fun k => absurd k h, fun _ => rfl⟩
theorem doc_fold (g : FD.Sp → FD.Sp → FD.Sp × Int) (f : Int) (el : Nat → FD.Sp) : ∀ k, (FD.foldS g .zero (keepS f el k)).2 = (docS g f el k).2 ∧ ((docS g f el k).2 = 0 → (FD.foldS g .zero (keepS f el k)).1 = (docS g f el k).1)
 | 0 => ⟨rfl, fun _ => rfl⟩
 | k + 1 => by
  obtain ⟨h1, h2⟩ := doc_fold g f el k
  simp only [keepS, docS]
  cases hb : bit f k
  ·obtain ⟨a, b⟩ := fold_snoc g (el k) (keepS f el k) .zero
   simp only [Bool.false_eq_true, if_false]
   by_cases h0 : (docS g f el k).2 = 0
   ·rw [if_pos h0]
    obtain ⟨c, d⟩ := a (by rw [h1]; exact h0)
    rw [h2 h0] at c d
    exact ⟨c, d⟩
   ·rw [if_neg h0]
    refine ⟨?_, fun h => absurd h h0⟩
    rw [b (by rw [h1]; exact h0), h1]
  ·simp only [if_true, List.append_nil]
   exact ⟨h1, h2⟩
theorem keep_el (f : Int) (lo hi : Nat → Int) (hE : ∀ j, FD.In64 (lo j) ∧ FD.In64 (hi j)) : ∀ k, (keepS f (FD.el lo hi hE) k).map (fun x => (x.lo, x.hi)) = keep f lo hi k
 | 0 => rfl
 | k + 1 => by
  simp only [keepS, keep, List.map_append, keep_el f lo hi hE k]
  cases bit f k <;> rfl
theorem upto_get (L : List FD.Sp) : FD.upto (fun j => L.getD j .zero) L.length = L := by
 apply List.ext_getElem
 ·simp [FD.upto]
 ·intro i h1 h2
  simp only [FD.upto, List.getElem_map, List.getElem_range]
  simp [h2]
end Sw
end
section
open Go.RowKit
open FP
namespace Sw
theorem own_spl {w : World} {base g cap : Nat} {L : List (Int × Int)} (h : w.ownsRow base 24 2 (.slice (some ⟨g, 0, none⟩) L.length cap) L.length (spC L)) : SpL w (some ⟨g, 0, none⟩) L.length (fun j => (L.getD j (0, 0)).1) (fun j => (L.getD j (0, 0)).2) := by
 intro _
 refine ⟨_, rfl, (h.lt g rfl).2, fun j hj => ?_⟩
 have hc := h.cells (g := g) rfl
 obtain ⟨a0, a1⟩ := spC_at L j hj
 have e : L.getD j (0, 0) = L[j] := by simp [hj]
 have k0 := hc _ _ a0
 have k1 := hc _ _ a1
 dsimp only
 rw [e]
 refine ⟨k0, ?_⟩
 have e1 : (⟨g, 0, none⟩ : Addr).add (j * 2 + 1) = ⟨g, ((⟨g, 0, none⟩ : Addr).add (j * 2)).off + 1, none⟩ := by
  unfold Addr.add
  split
  ·omega
  ·split <;> simp_all
 rw [e1] at k1
 exact k1
theorem own_or {w : World} {base : Nat} {v : Value} {n : Nat} {xs : List Value} (h : w.ownsRow base 24 2 v n xs) : (v = .slice none 0 0 ∧ n = 0) ∨ ∃ g cap, v = .slice (some ⟨g, 0, none⟩) n cap ∧ base ≤ g ∧ g < w.heap.size := by
 rcases h.2 with ⟨h1, h2⟩ | ⟨g, cap, cur, rfl, _⟩
 ·exact .inl ⟨h1, h2⟩
 ·exact .inr ⟨g, cap, rfl, h.lt g rfl⟩
end Sw
end
section
set_option maxRecDepth 100000
open Go.RowKit
open FP
namespace Sw
theorem pointU_any (x : Int) (w : World) : Calls Try.prog 49 #[.int .i64 x] w fun e w' => e = .returned (.agg #[.int .i64 (x), .int .i64 (x)]) ∧ Below w.heap.size w w' := by
 go_enter Try.func49, Try.ntmps49
 go_wp2
 refine bodyPost_ret (v := (.agg #[.int .i64 (x), .int .i64 (x)])) (by simp only [results, Try.results49]; go_simp) rfl ⟨rfl, blw_⟩
theorem dot1_any (x : Int) (w : World) : Calls Try.prog 25 #[.int .i64 x] w fun e w' => e = .returned (.agg #[.int .i64 (x), .int .i64 (x)]) ∧ Below w.heap.size w w' := by
 go_enter Try.func25, Try.ntmps25
 go_wp2
 refine bodyPost_ret (v := (.agg #[.int .i64 (x), .int .i64 (x)])) (by simp only [results, Try.results25]; go_simp) rfl ⟨rfl, blw_⟩
def numB (x : Int) : Bool := decide (-9223372036854775807 ≤ x)
theorem number_any (x : Int) (w : World) : Calls Try.prog 29 #[.int .i64 x] w fun e w' => e = .returned (.bool (numB x)) ∧ Below w.heap.size w w' := by
 unfold numB
 go_enter Try.func29, Try.ntmps29
 go_wp2
 go_ret
 exact ⟨rfl, Below.refl _ _⟩
theorem isNumber_any (x : Int) (h : FD.In64 x) (w : World) : Calls Try.prog 26 #[.int .i64 x] w fun e w' => e = .returned (.bool (numB x)) ∧ Below w.heap.size w w' := by
 have PO := hide (pointU_any x)
 have VO := hide (fun W b hb => valid_one b x x h h W hb)
 have e : vB x x = numB x := by unfold vB numB; by_cases c : -9223372036854775807 ≤ x <;> simp [c] <;> omega
 rw [e] at VO
 generalize numB x = r at *
 clear e h
 go_enter Try.func26, Try.ntmps26
 go_wp2_with fail
 refine (PO.out _).mono ?_
 rintro e w1 ⟨rfl, hb1⟩
 obtain ⟨hc1, hf1⟩ := bcell hb1
 have hz1 := hb1.size
 try simp only [World.size_alloc, World.size_setCell] at hz1
 clear hc1 hf1
 go_wp2_with fail
 refine (VO.out _ _ (by simp) (by go_simp) (by go_simp)).mono ?_
 rintro e w2 ⟨rfl, hb2⟩
 obtain ⟨hc2, hf2⟩ := bcell hb2
 have hz2 := hb2.size
 try simp only [World.size_alloc, World.size_setCell] at hz2
 try have : w1.heap.size < w2.heap.size := by omega
 try have : w1.heap.size ≤ w2.heap.size := by omega
 have c2_0_0 := zci w2 w1.heap.size 0 (x) (by go_simp)
 have c2_0_1 := zci w2 w1.heap.size 1 (x) (by go_simp)
 clear hc2 hf2
 go_wp2
 go_ret
 exact ⟨rfl, blw_⟩
theorem isPositive_any (x y : Int) (h : -9223372036854775808 ≤ x) (w : World) : Calls Try.prog 45 #[.agg #[.int .i64 (x), .int .i64 (y)]] w fun e w' => e = .returned (.bool (orderI x y 0 0 == 1)) ∧ Below w.heap.size w w' := by
 have SI := hide (sign_any x y h)
 generalize orderI x y 0 0 = r at *
 go_enter Try.func45, Try.ntmps45
 go_wp2_with fail
 refine (SI.out _).mono ?_
 rintro e w1 ⟨rfl, hb1⟩
 obtain ⟨hc1, hf1⟩ := bcell hb1
 have hz1 := hb1.size
 try simp only [World.size_alloc, World.size_setCell] at hz1
 try refine zw1 w w1 (by omega) fun _ _ => ?_
 have c1_0_0 := zci w1 w.heap.size 0 (x) (by go_simp)
 have c1_0_1 := zci w1 w.heap.size 1 (y) (by go_simp)
 clear hc1 hf1
 go_wp2
 go_ret
 exact ⟨rfl, blw_⟩
end Sw
end
section
set_option maxRecDepth 100000
open Go.RowKit
open FP
namespace Sw
theorem row_self {c : Array Value} {v : Value} (h : c[0]? = some v) : c.setIfInBounds 0 v = c := by
 apply Array.ext
 ·simp
 ·intro i h1 h2
  rw [Array.getElem_setIfInBounds]
  split
  ·rename_i e
   subst e
   rw [Array.getElem?_eq_getElem h2] at h
   exact (Option.some.inj h).symm
  ·rfl
theorem set_self {w : World} {b : Nat} {v : Value} (h : w.cell? ⟨b, 0, none⟩ = some v) : w.setCell ⟨b, 0, none⟩ v = w := by
 unfold World.cell? at h
 cases hg : w.heap[b]? with
 | none => simp [hg] at h
 | some o =>
  cases o with
  | cells c t fr =>
   simp only [hg, Option.isSome_none, Bool.false_eq_true, if_false] at h
   obtain ⟨hlt, hv⟩ := Array.getElem?_eq_some_iff.1 hg
   have e : (w.setCell ⟨b, 0, none⟩ v).heap = w.heap := by
    unfold World.setCell
    apply Array.ext
    ·simp
    ·intro i h1 h2
     simp only [Array.getElem_modify]
     split
     ·rename_i q
      subst q
      rw [hv]
      simp only [Option.isSome_none, Bool.false_eq_true, if_false, row_self h]
     ·rfl
   calc w.setCell ⟨b, 0, none⟩ v = { w with heap := (w.setCell ⟨b, 0, none⟩ v).heap } := rfl
    _ = w := by rw [e]
  | _ => simp [hg] at h
def kpE (e0 e : Int) : Int := if e0 = 0 then e else e0
def kpV (e0 e x : Int) : Int := if e0 = 0 ∧ e = 0 then x else 0
set_option maxHeartbeats 1000000 in
theorem keep_any (b : Nat) (e0 x y e : Int) (w : World) (hc : w.cell? ⟨b, 0, none⟩ = some (.int .i64 e0)) (hf : w.frozen? ⟨b, 0, none⟩ = false) (hb : b < w.heap.size) :
  Calls Try.prog 95 #[.pointer (some ⟨b, 0, none⟩), .agg #[.int .i64 (x), .int .i64 (y)], .int .i64 e] w fun r w' => r = .returned (.agg #[.int .i64 (kpV e0 e x), .int .i64 (kpV e0 e y)]) ∧ Below (w.setCell ⟨b, 0, none⟩ (.int .i64 (kpE e0 e))).heap.size (w.setCell ⟨b, 0, none⟩ (.int .i64 (kpE e0 e))) w' := by
 by_cases h0 : e0 = 0
 ·subst h0
  have ek : kpE 0 e = e := rfl
  rw [ek]
  by_cases h1 : e = 0
  ·subst h1
   rw [show kpV 0 0 x = x from rfl, show kpV 0 0 y = y from rfl]
   clear ek
   go_enter Try.func95, Try.ntmps95
   go_wp2
   refine bodyPost_ret (v := (.agg #[.int .i64 (x), .int .i64 (y)])) (by simp only [results, Try.results95]; go_simp) rfl ⟨rfl, blw_⟩
  ·rw [show kpV 0 e x = 0 by simp [kpV, h1], show kpV 0 e y = 0 by simp [kpV, h1]]
   have h1' : (e == 0) = false := by simpa using h1
   clear ek
   go_enter Try.func95, Try.ntmps95
   go_wp2
   refine bodyPost_ret (v := (.agg #[.int .i64 (0), .int .i64 (0)])) (by simp only [results, Try.results95]; go_simp) rfl ⟨rfl, blw_⟩
 ·rw [show kpV e0 e x = 0 by simp [kpV, h0], show kpV e0 e y = 0 by simp [kpV, h0], show kpE e0 e = e0 by simp [kpE, h0], set_self hc]
  have h0' : (e0 == 0) = false := by simpa using h0
  go_enter Try.func95, Try.ntmps95
  go_wp2
  refine bodyPost_ret (v := (.agg #[.int .i64 (0), .int .i64 (0)])) (by simp only [results, Try.results95]; go_simp) rfl ⟨rfl, blw_⟩
def ckE (e0 e : Int) : Int := if e0 = 0 then e else e0
def ckV (e0 x : Int) : Int := if e0 = 0 then x else 0
set_option maxHeartbeats 1000000 in
theorem rkeep_any (b : Nat) (e0 x y e : Int) (w : World) (hc : w.cell? ⟨b, 0, none⟩ = some (.int .i64 e0)) (hf : w.frozen? ⟨b, 0, none⟩ = false) (hb : b < w.heap.size) :
  Calls Try.prog 72 #[.pointer (some ⟨b, 0, none⟩), .agg #[.int .i64 (x), .int .i64 (y)], .int .i64 e] w fun r w' => r = .returned (.agg #[.int .i64 (ckV e0 x), .int .i64 (ckV e0 y)]) ∧ Below (w.setCell ⟨b, 0, none⟩ (.int .i64 (ckE e0 e))).heap.size (w.setCell ⟨b, 0, none⟩ (.int .i64 (ckE e0 e))) w' := by
 by_cases h0 : e0 = 0
 ·subst h0
  rw [show ckE 0 e = e from rfl, show ckV 0 x = x from rfl, show ckV 0 y = y from rfl]
  go_enter Try.func72, Try.ntmps72
  go_wp2
  refine bodyPost_ret (v := (.agg #[.int .i64 (x), .int .i64 (y)])) (by simp only [results, Try.results72]; go_simp) rfl ⟨rfl, blw_⟩
 ·rw [show ckV e0 x = 0 by simp [ckV, h0], show ckV e0 y = 0 by simp [ckV, h0], show ckE e0 e = e0 by simp [ckE, h0], set_self hc]
  have h0' : (e0 == 0) = false := by simpa using h0
  go_enter Try.func72, Try.ntmps72
  go_wp2
  refine bodyPost_ret (v := (.agg #[.int .i64 (0), .int .i64 (0)])) (by simp only [results, Try.results72]; go_simp) rfl ⟨rfl, blw_⟩
end Sw
end
section
set_option maxRecDepth 100000
open Go.RowKit
open FP
namespace Sw
theorem below_set2 {n : Nat} {w w' : World} (h : Below n w w') (p : Addr) (v : Value) : Below n (w.setCell p v) (w'.setCell p v) :=
 ⟨h.os, h.tape, h.output, by simp only [World.setCell, Array.size_modify]; exact h.size, fun k hk => by simp only [World.setCell, Array.getElem?_modify, h.block k hk]⟩
set_option maxHeartbeats 1000000 in
theorem fdiv_any (b : Nat) (e0 al ah bl bh rl rh e : Int) (OP : ∀ W, Calls Try.prog 96 #[.agg #[.int .i64 (al), .int .i64 (ah)], .agg #[.int .i64 (bl), .int .i64 (bh)]] W fun r W' => r = .returned (.tuple #[.agg #[.int .i64 (rl), .int .i64 (rh)], .int .i64 e]) ∧ Below W.heap.size W W') (w : World) (hc : w.cell? ⟨b, 0, none⟩ = some (.int .i64 e0)) (hf : w.frozen? ⟨b, 0, none⟩ = false) (hb : b < w.heap.size) :
  Calls Try.prog 50 #[.pointer (some ⟨b, 0, none⟩), .agg #[.int .i64 (al), .int .i64 (ah)], .agg #[.int .i64 (bl), .int .i64 (bh)]] w fun r w' => r = .returned (.agg #[.int .i64 (kpV e0 e rl), .int .i64 (kpV e0 e rh)]) ∧ Below (w.setCell ⟨b, 0, none⟩ (.int .i64 (kpE e0 e))).heap.size (w.setCell ⟨b, 0, none⟩ (.int .i64 (kpE e0 e))) w' := by
 have OP := hide OP
 have KP := hide (fun W => keep_any b e0 rl rh e W)
 generalize kpV e0 e rl = x at *
 generalize kpV e0 e rh = y at *
 generalize kpE e0 e = e1 at *
 go_enter Try.func50, Try.ntmps50
 go_wp2_with fail
 refine (OP.out _).mono ?_
 rintro r w1 ⟨rfl, hb1⟩
 obtain ⟨hc1, hf1⟩ := bcell hb1
 have hz1 := hb1.size
 simp only [World.size_alloc] at hz1
 have hbb : Below w.heap.size w w1 := blw_
 have c1 : w1.cell? ⟨b, 0, none⟩ = some (.int .i64 e0) := (hbb.cell (p := ⟨b, 0, none⟩) hb).trans hc
 have f1 : w1.frozen? ⟨b, 0, none⟩ = false := (hbb.frozen (p := ⟨b, 0, none⟩) hb).trans hf
 have l1 : b < w1.heap.size := by omega
 have g0 := zci w1 (w.heap.size + 2) 0 0 (by go_simp)
 have g1 := zci w1 (w.heap.size + 2) 1 0 (by go_simp)
 have g2 := zfe w1 (w.heap.size + 2) 0 (by go_simp)
 have g3 := zfe w1 (w.heap.size + 2) 1 (by go_simp)
 have g4 : w.heap.size + 2 < w1.heap.size := by omega
 have hne : ¬ b = w.heap.size + 2 := by omega
 have hne' : ¬ w.heap.size + 2 = b := by omega
 clear hc1 hf1
 go_wp2_with fail
 refine (KP.out _ c1 f1 l1).mono ?_
 rintro r w2 ⟨rfl, hb2⟩
 obtain ⟨hc2, hf2⟩ := bcell hb2
 have hz2 := hb2.size
 simp only [World.size_setCell] at hz2 hc2 hf2
 have k0 : w2.cell? ⟨w.heap.size + 2, 0, none⟩ = some (.int .i64 0) := by rw [hc2 _ _ g4]; go_simp
 have k1 : w2.cell? ⟨w.heap.size + 2, 1, none⟩ = some (.int .i64 0) := by rw [hc2 _ _ g4]; go_simp
 have k2 : w2.frozen? ⟨w.heap.size + 2, 0, none⟩ = false := by rw [hf2 _ _ g4]; go_simp
 have k3 : w2.frozen? ⟨w.heap.size + 2, 1, none⟩ = false := by rw [hf2 _ _ g4]; go_simp
 have k4 : w.heap.size + 2 < w2.heap.size := by omega
 have hbf : Below (w.setCell ⟨b, 0, none⟩ (.int .i64 e1)).heap.size (w.setCell ⟨b, 0, none⟩ (.int .i64 e1)) w2 := by
  refine (below_set2 (n := (w.setCell ⟨b, 0, none⟩ (.int .i64 e1)).heap.size) (by simpa using hbb) _ _).trans (hb2.mono ?_)
  simp only [World.size_setCell]; omega
 have hq : (w.setCell ⟨b, 0, none⟩ (.int .i64 e1)).heap.size ≤ w.heap.size + 2 := by simp
 have HBF := hide hbf
 clear hc2 hf2 hb2 hb1 hbf
 go_wp2
 refine bodyPost_ret (v := (.agg #[.int .i64 (x), .int .i64 (y)])) (by simp only [results, Try.results50]; go_simp) rfl ⟨rfl, by have hbf := HBF.out; exact blw_⟩
set_option maxHeartbeats 1000000 in
theorem fmul_any (b : Nat) (e0 al ah bl bh rl rh e : Int) (OP : ∀ W, Calls Try.prog 100 #[.agg #[.int .i64 (al), .int .i64 (ah)], .agg #[.int .i64 (bl), .int .i64 (bh)]] W fun r W' => r = .returned (.tuple #[.agg #[.int .i64 (rl), .int .i64 (rh)], .int .i64 e]) ∧ Below W.heap.size W W') (w : World) (hc : w.cell? ⟨b, 0, none⟩ = some (.int .i64 e0)) (hf : w.frozen? ⟨b, 0, none⟩ = false) (hb : b < w.heap.size) :
  Calls Try.prog 54 #[.pointer (some ⟨b, 0, none⟩), .agg #[.int .i64 (al), .int .i64 (ah)], .agg #[.int .i64 (bl), .int .i64 (bh)]] w fun r w' => r = .returned (.agg #[.int .i64 (kpV e0 e rl), .int .i64 (kpV e0 e rh)]) ∧ Below (w.setCell ⟨b, 0, none⟩ (.int .i64 (kpE e0 e))).heap.size (w.setCell ⟨b, 0, none⟩ (.int .i64 (kpE e0 e))) w' := by
 have OP := hide OP
 have KP := hide (fun W => keep_any b e0 rl rh e W)
 generalize kpV e0 e rl = x at *
 generalize kpV e0 e rh = y at *
 generalize kpE e0 e = e1 at *
 go_enter Try.func54, Try.ntmps54
 go_wp2_with fail
 refine (OP.out _).mono ?_
 rintro r w1 ⟨rfl, hb1⟩
 obtain ⟨hc1, hf1⟩ := bcell hb1
 have hz1 := hb1.size
 simp only [World.size_alloc] at hz1
 have hbb : Below w.heap.size w w1 := blw_
 have c1 : w1.cell? ⟨b, 0, none⟩ = some (.int .i64 e0) := (hbb.cell (p := ⟨b, 0, none⟩) hb).trans hc
 have f1 : w1.frozen? ⟨b, 0, none⟩ = false := (hbb.frozen (p := ⟨b, 0, none⟩) hb).trans hf
 have l1 : b < w1.heap.size := by omega
 have g0 := zci w1 (w.heap.size + 2) 0 0 (by go_simp)
 have g1 := zci w1 (w.heap.size + 2) 1 0 (by go_simp)
 have g2 := zfe w1 (w.heap.size + 2) 0 (by go_simp)
 have g3 := zfe w1 (w.heap.size + 2) 1 (by go_simp)
 have g4 : w.heap.size + 2 < w1.heap.size := by omega
 have hne : ¬ b = w.heap.size + 2 := by omega
 have hne' : ¬ w.heap.size + 2 = b := by omega
 clear hc1 hf1
 go_wp2_with fail
 refine (KP.out _ c1 f1 l1).mono ?_
 rintro r w2 ⟨rfl, hb2⟩
 obtain ⟨hc2, hf2⟩ := bcell hb2
 have hz2 := hb2.size
 simp only [World.size_setCell] at hz2 hc2 hf2
 have k0 : w2.cell? ⟨w.heap.size + 2, 0, none⟩ = some (.int .i64 0) := by rw [hc2 _ _ g4]; go_simp
 have k1 : w2.cell? ⟨w.heap.size + 2, 1, none⟩ = some (.int .i64 0) := by rw [hc2 _ _ g4]; go_simp
 have k2 : w2.frozen? ⟨w.heap.size + 2, 0, none⟩ = false := by rw [hf2 _ _ g4]; go_simp
 have k3 : w2.frozen? ⟨w.heap.size + 2, 1, none⟩ = false := by rw [hf2 _ _ g4]; go_simp
 have k4 : w.heap.size + 2 < w2.heap.size := by omega
 have hbf : Below (w.setCell ⟨b, 0, none⟩ (.int .i64 e1)).heap.size (w.setCell ⟨b, 0, none⟩ (.int .i64 e1)) w2 := by
  refine (below_set2 (n := (w.setCell ⟨b, 0, none⟩ (.int .i64 e1)).heap.size) (by simpa using hbb) _ _).trans (hb2.mono ?_)
  simp only [World.size_setCell]; omega
 have hq : (w.setCell ⟨b, 0, none⟩ (.int .i64 e1)).heap.size ≤ w.heap.size + 2 := by simp
 have HBF := hide hbf
 clear hc2 hf2 hb2 hb1 hbf
 go_wp2
 refine bodyPost_ret (v := (.agg #[.int .i64 (x), .int .i64 (y)])) (by simp only [results, Try.results54]; go_simp) rfl ⟨rfl, by have hbf := HBF.out; exact blw_⟩
set_option maxHeartbeats 1000000 in
theorem fsub_any (b : Nat) (e0 al ah bl bh rl rh e : Int) (OP : ∀ W, Calls Try.prog 99 #[.agg #[.int .i64 (al), .int .i64 (ah)], .agg #[.int .i64 (bl), .int .i64 (bh)]] W fun r W' => r = .returned (.tuple #[.agg #[.int .i64 (rl), .int .i64 (rh)], .int .i64 e]) ∧ Below W.heap.size W W') (w : World) (hc : w.cell? ⟨b, 0, none⟩ = some (.int .i64 e0)) (hf : w.frozen? ⟨b, 0, none⟩ = false) (hb : b < w.heap.size) :
  Calls Try.prog 53 #[.pointer (some ⟨b, 0, none⟩), .agg #[.int .i64 (al), .int .i64 (ah)], .agg #[.int .i64 (bl), .int .i64 (bh)]] w fun r w' => r = .returned (.agg #[.int .i64 (kpV e0 e rl), .int .i64 (kpV e0 e rh)]) ∧ Below (w.setCell ⟨b, 0, none⟩ (.int .i64 (kpE e0 e))).heap.size (w.setCell ⟨b, 0, none⟩ (.int .i64 (kpE e0 e))) w' := by
 have OP := hide OP
 have KP := hide (fun W => keep_any b e0 rl rh e W)
 generalize kpV e0 e rl = x at *
 generalize kpV e0 e rh = y at *
 generalize kpE e0 e = e1 at *
 go_enter Try.func53, Try.ntmps53
 go_wp2_with fail
 refine (OP.out _).mono ?_
 rintro r w1 ⟨rfl, hb1⟩
 obtain ⟨hc1, hf1⟩ := bcell hb1
 have hz1 := hb1.size
 simp only [World.size_alloc] at hz1
 have hbb : Below w.heap.size w w1 := blw_
 have c1 : w1.cell? ⟨b, 0, none⟩ = some (.int .i64 e0) := (hbb.cell (p := ⟨b, 0, none⟩) hb).trans hc
 have f1 : w1.frozen? ⟨b, 0, none⟩ = false := (hbb.frozen (p := ⟨b, 0, none⟩) hb).trans hf
 have l1 : b < w1.heap.size := by omega
 have g0 := zci w1 (w.heap.size + 2) 0 0 (by go_simp)
 have g1 := zci w1 (w.heap.size + 2) 1 0 (by go_simp)
 have g2 := zfe w1 (w.heap.size + 2) 0 (by go_simp)
 have g3 := zfe w1 (w.heap.size + 2) 1 (by go_simp)
 have g4 : w.heap.size + 2 < w1.heap.size := by omega
 have hne : ¬ b = w.heap.size + 2 := by omega
 have hne' : ¬ w.heap.size + 2 = b := by omega
 clear hc1 hf1
 go_wp2_with fail
 refine (KP.out _ c1 f1 l1).mono ?_
 rintro r w2 ⟨rfl, hb2⟩
 obtain ⟨hc2, hf2⟩ := bcell hb2
 have hz2 := hb2.size
 simp only [World.size_setCell] at hz2 hc2 hf2
 have k0 : w2.cell? ⟨w.heap.size + 2, 0, none⟩ = some (.int .i64 0) := by rw [hc2 _ _ g4]; go_simp
 have k1 : w2.cell? ⟨w.heap.size + 2, 1, none⟩ = some (.int .i64 0) := by rw [hc2 _ _ g4]; go_simp
 have k2 : w2.frozen? ⟨w.heap.size + 2, 0, none⟩ = false := by rw [hf2 _ _ g4]; go_simp
 have k3 : w2.frozen? ⟨w.heap.size + 2, 1, none⟩ = false := by rw [hf2 _ _ g4]; go_simp
 have k4 : w.heap.size + 2 < w2.heap.size := by omega
 have hbf : Below (w.setCell ⟨b, 0, none⟩ (.int .i64 e1)).heap.size (w.setCell ⟨b, 0, none⟩ (.int .i64 e1)) w2 := by
  refine (below_set2 (n := (w.setCell ⟨b, 0, none⟩ (.int .i64 e1)).heap.size) (by simpa using hbb) _ _).trans (hb2.mono ?_)
  simp only [World.size_setCell]; omega
 have hq : (w.setCell ⟨b, 0, none⟩ (.int .i64 e1)).heap.size ≤ w.heap.size + 2 := by simp
 have HBF := hide hbf
 clear hc2 hf2 hb2 hb1 hbf
 go_wp2
 refine bodyPost_ret (v := (.agg #[.int .i64 (x), .int .i64 (y)])) (by simp only [results, Try.results53]; go_simp) rfl ⟨rfl, by have hbf := HBF.out; exact blw_⟩
set_option maxHeartbeats 1000000 in
theorem fmost_any (b : Nat) (e0 al ah bl bh rl rh e : Int) (OP : ∀ W, Calls Try.prog 97 #[.agg #[.int .i64 (al), .int .i64 (ah)], .agg #[.int .i64 (bl), .int .i64 (bh)]] W fun r W' => r = .returned (.tuple #[.agg #[.int .i64 (rl), .int .i64 (rh)], .int .i64 e]) ∧ Below W.heap.size W W') (w : World) (hc : w.cell? ⟨b, 0, none⟩ = some (.int .i64 e0)) (hf : w.frozen? ⟨b, 0, none⟩ = false) (hb : b < w.heap.size) :
  Calls Try.prog 51 #[.pointer (some ⟨b, 0, none⟩), .agg #[.int .i64 (al), .int .i64 (ah)], .agg #[.int .i64 (bl), .int .i64 (bh)]] w fun r w' => r = .returned (.agg #[.int .i64 (kpV e0 e rl), .int .i64 (kpV e0 e rh)]) ∧ Below (w.setCell ⟨b, 0, none⟩ (.int .i64 (kpE e0 e))).heap.size (w.setCell ⟨b, 0, none⟩ (.int .i64 (kpE e0 e))) w' := by
 have OP := hide OP
 have KP := hide (fun W => keep_any b e0 rl rh e W)
 generalize kpV e0 e rl = x at *
 generalize kpV e0 e rh = y at *
 generalize kpE e0 e = e1 at *
 go_enter Try.func51, Try.ntmps51
 go_wp2_with fail
 refine (OP.out _).mono ?_
 rintro r w1 ⟨rfl, hb1⟩
 obtain ⟨hc1, hf1⟩ := bcell hb1
 have hz1 := hb1.size
 simp only [World.size_alloc] at hz1
 have hbb : Below w.heap.size w w1 := blw_
 have c1 : w1.cell? ⟨b, 0, none⟩ = some (.int .i64 e0) := (hbb.cell (p := ⟨b, 0, none⟩) hb).trans hc
 have f1 : w1.frozen? ⟨b, 0, none⟩ = false := (hbb.frozen (p := ⟨b, 0, none⟩) hb).trans hf
 have l1 : b < w1.heap.size := by omega
 have g0 := zci w1 (w.heap.size + 2) 0 0 (by go_simp)
 have g1 := zci w1 (w.heap.size + 2) 1 0 (by go_simp)
 have g2 := zfe w1 (w.heap.size + 2) 0 (by go_simp)
 have g3 := zfe w1 (w.heap.size + 2) 1 (by go_simp)
 have g4 : w.heap.size + 2 < w1.heap.size := by omega
 have hne : ¬ b = w.heap.size + 2 := by omega
 have hne' : ¬ w.heap.size + 2 = b := by omega
 clear hc1 hf1
 go_wp2_with fail
 refine (KP.out _ c1 f1 l1).mono ?_
 rintro r w2 ⟨rfl, hb2⟩
 obtain ⟨hc2, hf2⟩ := bcell hb2
 have hz2 := hb2.size
 simp only [World.size_setCell] at hz2 hc2 hf2
 have k0 : w2.cell? ⟨w.heap.size + 2, 0, none⟩ = some (.int .i64 0) := by rw [hc2 _ _ g4]; go_simp
 have k1 : w2.cell? ⟨w.heap.size + 2, 1, none⟩ = some (.int .i64 0) := by rw [hc2 _ _ g4]; go_simp
 have k2 : w2.frozen? ⟨w.heap.size + 2, 0, none⟩ = false := by rw [hf2 _ _ g4]; go_simp
 have k3 : w2.frozen? ⟨w.heap.size + 2, 1, none⟩ = false := by rw [hf2 _ _ g4]; go_simp
 have k4 : w.heap.size + 2 < w2.heap.size := by omega
 have hbf : Below (w.setCell ⟨b, 0, none⟩ (.int .i64 e1)).heap.size (w.setCell ⟨b, 0, none⟩ (.int .i64 e1)) w2 := by
  refine (below_set2 (n := (w.setCell ⟨b, 0, none⟩ (.int .i64 e1)).heap.size) (by simpa using hbb) _ _).trans (hb2.mono ?_)
  simp only [World.size_setCell]; omega
 have hq : (w.setCell ⟨b, 0, none⟩ (.int .i64 e1)).heap.size ≤ w.heap.size + 2 := by simp
 have HBF := hide hbf
 clear hc2 hf2 hb2 hb1 hbf
 go_wp2
 refine bodyPost_ret (v := (.agg #[.int .i64 (x), .int .i64 (y)])) (by simp only [results, Try.results51]; go_simp) rfl ⟨rfl, by have hbf := HBF.out; exact blw_⟩
set_option maxHeartbeats 1000000 in
theorem fleast_any (b : Nat) (e0 al ah bl bh rl rh e : Int) (OP : ∀ W, Calls Try.prog 98 #[.agg #[.int .i64 (al), .int .i64 (ah)], .agg #[.int .i64 (bl), .int .i64 (bh)]] W fun r W' => r = .returned (.tuple #[.agg #[.int .i64 (rl), .int .i64 (rh)], .int .i64 e]) ∧ Below W.heap.size W W') (w : World) (hc : w.cell? ⟨b, 0, none⟩ = some (.int .i64 e0)) (hf : w.frozen? ⟨b, 0, none⟩ = false) (hb : b < w.heap.size) :
  Calls Try.prog 52 #[.pointer (some ⟨b, 0, none⟩), .agg #[.int .i64 (al), .int .i64 (ah)], .agg #[.int .i64 (bl), .int .i64 (bh)]] w fun r w' => r = .returned (.agg #[.int .i64 (kpV e0 e rl), .int .i64 (kpV e0 e rh)]) ∧ Below (w.setCell ⟨b, 0, none⟩ (.int .i64 (kpE e0 e))).heap.size (w.setCell ⟨b, 0, none⟩ (.int .i64 (kpE e0 e))) w' := by
 have OP := hide OP
 have KP := hide (fun W => keep_any b e0 rl rh e W)
 generalize kpV e0 e rl = x at *
 generalize kpV e0 e rh = y at *
 generalize kpE e0 e = e1 at *
 go_enter Try.func52, Try.ntmps52
 go_wp2_with fail
 refine (OP.out _).mono ?_
 rintro r w1 ⟨rfl, hb1⟩
 obtain ⟨hc1, hf1⟩ := bcell hb1
 have hz1 := hb1.size
 simp only [World.size_alloc] at hz1
 have hbb : Below w.heap.size w w1 := blw_
 have c1 : w1.cell? ⟨b, 0, none⟩ = some (.int .i64 e0) := (hbb.cell (p := ⟨b, 0, none⟩) hb).trans hc
 have f1 : w1.frozen? ⟨b, 0, none⟩ = false := (hbb.frozen (p := ⟨b, 0, none⟩) hb).trans hf
 have l1 : b < w1.heap.size := by omega
 have g0 := zci w1 (w.heap.size + 2) 0 0 (by go_simp)
 have g1 := zci w1 (w.heap.size + 2) 1 0 (by go_simp)
 have g2 := zfe w1 (w.heap.size + 2) 0 (by go_simp)
 have g3 := zfe w1 (w.heap.size + 2) 1 (by go_simp)
 have g4 : w.heap.size + 2 < w1.heap.size := by omega
 have hne : ¬ b = w.heap.size + 2 := by omega
 have hne' : ¬ w.heap.size + 2 = b := by omega
 clear hc1 hf1
 go_wp2_with fail
 refine (KP.out _ c1 f1 l1).mono ?_
 rintro r w2 ⟨rfl, hb2⟩
 obtain ⟨hc2, hf2⟩ := bcell hb2
 have hz2 := hb2.size
 simp only [World.size_setCell] at hz2 hc2 hf2
 have k0 : w2.cell? ⟨w.heap.size + 2, 0, none⟩ = some (.int .i64 0) := by rw [hc2 _ _ g4]; go_simp
 have k1 : w2.cell? ⟨w.heap.size + 2, 1, none⟩ = some (.int .i64 0) := by rw [hc2 _ _ g4]; go_simp
 have k2 : w2.frozen? ⟨w.heap.size + 2, 0, none⟩ = false := by rw [hf2 _ _ g4]; go_simp
 have k3 : w2.frozen? ⟨w.heap.size + 2, 1, none⟩ = false := by rw [hf2 _ _ g4]; go_simp
 have k4 : w.heap.size + 2 < w2.heap.size := by omega
 have hbf : Below (w.setCell ⟨b, 0, none⟩ (.int .i64 e1)).heap.size (w.setCell ⟨b, 0, none⟩ (.int .i64 e1)) w2 := by
  refine (below_set2 (n := (w.setCell ⟨b, 0, none⟩ (.int .i64 e1)).heap.size) (by simpa using hbb) _ _).trans (hb2.mono ?_)
  simp only [World.size_setCell]; omega
 have hq : (w.setCell ⟨b, 0, none⟩ (.int .i64 e1)).heap.size ≤ w.heap.size + 2 := by simp
 have HBF := hide hbf
 clear hc2 hf2 hb2 hb1 hbf
 go_wp2
 refine bodyPost_ret (v := (.agg #[.int .i64 (x), .int .i64 (y)])) (by simp only [results, Try.results52]; go_simp) rfl ⟨rfl, by have hbf := HBF.out; exact blw_⟩
end Sw
end
section
set_option maxRecDepth 100000
open Go.RowKit
open FP
namespace Sw
set_option maxHeartbeats 1000000 in
theorem cAdd_any (b : Nat) (e0 al ah bl bh rl rh e : Int) (OP : ∀ W, Calls Try.prog 71 #[.agg #[.int .i64 (al), .int .i64 (ah)], .agg #[.int .i64 (bl), .int .i64 (bh)]] W fun r W' => r = .returned (.tuple #[.agg #[.int .i64 (rl), .int .i64 (rh)], .int .i64 e]) ∧ Below W.heap.size W W') (w : World) (hc : w.cell? ⟨b, 0, none⟩ = some (.int .i64 e0)) (hf : w.frozen? ⟨b, 0, none⟩ = false) (hb : b < w.heap.size) :
  Calls Try.prog 22 #[.pointer (some ⟨b, 0, none⟩), .agg #[.int .i64 (al), .int .i64 (ah)], .agg #[.int .i64 (bl), .int .i64 (bh)]] w fun r w' => r = .returned (.agg #[.int .i64 (ckV e0 rl), .int .i64 (ckV e0 rh)]) ∧ Below (w.setCell ⟨b, 0, none⟩ (.int .i64 (ckE e0 e))).heap.size (w.setCell ⟨b, 0, none⟩ (.int .i64 (ckE e0 e))) w' := by
 have OP := hide OP
 have KP := hide (fun W => rkeep_any b e0 rl rh e W)
 generalize ckV e0 rl = x at *
 generalize ckV e0 rh = y at *
 generalize ckE e0 e = e1 at *
 go_enter Try.func22, Try.ntmps22
 go_wp2_with fail
 refine (OP.out _).mono ?_
 rintro r w1 ⟨rfl, hb1⟩
 obtain ⟨hc1, hf1⟩ := bcell hb1
 have hz1 := hb1.size
 simp only [World.size_alloc] at hz1
 have hbb : Below w.heap.size w w1 := blw_
 have c1 : w1.cell? ⟨b, 0, none⟩ = some (.int .i64 e0) := (hbb.cell (p := ⟨b, 0, none⟩) hb).trans hc
 have f1 : w1.frozen? ⟨b, 0, none⟩ = false := (hbb.frozen (p := ⟨b, 0, none⟩) hb).trans hf
 have l1 : b < w1.heap.size := by omega
 have g0 := zci w1 (w.heap.size + 2) 0 0 (by go_simp)
 have g1 := zci w1 (w.heap.size + 2) 1 0 (by go_simp)
 have g2 := zfe w1 (w.heap.size + 2) 0 (by go_simp)
 have g3 := zfe w1 (w.heap.size + 2) 1 (by go_simp)
 have g4 : w.heap.size + 2 < w1.heap.size := by omega
 have hne : ¬ b = w.heap.size + 2 := by omega
 have hne' : ¬ w.heap.size + 2 = b := by omega
 clear hc1 hf1
 go_wp2_with fail
 have hb8 : Below w.heap.size w (w1.alloc (.cells #[.int .i64 rl, .int .i64 rh] 24)) := hbb.alloc (by omega) _
 have c2 : (w1.alloc (.cells #[.int .i64 rl, .int .i64 rh] 24)).cell? ⟨b, 0, none⟩ = some (.int .i64 e0) := (hb8.cell (p := ⟨b, 0, none⟩) hb).trans hc
 have f2 : (w1.alloc (.cells #[.int .i64 rl, .int .i64 rh] 24)).frozen? ⟨b, 0, none⟩ = false := (hb8.frozen (p := ⟨b, 0, none⟩) hb).trans hf
 have g5 : (w1.alloc (.cells #[.int .i64 rl, .int .i64 rh] 24)).cell? ⟨w.heap.size + 2, 0, none⟩ = some (.int .i64 0) := by go_simp
 have g6 : (w1.alloc (.cells #[.int .i64 rl, .int .i64 rh] 24)).cell? ⟨w.heap.size + 2, 1, none⟩ = some (.int .i64 0) := by go_simp
 have g7 : (w1.alloc (.cells #[.int .i64 rl, .int .i64 rh] 24)).frozen? ⟨w.heap.size + 2, 0, none⟩ = false := by go_simp
 have g8 : (w1.alloc (.cells #[.int .i64 rl, .int .i64 rh] 24)).frozen? ⟨w.heap.size + 2, 1, none⟩ = false := by go_simp
 have l2 : b < (w1.alloc (.cells #[.int .i64 rl, .int .i64 rh] 24)).heap.size := by simp; omega
 have l3 : w.heap.size + 2 < (w1.alloc (.cells #[.int .i64 rl, .int .i64 rh] 24)).heap.size := by simp; omega
 have hz3 : w.heap.size + 3 ≤ (w1.alloc (.cells #[.int .i64 rl, .int .i64 rh] 24)).heap.size := by simp; omega
 clear g0 g1 g2 g3 g4 c1 f1 l1 hb1 hbb hz1
 generalize w1.alloc (.cells #[.int .i64 rl, .int .i64 rh] 24) = w3 at *
 refine (KP.out _ c2 f2 l2).mono ?_
 rintro r w2 ⟨rfl, hb2⟩
 obtain ⟨hc2, hf2⟩ := bcell hb2
 have hz2 := hb2.size
 simp only [World.size_setCell] at hz2 hc2 hf2
 have k0 : w2.cell? ⟨w.heap.size + 2, 0, none⟩ = some (.int .i64 0) := by rw [hc2 _ _ l3]; go_simp
 have k1 : w2.cell? ⟨w.heap.size + 2, 1, none⟩ = some (.int .i64 0) := by rw [hc2 _ _ l3]; go_simp
 have k2 : w2.frozen? ⟨w.heap.size + 2, 0, none⟩ = false := by rw [hf2 _ _ l3]; go_simp
 have k3 : w2.frozen? ⟨w.heap.size + 2, 1, none⟩ = false := by rw [hf2 _ _ l3]; go_simp
 have k4 : w.heap.size + 2 < w2.heap.size := by omega
 have hbf : Below (w.setCell ⟨b, 0, none⟩ (.int .i64 e1)).heap.size (w.setCell ⟨b, 0, none⟩ (.int .i64 e1)) w2 := by
  refine (below_set2 (n := (w.setCell ⟨b, 0, none⟩ (.int .i64 e1)).heap.size) (by simpa using hb8) _ _).trans (hb2.mono ?_)
  simp only [World.size_setCell]; omega
 have HBF := hide hbf
 clear hc2 hf2 hb2 hbf hb8
 go_wp2
 refine bodyPost_ret (v := (.agg #[.int .i64 (x), .int .i64 (y)])) (by simp only [results, Try.results22]; go_simp) rfl ⟨rfl, by have hbf := HBF.out; exact blw_⟩
set_option maxHeartbeats 1000000 in
theorem cSub_any (b : Nat) (e0 al ah bl bh rl rh e : Int) (OP : ∀ W, Calls Try.prog 74 #[.agg #[.int .i64 (al), .int .i64 (ah)], .agg #[.int .i64 (bl), .int .i64 (bh)]] W fun r W' => r = .returned (.tuple #[.agg #[.int .i64 (rl), .int .i64 (rh)], .int .i64 e]) ∧ Below W.heap.size W W') (w : World) (hc : w.cell? ⟨b, 0, none⟩ = some (.int .i64 e0)) (hf : w.frozen? ⟨b, 0, none⟩ = false) (hb : b < w.heap.size) :
  Calls Try.prog 24 #[.pointer (some ⟨b, 0, none⟩), .agg #[.int .i64 (al), .int .i64 (ah)], .agg #[.int .i64 (bl), .int .i64 (bh)]] w fun r w' => r = .returned (.agg #[.int .i64 (ckV e0 rl), .int .i64 (ckV e0 rh)]) ∧ Below (w.setCell ⟨b, 0, none⟩ (.int .i64 (ckE e0 e))).heap.size (w.setCell ⟨b, 0, none⟩ (.int .i64 (ckE e0 e))) w' := by
 have OP := hide OP
 have KP := hide (fun W => rkeep_any b e0 rl rh e W)
 generalize ckV e0 rl = x at *
 generalize ckV e0 rh = y at *
 generalize ckE e0 e = e1 at *
 go_enter Try.func24, Try.ntmps24
 go_wp2_with fail
 refine (OP.out _).mono ?_
 rintro r w1 ⟨rfl, hb1⟩
 obtain ⟨hc1, hf1⟩ := bcell hb1
 have hz1 := hb1.size
 simp only [World.size_alloc] at hz1
 have hbb : Below w.heap.size w w1 := blw_
 have c1 : w1.cell? ⟨b, 0, none⟩ = some (.int .i64 e0) := (hbb.cell (p := ⟨b, 0, none⟩) hb).trans hc
 have f1 : w1.frozen? ⟨b, 0, none⟩ = false := (hbb.frozen (p := ⟨b, 0, none⟩) hb).trans hf
 have l1 : b < w1.heap.size := by omega
 have g0 := zci w1 (w.heap.size + 2) 0 0 (by go_simp)
 have g1 := zci w1 (w.heap.size + 2) 1 0 (by go_simp)
 have g2 := zfe w1 (w.heap.size + 2) 0 (by go_simp)
 have g3 := zfe w1 (w.heap.size + 2) 1 (by go_simp)
 have g4 : w.heap.size + 2 < w1.heap.size := by omega
 have hne : ¬ b = w.heap.size + 2 := by omega
 have hne' : ¬ w.heap.size + 2 = b := by omega
 clear hc1 hf1
 go_wp2_with fail
 have hb8 : Below w.heap.size w (w1.alloc (.cells #[.int .i64 rl, .int .i64 rh] 24)) := hbb.alloc (by omega) _
 have c2 : (w1.alloc (.cells #[.int .i64 rl, .int .i64 rh] 24)).cell? ⟨b, 0, none⟩ = some (.int .i64 e0) := (hb8.cell (p := ⟨b, 0, none⟩) hb).trans hc
 have f2 : (w1.alloc (.cells #[.int .i64 rl, .int .i64 rh] 24)).frozen? ⟨b, 0, none⟩ = false := (hb8.frozen (p := ⟨b, 0, none⟩) hb).trans hf
 have g5 : (w1.alloc (.cells #[.int .i64 rl, .int .i64 rh] 24)).cell? ⟨w.heap.size + 2, 0, none⟩ = some (.int .i64 0) := by go_simp
 have g6 : (w1.alloc (.cells #[.int .i64 rl, .int .i64 rh] 24)).cell? ⟨w.heap.size + 2, 1, none⟩ = some (.int .i64 0) := by go_simp
 have g7 : (w1.alloc (.cells #[.int .i64 rl, .int .i64 rh] 24)).frozen? ⟨w.heap.size + 2, 0, none⟩ = false := by go_simp
 have g8 : (w1.alloc (.cells #[.int .i64 rl, .int .i64 rh] 24)).frozen? ⟨w.heap.size + 2, 1, none⟩ = false := by go_simp
 have l2 : b < (w1.alloc (.cells #[.int .i64 rl, .int .i64 rh] 24)).heap.size := by simp; omega
 have l3 : w.heap.size + 2 < (w1.alloc (.cells #[.int .i64 rl, .int .i64 rh] 24)).heap.size := by simp; omega
 have hz3 : w.heap.size + 3 ≤ (w1.alloc (.cells #[.int .i64 rl, .int .i64 rh] 24)).heap.size := by simp; omega
 clear g0 g1 g2 g3 g4 c1 f1 l1 hb1 hbb hz1
 generalize w1.alloc (.cells #[.int .i64 rl, .int .i64 rh] 24) = w3 at *
 refine (KP.out _ c2 f2 l2).mono ?_
 rintro r w2 ⟨rfl, hb2⟩
 obtain ⟨hc2, hf2⟩ := bcell hb2
 have hz2 := hb2.size
 simp only [World.size_setCell] at hz2 hc2 hf2
 have k0 : w2.cell? ⟨w.heap.size + 2, 0, none⟩ = some (.int .i64 0) := by rw [hc2 _ _ l3]; go_simp
 have k1 : w2.cell? ⟨w.heap.size + 2, 1, none⟩ = some (.int .i64 0) := by rw [hc2 _ _ l3]; go_simp
 have k2 : w2.frozen? ⟨w.heap.size + 2, 0, none⟩ = false := by rw [hf2 _ _ l3]; go_simp
 have k3 : w2.frozen? ⟨w.heap.size + 2, 1, none⟩ = false := by rw [hf2 _ _ l3]; go_simp
 have k4 : w.heap.size + 2 < w2.heap.size := by omega
 have hbf : Below (w.setCell ⟨b, 0, none⟩ (.int .i64 e1)).heap.size (w.setCell ⟨b, 0, none⟩ (.int .i64 e1)) w2 := by
  refine (below_set2 (n := (w.setCell ⟨b, 0, none⟩ (.int .i64 e1)).heap.size) (by simpa using hb8) _ _).trans (hb2.mono ?_)
  simp only [World.size_setCell]; omega
 have HBF := hide hbf
 clear hc2 hf2 hb2 hbf hb8
 go_wp2
 refine bodyPost_ret (v := (.agg #[.int .i64 (x), .int .i64 (y)])) (by simp only [results, Try.results24]; go_simp) rfl ⟨rfl, by have hbf := HBF.out; exact blw_⟩
set_option maxHeartbeats 1000000 in
theorem cMul_any (b : Nat) (e0 al ah bl bh rl rh e : Int) (OP : ∀ W, Calls Try.prog 73 #[.agg #[.int .i64 (al), .int .i64 (ah)], .agg #[.int .i64 (bl), .int .i64 (bh)]] W fun r W' => r = .returned (.tuple #[.agg #[.int .i64 (rl), .int .i64 (rh)], .int .i64 e]) ∧ Below W.heap.size W W') (w : World) (hc : w.cell? ⟨b, 0, none⟩ = some (.int .i64 e0)) (hf : w.frozen? ⟨b, 0, none⟩ = false) (hb : b < w.heap.size) :
  Calls Try.prog 23 #[.pointer (some ⟨b, 0, none⟩), .agg #[.int .i64 (al), .int .i64 (ah)], .agg #[.int .i64 (bl), .int .i64 (bh)]] w fun r w' => r = .returned (.agg #[.int .i64 (ckV e0 rl), .int .i64 (ckV e0 rh)]) ∧ Below (w.setCell ⟨b, 0, none⟩ (.int .i64 (ckE e0 e))).heap.size (w.setCell ⟨b, 0, none⟩ (.int .i64 (ckE e0 e))) w' := by
 have OP := hide OP
 have KP := hide (fun W => rkeep_any b e0 rl rh e W)
 generalize ckV e0 rl = x at *
 generalize ckV e0 rh = y at *
 generalize ckE e0 e = e1 at *
 go_enter Try.func23, Try.ntmps23
 go_wp2_with fail
 refine (OP.out _).mono ?_
 rintro r w1 ⟨rfl, hb1⟩
 obtain ⟨hc1, hf1⟩ := bcell hb1
 have hz1 := hb1.size
 simp only [World.size_alloc] at hz1
 have hbb : Below w.heap.size w w1 := blw_
 have c1 : w1.cell? ⟨b, 0, none⟩ = some (.int .i64 e0) := (hbb.cell (p := ⟨b, 0, none⟩) hb).trans hc
 have f1 : w1.frozen? ⟨b, 0, none⟩ = false := (hbb.frozen (p := ⟨b, 0, none⟩) hb).trans hf
 have l1 : b < w1.heap.size := by omega
 have g0 := zci w1 (w.heap.size + 2) 0 0 (by go_simp)
 have g1 := zci w1 (w.heap.size + 2) 1 0 (by go_simp)
 have g2 := zfe w1 (w.heap.size + 2) 0 (by go_simp)
 have g3 := zfe w1 (w.heap.size + 2) 1 (by go_simp)
 have g4 : w.heap.size + 2 < w1.heap.size := by omega
 have hne : ¬ b = w.heap.size + 2 := by omega
 have hne' : ¬ w.heap.size + 2 = b := by omega
 clear hc1 hf1
 go_wp2_with fail
 have hb8 : Below w.heap.size w (w1.alloc (.cells #[.int .i64 rl, .int .i64 rh] 24)) := hbb.alloc (by omega) _
 have c2 : (w1.alloc (.cells #[.int .i64 rl, .int .i64 rh] 24)).cell? ⟨b, 0, none⟩ = some (.int .i64 e0) := (hb8.cell (p := ⟨b, 0, none⟩) hb).trans hc
 have f2 : (w1.alloc (.cells #[.int .i64 rl, .int .i64 rh] 24)).frozen? ⟨b, 0, none⟩ = false := (hb8.frozen (p := ⟨b, 0, none⟩) hb).trans hf
 have g5 : (w1.alloc (.cells #[.int .i64 rl, .int .i64 rh] 24)).cell? ⟨w.heap.size + 2, 0, none⟩ = some (.int .i64 0) := by go_simp
 have g6 : (w1.alloc (.cells #[.int .i64 rl, .int .i64 rh] 24)).cell? ⟨w.heap.size + 2, 1, none⟩ = some (.int .i64 0) := by go_simp
 have g7 : (w1.alloc (.cells #[.int .i64 rl, .int .i64 rh] 24)).frozen? ⟨w.heap.size + 2, 0, none⟩ = false := by go_simp
 have g8 : (w1.alloc (.cells #[.int .i64 rl, .int .i64 rh] 24)).frozen? ⟨w.heap.size + 2, 1, none⟩ = false := by go_simp
 have l2 : b < (w1.alloc (.cells #[.int .i64 rl, .int .i64 rh] 24)).heap.size := by simp; omega
 have l3 : w.heap.size + 2 < (w1.alloc (.cells #[.int .i64 rl, .int .i64 rh] 24)).heap.size := by simp; omega
 have hz3 : w.heap.size + 3 ≤ (w1.alloc (.cells #[.int .i64 rl, .int .i64 rh] 24)).heap.size := by simp; omega
 clear g0 g1 g2 g3 g4 c1 f1 l1 hb1 hbb hz1
 generalize w1.alloc (.cells #[.int .i64 rl, .int .i64 rh] 24) = w3 at *
 refine (KP.out _ c2 f2 l2).mono ?_
 rintro r w2 ⟨rfl, hb2⟩
 obtain ⟨hc2, hf2⟩ := bcell hb2
 have hz2 := hb2.size
 simp only [World.size_setCell] at hz2 hc2 hf2
 have k0 : w2.cell? ⟨w.heap.size + 2, 0, none⟩ = some (.int .i64 0) := by rw [hc2 _ _ l3]; go_simp
 have k1 : w2.cell? ⟨w.heap.size + 2, 1, none⟩ = some (.int .i64 0) := by rw [hc2 _ _ l3]; go_simp
 have k2 : w2.frozen? ⟨w.heap.size + 2, 0, none⟩ = false := by rw [hf2 _ _ l3]; go_simp
 have k3 : w2.frozen? ⟨w.heap.size + 2, 1, none⟩ = false := by rw [hf2 _ _ l3]; go_simp
 have k4 : w.heap.size + 2 < w2.heap.size := by omega
 have hbf : Below (w.setCell ⟨b, 0, none⟩ (.int .i64 e1)).heap.size (w.setCell ⟨b, 0, none⟩ (.int .i64 e1)) w2 := by
  refine (below_set2 (n := (w.setCell ⟨b, 0, none⟩ (.int .i64 e1)).heap.size) (by simpa using hb8) _ _).trans (hb2.mono ?_)
  simp only [World.size_setCell]; omega
 have HBF := hide hbf
 clear hc2 hf2 hb2 hbf hb8
 go_wp2
 refine bodyPost_ret (v := (.agg #[.int .i64 (x), .int .i64 (y)])) (by simp only [results, Try.results23]; go_simp) rfl ⟨rfl, by have hbf := HBF.out; exact blw_⟩
set_option maxHeartbeats 1000000 in
theorem cDiv_any (b : Nat) (e0 al ah bl bh rl rh e : Int) (OP : ∀ W, Calls Try.prog 101 #[.agg #[.int .i64 (al), .int .i64 (ah)], .agg #[.int .i64 (bl), .int .i64 (bh)]] W fun r W' => r = .returned (.tuple #[.agg #[.int .i64 (rl), .int .i64 (rh)], .int .i64 e]) ∧ Below W.heap.size W W') (w : World) (hc : w.cell? ⟨b, 0, none⟩ = some (.int .i64 e0)) (hf : w.frozen? ⟨b, 0, none⟩ = false) (hb : b < w.heap.size) :
  Calls Try.prog 59 #[.pointer (some ⟨b, 0, none⟩), .agg #[.int .i64 (al), .int .i64 (ah)], .agg #[.int .i64 (bl), .int .i64 (bh)]] w fun r w' => r = .returned (.agg #[.int .i64 (ckV e0 rl), .int .i64 (ckV e0 rh)]) ∧ Below (w.setCell ⟨b, 0, none⟩ (.int .i64 (ckE e0 e))).heap.size (w.setCell ⟨b, 0, none⟩ (.int .i64 (ckE e0 e))) w' := by
 have OP := hide OP
 have KP := hide (fun W => rkeep_any b e0 rl rh e W)
 generalize ckV e0 rl = x at *
 generalize ckV e0 rh = y at *
 generalize ckE e0 e = e1 at *
 go_enter Try.func59, Try.ntmps59
 go_wp2_with fail
 refine (OP.out _).mono ?_
 rintro r w1 ⟨rfl, hb1⟩
 obtain ⟨hc1, hf1⟩ := bcell hb1
 have hz1 := hb1.size
 simp only [World.size_alloc] at hz1
 have hbb : Below w.heap.size w w1 := blw_
 have c1 : w1.cell? ⟨b, 0, none⟩ = some (.int .i64 e0) := (hbb.cell (p := ⟨b, 0, none⟩) hb).trans hc
 have f1 : w1.frozen? ⟨b, 0, none⟩ = false := (hbb.frozen (p := ⟨b, 0, none⟩) hb).trans hf
 have l1 : b < w1.heap.size := by omega
 have g0 := zci w1 (w.heap.size + 2) 0 0 (by go_simp)
 have g1 := zci w1 (w.heap.size + 2) 1 0 (by go_simp)
 have g2 := zfe w1 (w.heap.size + 2) 0 (by go_simp)
 have g3 := zfe w1 (w.heap.size + 2) 1 (by go_simp)
 have g4 : w.heap.size + 2 < w1.heap.size := by omega
 have hne : ¬ b = w.heap.size + 2 := by omega
 have hne' : ¬ w.heap.size + 2 = b := by omega
 clear hc1 hf1
 go_wp2_with fail
 have hb8 : Below w.heap.size w (w1.alloc (.cells #[.int .i64 rl, .int .i64 rh] 24)) := hbb.alloc (by omega) _
 have c2 : (w1.alloc (.cells #[.int .i64 rl, .int .i64 rh] 24)).cell? ⟨b, 0, none⟩ = some (.int .i64 e0) := (hb8.cell (p := ⟨b, 0, none⟩) hb).trans hc
 have f2 : (w1.alloc (.cells #[.int .i64 rl, .int .i64 rh] 24)).frozen? ⟨b, 0, none⟩ = false := (hb8.frozen (p := ⟨b, 0, none⟩) hb).trans hf
 have g5 : (w1.alloc (.cells #[.int .i64 rl, .int .i64 rh] 24)).cell? ⟨w.heap.size + 2, 0, none⟩ = some (.int .i64 0) := by go_simp
 have g6 : (w1.alloc (.cells #[.int .i64 rl, .int .i64 rh] 24)).cell? ⟨w.heap.size + 2, 1, none⟩ = some (.int .i64 0) := by go_simp
 have g7 : (w1.alloc (.cells #[.int .i64 rl, .int .i64 rh] 24)).frozen? ⟨w.heap.size + 2, 0, none⟩ = false := by go_simp
 have g8 : (w1.alloc (.cells #[.int .i64 rl, .int .i64 rh] 24)).frozen? ⟨w.heap.size + 2, 1, none⟩ = false := by go_simp
 have l2 : b < (w1.alloc (.cells #[.int .i64 rl, .int .i64 rh] 24)).heap.size := by simp; omega
 have l3 : w.heap.size + 2 < (w1.alloc (.cells #[.int .i64 rl, .int .i64 rh] 24)).heap.size := by simp; omega
 have hz3 : w.heap.size + 3 ≤ (w1.alloc (.cells #[.int .i64 rl, .int .i64 rh] 24)).heap.size := by simp; omega
 clear g0 g1 g2 g3 g4 c1 f1 l1 hb1 hbb hz1
 generalize w1.alloc (.cells #[.int .i64 rl, .int .i64 rh] 24) = w3 at *
 refine (KP.out _ c2 f2 l2).mono ?_
 rintro r w2 ⟨rfl, hb2⟩
 obtain ⟨hc2, hf2⟩ := bcell hb2
 have hz2 := hb2.size
 simp only [World.size_setCell] at hz2 hc2 hf2
 have k0 : w2.cell? ⟨w.heap.size + 2, 0, none⟩ = some (.int .i64 0) := by rw [hc2 _ _ l3]; go_simp
 have k1 : w2.cell? ⟨w.heap.size + 2, 1, none⟩ = some (.int .i64 0) := by rw [hc2 _ _ l3]; go_simp
 have k2 : w2.frozen? ⟨w.heap.size + 2, 0, none⟩ = false := by rw [hf2 _ _ l3]; go_simp
 have k3 : w2.frozen? ⟨w.heap.size + 2, 1, none⟩ = false := by rw [hf2 _ _ l3]; go_simp
 have k4 : w.heap.size + 2 < w2.heap.size := by omega
 have hbf : Below (w.setCell ⟨b, 0, none⟩ (.int .i64 e1)).heap.size (w.setCell ⟨b, 0, none⟩ (.int .i64 e1)) w2 := by
  refine (below_set2 (n := (w.setCell ⟨b, 0, none⟩ (.int .i64 e1)).heap.size) (by simpa using hb8) _ _).trans (hb2.mono ?_)
  simp only [World.size_setCell]; omega
 have HBF := hide hbf
 clear hc2 hf2 hb2 hbf hb8
 go_wp2
 refine bodyPost_ret (v := (.agg #[.int .i64 (x), .int .i64 (y)])) (by simp only [results, Try.results59]; go_simp) rfl ⟨rfl, by have hbf := HBF.out; exact blw_⟩
end Sw
end
section
set_option maxRecDepth 100000
open Go.RowKit
open FP
namespace Sw
set_option maxHeartbeats 4000000 in
theorem results_any (b : Nat) (e0 al ah bl bh : Int) (w : World) (hc : w.cell? ⟨b, 0, none⟩ = some (.int .i64 e0)) (hb : b < w.heap.size) :
  Calls Try.prog 55 #[.pointer (some ⟨b, 0, none⟩), .agg #[.int .i64 (al), .int .i64 (ah)], .agg #[.int .i64 (bl), .int .i64 (bh)]] w fun r w' => r = .returned (.tuple #[.agg #[.int .i64 (ckV e0 al), .int .i64 (ckV e0 ah)], .agg #[.int .i64 (ckV e0 bl), .int .i64 (ckV e0 bh)], .int .i64 e0]) ∧ Below w.heap.size w w' := by
 have hn : b < w.heap.size + 1 ∧ b < w.heap.size + 2 ∧ b < w.heap.size + 3 ∧ b < w.heap.size + 1 + 1 ∧ b < w.heap.size + 1 + 1 + 1 := by omega
 obtain ⟨n0, n1, n2, n3, n4⟩ := hn
 have hc4 : ((((w.alloc (.cells #[.int .i64 al, .int .i64 ah] 24)).alloc (.cells #[.int .i64 bl, .int .i64 bh] 24)).alloc (.cells #[.int .i64 0, .int .i64 0] 24)).alloc (.cells #[.int .i64 0, .int .i64 0] 24)).cell? ⟨b, 0, none⟩ = some (.int .i64 e0) := by
  have hB : Below w.heap.size w ((((w.alloc (.cells #[.int .i64 al, .int .i64 ah] 24)).alloc (.cells #[.int .i64 bl, .int .i64 bh] 24)).alloc (.cells #[.int .i64 0, .int .i64 0] 24)).alloc (.cells #[.int .i64 0, .int .i64 0] 24)) := blw_
  exact (hB.cell (p := ⟨b, 0, none⟩) hb).trans hc
 by_cases h0 : e0 = 0
 ·subst h0
  rw [show ckV 0 al = al from rfl, show ckV 0 ah = ah from rfl, show ckV 0 bl = bl from rfl, show ckV 0 bh = bh from rfl]
  go_enter Try.func55, Try.ntmps55
  go_wp2
  go_region
  all_goals (go_wp2; refine bodyPost_ret (v := (.tuple #[.agg #[.int .i64 (al), .int .i64 (ah)], .agg #[.int .i64 (bl), .int .i64 (bh)], .int .i64 0])) (by simp only [results, Try.results55]; go_simp) rfl ⟨rfl, blw_⟩)
 ·rw [show ckV e0 al = 0 by simp [ckV, h0], show ckV e0 ah = 0 by simp [ckV, h0], show ckV e0 bl = 0 by simp [ckV, h0], show ckV e0 bh = 0 by simp [ckV, h0]]
  have h0' : (e0 == 0) = false := by simpa using h0
  go_enter Try.func55, Try.ntmps55
  go_wp2
  go_region
  all_goals (go_wp2; refine bodyPost_ret (v := (.tuple #[.agg #[.int .i64 (0), .int .i64 (0)], .agg #[.int .i64 (0), .int .i64 (0)], .int .i64 e0])) (by simp only [results, Try.results55]; go_simp) rfl ⟨rfl, blw_⟩)
set_option maxHeartbeats 4000000 in
theorem done_any (b : Nat) (e0 al ah bl bh : Int) (w : World) (hc : w.cell? ⟨b, 0, none⟩ = some (.int .i64 e0)) (hb : b < w.heap.size) :
  Calls Try.prog 62 #[.pointer (some ⟨b, 0, none⟩), .agg #[.int .i64 (al), .int .i64 (ah)], .agg #[.int .i64 (bl), .int .i64 (bh)]] w fun r w' => r = .returned (.tuple #[.agg #[.int .i64 (ckV e0 al), .int .i64 (ckV e0 ah)], .agg #[.int .i64 (ckV e0 bl), .int .i64 (ckV e0 bh)], .int .i64 e0]) ∧ Below w.heap.size w w' := by
 have hn : b < w.heap.size + 1 ∧ b < w.heap.size + 2 ∧ b < w.heap.size + 3 ∧ b < w.heap.size + 1 + 1 ∧ b < w.heap.size + 1 + 1 + 1 := by omega
 obtain ⟨n0, n1, n2, n3, n4⟩ := hn
 have hc4 : ((((w.alloc (.cells #[.int .i64 al, .int .i64 ah] 24)).alloc (.cells #[.int .i64 bl, .int .i64 bh] 24)).alloc (.cells #[.int .i64 0, .int .i64 0] 24)).alloc (.cells #[.int .i64 0, .int .i64 0] 24)).cell? ⟨b, 0, none⟩ = some (.int .i64 e0) := by
  have hB : Below w.heap.size w ((((w.alloc (.cells #[.int .i64 al, .int .i64 ah] 24)).alloc (.cells #[.int .i64 bl, .int .i64 bh] 24)).alloc (.cells #[.int .i64 0, .int .i64 0] 24)).alloc (.cells #[.int .i64 0, .int .i64 0] 24)) := blw_
  exact (hB.cell (p := ⟨b, 0, none⟩) hb).trans hc
 by_cases h0 : e0 = 0
 ·subst h0
  rw [show ckV 0 al = al from rfl, show ckV 0 ah = ah from rfl, show ckV 0 bl = bl from rfl, show ckV 0 bh = bh from rfl]
  go_enter Try.func62, Try.ntmps62
  go_wp2
  go_region
  all_goals (go_wp2; refine bodyPost_ret (v := (.tuple #[.agg #[.int .i64 (al), .int .i64 (ah)], .agg #[.int .i64 (bl), .int .i64 (bh)], .int .i64 0])) (by simp only [results, Try.results62]; go_simp) rfl ⟨rfl, blw_⟩)
 ·rw [show ckV e0 al = 0 by simp [ckV, h0], show ckV e0 ah = 0 by simp [ckV, h0], show ckV e0 bl = 0 by simp [ckV, h0], show ckV e0 bh = 0 by simp [ckV, h0]]
  have h0' : (e0 == 0) = false := by simpa using h0
  go_enter Try.func62, Try.ntmps62
  go_wp2
  go_region
  all_goals (go_wp2; refine bodyPost_ret (v := (.tuple #[.agg #[.int .i64 (0), .int .i64 (0)], .agg #[.int .i64 (0), .int .i64 (0)], .int .i64 e0])) (by simp only [results, Try.results62]; go_simp) rfl ⟨rfl, blw_⟩)
end Sw
end
end Go.Proofs.Ytacpahebbnnckaa
