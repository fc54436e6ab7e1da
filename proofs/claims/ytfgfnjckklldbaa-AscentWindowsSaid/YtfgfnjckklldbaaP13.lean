/- Packed: WnC WnD. -/
import Derived.OwnWalk
import Derived.Laws.AppendOwn
import Derived.Laws.OwnMore
import Derived.Test.YtfgfnjckklldbaaP12
set_option linter.unusedVariables false
set_option linter.unusedSimpArgs false
namespace Go.Proofs.Ytfgfnjckklldbaa
section
set_option maxRecDepth 1000000
open Go.RowKit
open SX
theorem slot_info : (Try.prog.info? 48).map (fun i => (i.zero, i.size, i.bytes)) = some (some (.agg #[.int .i64 0, .int .i64 0]), 2, 16) := by kernel_rfl
def slC : List (Int × Int) → List Value
 | [] => []
 | x :: l => .int .i64 x.1 :: .int .i64 x.2 :: slC l
theorem slC_app : ∀ L M, slC (L ++ M) = slC L ++ slC M
 | [], M => rfl
 | x :: l, M => by simp [slC, slC_app l M]
theorem slC_at : ∀ (L : List (Int × Int)) (j : Nat) (h : j < L.length), (slC L)[j * 2]? = some (.int .i64 L[j].1) ∧ (slC L)[j * 2 + 1]? = some (.int .i64 L[j].2)
 | x :: l, 0, _ => by simp [slC]
 | x :: l, j + 1, h => by
  have := slC_at l j (by simpa using h)
  rw [show (j + 1) * 2 = j * 2 + 2 by omega]
  simpa [slC] using this
theorem own_belowW {w w' : World} {base : Nat} {e : TypeId} {size : Nat} {v : Value} {n : Nat} {xs : List Value} (h : w.ownsRow base e size v n xs) (hb : Below w.heap.size w w') : w'.ownsRow base e size v n xs := by
 refine ⟨h.1, ?_⟩
 rcases h.2 with h1 | ⟨g, cap, cur, rfl, h1, h2, h3⟩
 ·exact .inl h1
 ·exact .inr ⟨g, cap, cur, rfl, h1, (hb.block g (Array.getElem?_eq_some_iff.1 h2).1).trans h2, h3⟩
theorem own_allocW {w : World} {base : Nat} {e : TypeId} {size : Nat} {v : Value} {n : Nat} {xs : List Value} (h : w.ownsRow base e size v n xs) (o : Obj) : (w.alloc o).ownsRow base e size v n xs := own_belowW h ((Below.refl _ w).alloc (Nat.le_refl _) o)
theorem below_ownW {B : Nat} {a w w' : World} {base : Nat} {e : TypeId} {size : Nat} {v : Value} {n : Nat} {xs : List Value} (h : Below B a w) (ho : w.ownsRow base e size v n xs) (hg : w.grownBy w' v.ownBlock) (hB : B ≤ base) (hs : B ≤ w.heap.size) : Below B a w' :=
 h.grown hg hs (fun k hk => Nat.le_trans hB (ho.lt k hk).1)
def Sls (w : World) (v : Value) (L : List (Int × Int)) : Prop := ∃ base, w.ownsRow base 48 2 v L.length (slC L)
theorem Sls.below {w w' : World} {v : Value} {L : List (Int × Int)} (h : Sls w v L) (hb : Below w.heap.size w w') : Sls w' v L := by
 obtain ⟨b, h⟩ := h
 exact ⟨b, own_belowW h hb⟩
def slR (p l : Nat) (f a b : Int) : List (Int × Int) × Int := if (Wn.tot p l f a b).length ≤ 4096 then (Wn.tot p l f a b, 0) else ([], 3)
theorem valid_ok {p l : Nat} {f : Int} (hw : Win p l f) : wB p f l = true := decide_eq_true (by have := hw.p0; have := hw.p1; have := hw.f0; have := hw.f1; have := hw.l1; omega)
theorem start_bd {p : Nat} {f a : Int} (hp : 0 < p) (hp1 : p ≤ 1073741824) (ha : -1152921504606846976 ≤ a ∧ a ≤ 1152921504606846976) : wrap64 (a - (a - f) % p) = a - (a - f) % p ∧ -1152921505680588800 ≤ a - (a - f) % p ∧ a - (a - f) % p ≤ a := by
 have a0 := Int.emod_nonneg (a - f) (show (p : Int) ≠ 0 by omega)
 have a1 := Int.emod_lt_of_pos (a - f) (show (0 : Int) < p by omega)
 exact ⟨wrapSmall (by omega), by omega, by omega⟩
theorem step_bd {s b : Int} {p : Nat} (hp1 : p ≤ 1073741824) (hs : -1152921505680588800 ≤ s) (hsb : s < b) (hb : b ≤ 1152921504606846976) : wrap64 (s + p) = s + p ∧ -1152921505680588800 ≤ s + p := ⟨wrapSmall (by omega), by omega⟩
set_option maxHeartbeats 4000000 in
theorem slots_any {p l : Nat} {f : Int} (hw : Win p l f) (a b : Int) (ha : tB a = true) (hb : tB b = true) (hab : a ≤ b) (w : World) :
  Calls Try.prog 7 #[wv p l f, .int .i64 a, .int .i64 b] w fun e w' => ∃ v, e = .returned (.tuple #[v, .int .i64 (slR p l f a b).2]) ∧ Sls w' v (slR p l f a b).1 ∧ Below w.heap.size w w' := by
 obtain ⟨i0, hi0, hq0, hq1, hq2⟩ := info_parts slot_info
 have W1 := hide (isWindow_any p f l)
 have W2 := hide (isInstant_any a)
 have W3 := hide (isInstant_any b)
 rw [valid_ok hw] at W1
 rw [ha] at W2
 rw [hb] at W3
 have Ha : -1152921504606846976 ≤ a ∧ a ≤ 1152921504606846976 := of_decide_eq_true ha
 have Hb : -1152921504606846976 ≤ b ∧ b ≤ 1152921504606846976 := of_decide_eq_true hb
 have hnab : ¬ b < a := by omega
 have BH := hide (behind_any hw a)
 obtain ⟨st1, st2, st3⟩ := start_bd (f := f) hw.p0 hw.p1 Ha
 have hp0 := hw.p0
 have hp1 := hw.p1
 have hl1 := hw.l1
 have HR : Hid (∀ T, Wn.tot p l f a b = T → slR p l f a b = if T.length ≤ 4096 then (T, 0) else ([], 3)) := hide (fun T h => by unfold slR; rw [h])
 have HT : Hid (Wn.tot p l f a b = if l = 0 ∨ a = b then [] else if l = p then [(a, b)] else Wn.rem p l a b (a - (a - f) % p)) := hide rfl
 generalize slR p l f a b = S at *
 generalize Wn.tot p l f a b = T at *
 by_cases h1 : l = 0 ∨ a = b
 ·have hS : S = ([], 0) := by rw [HR.out T rfl, HT.out, if_pos h1]; rfl
  subst hS
  simp only [wv, wvI] at *
  rcases Classical.em (l = 0) with hl | hl
  ·subst hl
   clear h1 hw ha hb Ha Hb BH st1 st2 st3
   go_enter Try.func7, Try.ntmps7
   go_wp2_with fail
   refine (W1.out _).mono ?_
   rintro e w1 ⟨rfl, hb1⟩
   obtain ⟨hc1, hf1⟩ := bcell hb1
   have hz1 := hb1.size
   try simp only [World.size_alloc, World.size_setCell] at hz1
   try refine zw1 w w1 (by omega) fun _ _ => ?_
   go_wp2_with fail
   refine (W2.out _).mono ?_
   rintro e w2 ⟨rfl, hb2⟩
   obtain ⟨hc2, hf2⟩ := bcell hb2
   have hz2 := hb2.size
   try simp only [World.size_alloc, World.size_setCell] at hz2
   try refine zw1 w w2 (by omega) fun _ _ => ?_
   try have : w1.heap.size < w2.heap.size := by omega
   try have : w1.heap.size ≤ w2.heap.size := by omega
   go_wp2_with fail
   refine (W3.out _).mono ?_
   rintro e w3 ⟨rfl, hb3⟩
   obtain ⟨hc3, hf3⟩ := bcell hb3
   have hz3 := hb3.size
   try simp only [World.size_alloc, World.size_setCell] at hz3
   try refine zw1 w w3 (by omega) fun _ _ => ?_
   try have : w1.heap.size < w3.heap.size := by omega
   try have : w1.heap.size ≤ w3.heap.size := by omega
   try have : w2.heap.size < w3.heap.size := by omega
   try have : w2.heap.size ≤ w3.heap.size := by omega
   go_wp2
   refine bodyPost_ret (v := .tuple #[.slice none 0 0, .int .i64 0]) (by simp only [results, Try.results7]; go_simp) rfl ⟨_, rfl, ⟨0, World.ownsRow_nil _ _ _ _⟩, blw_⟩
  ·have hl' : ((l : Int) == 0) = false := by simp; omega
   have hab2 : a = b := by rcases h1 with h | h; exact absurd h hl; exact h
   subst hab2
   clear h1 hw ha hb Ha Hb BH st1 st2 st3
   go_enter Try.func7, Try.ntmps7
   go_wp2_with fail
   refine (W1.out _).mono ?_
   rintro e w1 ⟨rfl, hb1⟩
   obtain ⟨hc1, hf1⟩ := bcell hb1
   have hz1 := hb1.size
   try simp only [World.size_alloc, World.size_setCell] at hz1
   try refine zw1 w w1 (by omega) fun _ _ => ?_
   go_wp2_with fail
   refine (W2.out _).mono ?_
   rintro e w2 ⟨rfl, hb2⟩
   obtain ⟨hc2, hf2⟩ := bcell hb2
   have hz2 := hb2.size
   try simp only [World.size_alloc, World.size_setCell] at hz2
   try refine zw1 w w2 (by omega) fun _ _ => ?_
   try have : w1.heap.size < w2.heap.size := by omega
   try have : w1.heap.size ≤ w2.heap.size := by omega
   go_wp2_with fail
   refine (W3.out _).mono ?_
   rintro e w3 ⟨rfl, hb3⟩
   obtain ⟨hc3, hf3⟩ := bcell hb3
   have hz3 := hb3.size
   try simp only [World.size_alloc, World.size_setCell] at hz3
   try refine zw1 w w3 (by omega) fun _ _ => ?_
   try have : w1.heap.size < w3.heap.size := by omega
   try have : w1.heap.size ≤ w3.heap.size := by omega
   try have : w2.heap.size < w3.heap.size := by omega
   try have : w2.heap.size ≤ w3.heap.size := by omega
   go_wp2
   refine bodyPost_ret (v := .tuple #[.slice none 0 0, .int .i64 0]) (by simp only [results, Try.results7]; go_simp) rfl ⟨_, rfl, ⟨0, World.ownsRow_nil _ _ _ _⟩, blw_⟩
 ·have hl0 : ¬ l = 0 := fun h => h1 (.inl h)
  have hne : ¬ a = b := fun h => h1 (.inr h)
  have hl' : ((l : Int) == 0) = false := by simp; omega
  have hne' : (a == b) = false := by simpa using hne
  by_cases h2 : l = p
  ·subst h2
   have hS : S = ([(a, b)], 0) := by rw [HR.out T rfl, HT.out, if_neg h1, if_pos rfl]; rfl
   subst hS
   simp only [wv, wvI] at *
   clear h1 hw ha hb Ha Hb BH st1 st2 st3
   go_enter Try.func7, Try.ntmps7
   go_wp2_with fail
   refine (W1.out _).mono ?_
   rintro e w1 ⟨rfl, hb1⟩
   obtain ⟨hc1, hf1⟩ := bcell hb1
   have hz1 := hb1.size
   try simp only [World.size_alloc, World.size_setCell] at hz1
   try refine zw1 w w1 (by omega) fun _ _ => ?_
   go_wp2_with fail
   refine (W2.out _).mono ?_
   rintro e w2 ⟨rfl, hb2⟩
   obtain ⟨hc2, hf2⟩ := bcell hb2
   have hz2 := hb2.size
   try simp only [World.size_alloc, World.size_setCell] at hz2
   try refine zw1 w w2 (by omega) fun _ _ => ?_
   try have : w1.heap.size < w2.heap.size := by omega
   try have : w1.heap.size ≤ w2.heap.size := by omega
   go_wp2_with fail
   refine (W3.out _).mono ?_
   rintro e w3 ⟨rfl, hb3⟩
   obtain ⟨hc3, hf3⟩ := bcell hb3
   have hz3 := hb3.size
   try simp only [World.size_alloc, World.size_setCell] at hz3
   try refine zw1 w w3 (by omega) fun _ _ => ?_
   try have : w1.heap.size < w3.heap.size := by omega
   try have : w1.heap.size ≤ w3.heap.size := by omega
   try have : w2.heap.size < w3.heap.size := by omega
   try have : w2.heap.size ≤ w3.heap.size := by omega
   go_wp2
   refine bodyPost_ret (v := .tuple #[.slice (some ⟨w3.heap.size, 0, none⟩) 1 1, .int .i64 0]) (by simp only [results, Try.results7]; go_simp) rfl ⟨_, rfl, ⟨0, ?_⟩, blw_⟩
   exact World.ownsRow_lit _ #[.int .i64 a, .int .i64 b] 1 (by simp) (by unfold maxLen; omega) rfl
  ·have h2' : ((l : Int) == p) = false := by simp; omega
   have h2'' : (l == p) = false := by simp; omega
   have hT := HT.out
   rw [if_neg h1, if_neg h2] at hT
   have HT := hide hT
   clear hT
   have HH := hide (And.intro Hb (And.intro st2 (And.intro hp0 (And.intro hp1 hl1))))
   generalize (a - f) % (p : Int) = at_ at *
   simp only [wv, wvI] at *
   clear h1 hw ha hb st2 st3 Ha Hb hp0 hp1 hl1
   go_enter Try.func7, Try.ntmps7
   go_wp2_with fail
   refine (W1.out _).mono ?_
   rintro e w1 ⟨rfl, hb1⟩
   obtain ⟨hc1, hf1⟩ := bcell hb1
   have hz1 := hb1.size
   try simp only [World.size_alloc, World.size_setCell] at hz1
   try refine zw1 w w1 (by omega) fun _ _ => ?_
   go_wp2_with fail
   refine (W2.out _).mono ?_
   rintro e w2 ⟨rfl, hb2⟩
   obtain ⟨hc2, hf2⟩ := bcell hb2
   have hz2 := hb2.size
   try simp only [World.size_alloc, World.size_setCell] at hz2
   try refine zw1 w w2 (by omega) fun _ _ => ?_
   try have : w1.heap.size < w2.heap.size := by omega
   try have : w1.heap.size ≤ w2.heap.size := by omega
   go_wp2_with fail
   refine (W3.out _).mono ?_
   rintro e w3 ⟨rfl, hb3⟩
   obtain ⟨hc3, hf3⟩ := bcell hb3
   have hz3 := hb3.size
   try simp only [World.size_alloc, World.size_setCell] at hz3
   try refine zw1 w w3 (by omega) fun _ _ => ?_
   try have : w1.heap.size < w3.heap.size := by omega
   try have : w1.heap.size ≤ w3.heap.size := by omega
   try have : w2.heap.size < w3.heap.size := by omega
   try have : w2.heap.size ≤ w3.heap.size := by omega
   go_wp2_with fail
   refine (BH.out _).mono ?_
   rintro e w4 ⟨rfl, hb4⟩
   obtain ⟨hc4, hf4⟩ := bcell hb4
   have hz4 := hb4.size
   try simp only [World.size_alloc, World.size_setCell] at hz4
   try refine zw1 w w4 (by omega) fun _ _ => ?_
   try have : w1.heap.size < w4.heap.size := by omega
   try have : w1.heap.size ≤ w4.heap.size := by omega
   try have : w2.heap.size < w4.heap.size := by omega
   try have : w2.heap.size ≤ w4.heap.size := by omega
   try have : w3.heap.size < w4.heap.size := by omega
   try have : w3.heap.size ≤ w4.heap.size := by omega
   go_wp2_with fail
   rw [st1]
   have hbw : Below w.heap.size w w4 := blw_
   have k0 := zci w4 w.heap.size 0 p (by go_simp)
   have k1 := zci w4 w.heap.size 1 f (by go_simp)
   have k2 := zci w4 w.heap.size 2 l (by go_simp)
   have z4 : w.heap.size < w4.heap.size := by omega
   have HS0 : Hid (-1152921505680588800 ≤ a - at_) := hide HH.out.2.1
   clear hb1 hb2 hb3 hb4 hc1 hc2 hc3 hc4 hf1 hf2 hf3 hf4 W1 W2 W3 BH st1
   go_loopw [8, 9] (fun s8 s9 wr => ∃ (L : List (Int × Int)) (s : Int), s9 = .int .i64 s ∧ Hid (T = L ++ Wn.rem p l a b s) ∧ L.length ≤ 4096 ∧ Hid (-1152921505680588800 ≤ s) ∧ wr.ownsRow w4.heap.size 48 2 s8 L.length (slC L) ∧ Below w4.heap.size w4 wr) (fun _ s9 _ => (b - intOf s9).toNat)
   case atStart => exact ⟨[], a - at_, rfl, HT, Nat.zero_le _, HS0, World.ownsRow_nil _ _ _ _, Below.refl _ _⟩
   case round =>
    obtain ⟨L, s, rfl, HTT, hL, HS, hown, hB⟩ := hrel
    have hzr := hB.size
    have z5 : w.heap.size < wr.heap.size := by omega
    obtain ⟨hcr, hfr⟩ := bcell hB
    have r0 : wr.cell? ⟨w.heap.size, 0, none⟩ = some (.int .i64 p) := (hcr _ _ z4).trans k0
    have r2 : wr.cell? ⟨w.heap.size, 2, none⟩ = some (.int .i64 l) := (hcr _ _ z4).trans k2
    clear hcr hfr
    by_cases hlt : s < b
    ·obtain ⟨hb0, hs0, hp0, hp1, hl1⟩ := HH.out
     have hT := HTT.out
     rw [Wn.rem_step hp0 hlt] at hT
     have sp := step_bd hp1 HS.out hlt hb0.2
     have sl := (step_bd (p := l) (by omega) HS.out hlt hb0.2).1
     have sp1 := sp.1
     have HSP := hide sp.2
     have HTN := hide hT
     clear hT sp hb0 hs0 hp0 hp1 hl1
     obtain ⟨X, hX⟩ : ∃ X, max s a = X := ⟨_, rfl⟩
     obtain ⟨Y, hY⟩ : ∃ Y, min (s + l) b = Y := ⟨_, rfl⟩
     rw [hX, hY] at HTN
     have x1 : (if s < a then a else s) = X := by rw [← hX]; split <;> omega
     have y1 : (if b < s + (l : Int) then b else s + (l : Int)) = Y := by rw [← hY]; split <;> omega
     clear hX hY
     by_cases hXY : X < Y
     ·have hYX : ¬ Y ≤ X := by omega
      rw [if_pos hXY] at HTN
      by_cases hfull : L.length = 4096
      ·have hS : S = ([], 3) := by
        have hlen : T.length = L.length + (1 + (Wn.rem p l a b (s + p)).length) := by rw [HTN.out]; simp; omega
        rw [HR.out T rfl, if_neg (by omega)]
       have hfI : ((L.length : Int) == 4096) = true := by simp; omega
       have hfN : (L.length == 4096) = true := by simp; omega
       clear HR HTT HTN HT
       subst hS
       rcases hown.2 with ⟨_, hn⟩ | ⟨g, cp, cur, rfl, hg⟩
       ·omega
       go_wp2
       refine bodyPost_ret (v := .tuple #[.slice none 0 0, .int .i64 3]) (by simp only [results, Try.results7]; go_simp) rfl ⟨_, rfl, ⟨0, World.ownsRow_nil _ _ _ _⟩, blw_⟩
      ·have hfI : ((L.length : Int) == 4096) = false := by simp; omega
       have hfN : (L.length == 4096) = false := by simp; omega
       have hL2 : L.length + 1 ≤ 4096 := by omega
       have HT2 : Hid (T = (L ++ [(X, Y)]) ++ Wn.rem p l a b (s + p)) := hide (by rw [HTN.out]; simp)
       have hlc : (L ++ [(X, Y)]).length = L.length + 1 := by simp
       have hsc : slC (L ++ [(X, Y)]) = slC L ++ [.int .i64 X, .int .i64 Y] := by rw [slC_app]; rfl
       have HLC := hide (And.intro hlc hsc)
       clear hlc hsc HTN HTT
       have hv : ∃ A cp, u8 = .slice A L.length cp := by
        rcases hown.2 with ⟨h1, h2⟩ | ⟨g, cp, cur, h1, _⟩
        ·exact ⟨none, 0, by rw [h1, h2]⟩
        ·exact ⟨_, _, h1⟩
       obtain ⟨A, cp, rfl⟩ := hv
       go_wp2_with (at_builtin; go_loud (refine wpList_append_own _ rfl _ _ 24 rfl w4.heap.size 48 i0 (.agg #[.int .i64 0, .int .i64 0]) 2 16 Try.underlying24 hi0 hq0 hq1 hq2 rfl (by decide) _ _ _ rfl (own_allocW (own_allocW hown _) _) ⟨wr.heap.size + 1, 0, none⟩ 1 1 [.int .i64 X, .int .i64 Y] (by first | rfl | (simp; done)) rfl (by intro j u hj; match j, hj with | 0, hj => (simp at hj; subst hj; simp [Addr.add]) | 1, hj => (simp at hj; subst hj; simp [Addr.add])) (by intro u hu; simp at hu; rcases hu with rfl | rfl <;> rfl) (by unfold maxLen; omega) (by omega) (by simp; omega) ?_); intro v8 w8 hown8 hgrow8 hq8; clear hq8; have hbx : Below w4.heap.size w4 w8 := below_ownW (w := (wr.alloc (.cells #[.int .i64 X, .int .i64 Y] 48)).alloc (.cells #[.int .i64 X, .int .i64 Y] 48)) ((hB.alloc (by omega) _).alloc (by simp; omega) _) (own_allocW (own_allocW hown _) _) hgrow8 (Nat.le_refl _) (by simp; omega); have hz8 := hbx.size; have z8 : w.heap.size < w8.heap.size := (by omega); have r8 : w8.cell? ⟨w.heap.size, 0, none⟩ = some (.int .i64 p) := ((bcell hbx).1 _ _ z4).trans k0)
       rw [← HLC.out.1, ← HLC.out.2] at hown8
       clear hgrow8 hown
       go_roundw
       case rel => exact ⟨L ++ [(X, Y)], s + p, by first | rfl | rw [sp1], HT2, by rw [HLC.out.1]; exact hL2, HSP, hown8, hbx⟩
       case measure => first | (rw [sp1]; have := HH.out.2.2.1; clear x1 y1 sl sp1; simp only [intOf]; omega) | (have := HH.out.2.2.1; clear x1 y1 sl sp1; simp only [intOf]; omega)
     ·have hYX : Y ≤ X := by omega
      rw [if_neg hXY, List.nil_append] at HTN
      go_wp2
      go_roundw
      case rel => exact ⟨L, s + p, by first | rfl | rw [sp1], HTN, hL, HSP, own_allocW hown _, hB.alloc (by omega) _⟩
      case measure => first | (rw [sp1]; have := HH.out.2.2.1; clear x1 y1 sl sp1; simp only [intOf]; omega) | (have := HH.out.2.2.1; clear x1 y1 sl sp1; simp only [intOf]; omega)
    ·have hT := HTT.out
     rw [Wn.rem_end hlt, List.append_nil] at hT
     have hS : S = (L, 0) := by rw [HR.out T rfl, hT, if_pos hL]
     clear HR HTT HT hT
     subst hS
     go_wp2
     refine bodyPost_ret (by simp only [results, Try.results7]; go_simp) rfl ⟨_, rfl, ⟨_, hown⟩, blw_⟩
end
section
set_option maxRecDepth 1000000
open Go.RowKit
open SX
def RR (p l : Nat) (f b t : Int) : List (Int × Int) := if l = 0 then [] else if l = p then (if t < b then [(t, b)] else []) else Wn.R p l f b t
theorem hs_is (p l : Nat) (f t : Int) : Meet.hs p l f t = decide ((t - f) % p < l) := rfl
theorem chg_bd {p l : Nat} {f : Int} (hw : Win p l f) (t : Int) : 1 ≤ chgI p l f t ∧ chgI p l f t ≤ 2305843009213693952 := by
 have h0 := hw.p0
 have h1 := hw.p1
 have h2 := hw.l1
 have b1 := Int.emod_nonneg (t - f) (show (p : Int) ≠ 0 by omega)
 have b2 := Int.emod_lt_of_pos (t - f) (show (0 : Int) < p by omega)
 unfold chgI
 split
 ·omega
 ·split
  ·omega
  ·split <;> omega
theorem RR_end {p l : Nat} {f : Int} (hp : 0 < p) (b : Int) : RR p l f b b = [] := by
 unfold RR
 split
 ·rfl
 ·split
  ·rw [if_neg (by omega)]
  ·exact Wn.R_end hp
theorem RR_in {p l : Nat} {f b t : Int} (hw : Win p l f) (hb : b ≤ 1152921504606846976) (ht : -1152921504606846976 ≤ t) (h : t < b) (hi : Meet.hs p l f t = true) : RR p l f b t = (t, min (t + chgI p l f t) b) :: RR p l f b (min (t + chgI p l f t) b) := by
 rw [hs_is, decide_eq_true_eq] at hi
 have b1 := Int.emod_nonneg (t - f) (show (p : Int) ≠ 0 by have := hw.p0; omega)
 by_cases h0 : l = 0
 ·omega
 ·by_cases h1 : l = p
  ·have : min (t + chgI p l f t) b = b := by unfold chgI; rw [if_neg h0, if_pos h1]; omega
   rw [this, RR_end hw.p0]
   unfold RR
   rw [if_neg h0, if_pos h1, if_pos h]
  ·have hc : chgI p l f t = l - (t - f) % p := by unfold chgI; rw [if_neg h0, if_neg h1, if_pos hi]
   rw [hc]
   unfold RR
   rw [if_neg h0, if_neg h1, if_neg h0, if_neg h1]
   exact Wn.ref_in hw.p0 (by have := hw.l1; omega) h hi
theorem RR_out {p l : Nat} {f b t : Int} (hw : Win p l f) (hb : b ≤ 1152921504606846976) (ht : -1152921504606846976 ≤ t) (h : t < b) (hi : Meet.hs p l f t = false) : RR p l f b t = RR p l f b (min (t + chgI p l f t) b) := by
 rw [hs_is, decide_eq_false_iff_not] at hi
 by_cases h0 : l = 0
 ·unfold RR
  rw [if_pos h0, if_pos h0]
 ·by_cases h1 : l = p
  ·have := Int.emod_lt_of_pos (t - f) (show (0 : Int) < p by have := hw.p0; omega)
   omega
  ·have hc : chgI p l f t = p - (t - f) % p := by unfold chgI; rw [if_neg h0, if_neg h1, if_neg hi]
   rw [hc]
   unfold RR
   rw [if_neg h0, if_neg h1, if_neg h0, if_neg h1]
   exact Wn.ref_out hw.p0 h hi
theorem tot_RR {p l : Nat} {f a b : Int} (hp : 0 < p) (hab : a ≤ b) : Wn.tot p l f a b = RR p l f b a := by
 unfold Wn.tot
 by_cases h0 : l = 0
 ·rw [if_pos (.inl h0)]; unfold RR; rw [if_pos h0]
 ·by_cases h1 : a = b
  ·rw [if_pos (.inr h1), h1, RR_end hp]
  ·rw [if_neg (by intro h; rcases h with h | h; exact h0 h; exact h1 h)]
   unfold RR
   rw [if_neg h0]
   by_cases h2 : l = p
   ·rw [if_pos h2, if_pos h2, if_pos (by omega)]
   ·rw [if_neg h2, if_neg h2]
set_option maxHeartbeats 4000000 in
theorem tslots_any {p l : Nat} {f : Int} (hw : Win p l f) (a b : Int) (ha : tB a = true) (hb : tB b = true) (hab : a ≤ b) (w : World) :
  Calls Try.prog 8 #[wv p l f, .int .i64 a, .int .i64 b] w fun e w' => ∃ v, e = .returned (.tuple #[v, .int .i64 (slR p l f a b).2]) ∧ Sls w' v (slR p l f a b).1 ∧ Below w.heap.size w w' := by
 obtain ⟨i0, hi0, hq0, hq1, hq2⟩ := info_parts slot_info
 have W1 := hide (window_any p f l)
 have W2 := hide (time_any a)
 have W3 := hide (time_any b)
 rw [valid_ok hw] at W1
 rw [ha] at W2
 rw [hb] at W3
 have Ha : -1152921504606846976 ≤ a ∧ a ≤ 1152921504606846976 := of_decide_eq_true ha
 have Hb : -1152921504606846976 ≤ b ∧ b ≤ 1152921504606846976 := of_decide_eq_true hb
 have hab2 : decide (a ≤ b) = true := decide_eq_true hab
 have HAS := hide (has_any hw)
 have CHG := hide (change_any hw)
 have HR : Hid (∀ T, Wn.tot p l f a b = T → slR p l f a b = if T.length ≤ 4096 then (T, 0) else ([], 3)) := hide (fun T h => by unfold slR; rw [h])
 have HT : Hid (Wn.tot p l f a b = [] ++ RR p l f b a) := hide (by rw [tot_RR hw.p0 hab]; rfl)
 generalize slR p l f a b = S at *
 generalize Wn.tot p l f a b = T at *
 have HH := hide (And.intro Ha (And.intro Hb hw))
 simp only [wv, wvI] at *
 clear hw ha hb Ha Hb
 go_enter Try.func8, Try.ntmps8
 go_wp2_with fail
 refine (W1.out _).mono ?_
 rintro e w1 ⟨rfl, hb1⟩
 obtain ⟨hc1, hf1⟩ := bcell hb1
 have hz1 := hb1.size
 try simp only [World.size_alloc, World.size_setCell] at hz1
 try refine zw1 w w1 (by omega) fun _ _ => ?_
 go_wp2_with fail
 refine (W2.out _).mono ?_
 rintro e w2 ⟨rfl, hb2⟩
 obtain ⟨hc2, hf2⟩ := bcell hb2
 have hz2 := hb2.size
 try simp only [World.size_alloc, World.size_setCell] at hz2
 try refine zw1 w w2 (by omega) fun _ _ => ?_
 try have : w1.heap.size < w2.heap.size := by omega
 try have : w1.heap.size ≤ w2.heap.size := by omega
 go_wp2_with fail
 refine (W3.out _).mono ?_
 rintro e w3 ⟨rfl, hb3⟩
 obtain ⟨hc3, hf3⟩ := bcell hb3
 have hz3 := hb3.size
 try simp only [World.size_alloc, World.size_setCell] at hz3
 try refine zw1 w w3 (by omega) fun _ _ => ?_
 try have : w1.heap.size < w3.heap.size := by omega
 try have : w1.heap.size ≤ w3.heap.size := by omega
 try have : w2.heap.size < w3.heap.size := by omega
 try have : w2.heap.size ≤ w3.heap.size := by omega
 go_wp2_with fail
 have k0 := zci w3 w.heap.size 0 p (by go_simp)
 have k1 := zci w3 w.heap.size 1 f (by go_simp)
 have k2 := zci w3 w.heap.size 2 l (by go_simp)
 have z4 : w.heap.size < w3.heap.size := by omega
 have hbw : Below w.heap.size w w3 := blw_
 clear hb1 hb2 hb3 hc1 hc2 hc3 hf1 hf2 hf3 W1 W2 W3
 have HAB := hide hab
 go_loopw [10, 11] (fun s10 s11 wr => ∃ (L : List (Int × Int)) (t : Int), s11 = .int .i64 t ∧ Hid (T = L ++ RR p l f b t) ∧ L.length ≤ 4096 ∧ Hid (a ≤ t ∧ t ≤ b) ∧ wr.ownsRow w3.heap.size 48 2 s10 L.length (slC L) ∧ Below w3.heap.size w3 wr) (fun _ s11 _ => (b - intOf s11).toNat)
 case atStart => exact ⟨[], a, rfl, HT, Nat.zero_le _, hide ⟨Int.le_refl _, HAB.out⟩, World.ownsRow_nil _ _ _ _, Below.refl _ _⟩
 case round =>
  obtain ⟨L, t, rfl, HTT, hL, HB, hown, hB⟩ := hrel
  have hzr := hB.size
  have z5 : w.heap.size < wr.heap.size := by omega
  obtain ⟨hcr, hfr⟩ := bcell hB
  have r0 : wr.cell? ⟨w.heap.size, 0, none⟩ = some (.int .i64 p) := (hcr _ _ z4).trans k0
  have r1 : wr.cell? ⟨w.heap.size, 1, none⟩ = some (.int .i64 f) := (hcr _ _ z4).trans k1
  have r2 : wr.cell? ⟨w.heap.size, 2, none⟩ = some (.int .i64 l) := (hcr _ _ z4).trans k2
  clear hcr hfr
  by_cases hlt : t < b
  ·have A1 := hide (HAS.out t)
   have A2 := hide (CHG.out t)
   obtain ⟨Ha, Hb, hw⟩ := HH.out
   obtain ⟨c1, c2⟩ := chg_bd hw t
   have hin := RR_in hw Hb.2 (show -1152921504606846976 ≤ t by have := HB.out; omega) hlt
   have hout := RR_out hw Hb.2 (show -1152921504606846976 ≤ t by have := HB.out; omega) hlt
   have HTN : Hid (∀ x, Meet.hs p l f t = x → T = L ++ if x = true then (t, min (t + chgI p l f t) b) :: RR p l f b (min (t + chgI p l f t) b) else RR p l f b (min (t + chgI p l f t) b)) := hide (fun x hx => by
    cases x
    ·rw [if_neg (by simp), ← hout hx]; exact HTT.out
    ·rw [if_pos rfl, ← hin hx]; exact HTT.out)
   clear hin hout
   have wr1 : wrap64 (t + chgI p l f t) = t + chgI p l f t := wrapSmall (by have := HB.out; omega)
   have HTX := hide (HTN.out _ rfl)
   clear HTN HTT
   generalize chgI p l f t = c at *
   generalize Meet.hs p l f t = x at *
   have HC := hide c1
   have HA1 : Hid (a ≤ t) := hide HB.out.1
   clear c1 c2 Ha Hb hw HB
   by_cases hE : b < t + c
   ·have hmin : min (t + c) b = b := Int.min_eq_right (Int.le_of_lt hE)
    rw [hmin] at HTX
    have HN : Hid (a ≤ b ∧ b ≤ b) := hide ⟨HAB.out, Int.le_refl _⟩
    clear hmin
    cases x
    ·rw [if_neg (by simp)] at HTX
     go_wp2_with fail
     refine (A1.out _).mono ?_
     rintro e w4 ⟨rfl, hb4⟩
     obtain ⟨hc4, hf4⟩ := bcell hb4
     have hz4 := hb4.size
     have y4 : w.heap.size < w4.heap.size := by omega
     have s0 := zci w4 w.heap.size 0 p (by go_simp)
     have s1 := zci w4 w.heap.size 1 f (by go_simp)
     have s2 := zci w4 w.heap.size 2 l (by go_simp)
     clear hc4 hf4
     go_wp2_with fail
     refine (A2.out _).mono ?_
     rintro e w5 ⟨rfl, hb5⟩
     have hz5 := hb5.size
     have own5 := own_belowW (own_belowW hown hb4) hb5
     have hB5 : Below w3.heap.size w3 w5 := (hB.trans (hb4.mono (by omega))).trans (hb5.mono (by omega))
     have y5 : w.heap.size < w5.heap.size := by omega
     have u0 : w5.cell? ⟨w.heap.size, 0, none⟩ = some (.int .i64 p) := ((bcell hB5).1 _ _ z4).trans k0
     have u1 : w5.cell? ⟨w.heap.size, 1, none⟩ = some (.int .i64 f) := ((bcell hB5).1 _ _ z4).trans k1
     have u2 : w5.cell? ⟨w.heap.size, 2, none⟩ = some (.int .i64 l) := ((bcell hB5).1 _ _ z4).trans k2
     clear hb4 hb5 s0 s1 s2 r0 r1 r2 hown hB A1 A2
     go_wp2
     go_roundw
     case rel => exact ⟨L, b, by first | rfl | rw [wr1], HTX, hL, HN, own5, hB5⟩
     case measure => (have := HC.out; have := HN.out; first | (rw [wr1]; clear wr1; simp only [intOf]; omega) | (clear wr1; simp only [intOf]; omega))
    ·rw [if_pos rfl] at HTX
     by_cases hfull : L.length = 4096
     ·have hS : S = ([], 3) := by
       have hlen : T.length = L.length + (1 + (RR p l f b b).length) := by rw [HTX.out]; simp; omega
       rw [HR.out T rfl, if_neg (by omega)]
      have hfI : ((L.length : Int) == 4096) = true := by simp; omega
      have hfN : (L.length == 4096) = true := by simp; omega
      clear HR HTX HT
      subst hS
      rcases hown.2 with ⟨_, hn⟩ | ⟨g, cp, cur, rfl, hg⟩
      ·omega
      go_wp2_with fail
      refine (A1.out _).mono ?_
      rintro e w4 ⟨rfl, hb4⟩
      obtain ⟨hc4, hf4⟩ := bcell hb4
      have hz4 := hb4.size
      have y4 : w.heap.size < w4.heap.size := by omega
      have s0 := zci w4 w.heap.size 0 p (by go_simp)
      have s1 := zci w4 w.heap.size 1 f (by go_simp)
      have s2 := zci w4 w.heap.size 2 l (by go_simp)
      clear hc4 hf4
      go_wp2_with fail
      refine (A2.out _).mono ?_
      rintro e w5 ⟨rfl, hb5⟩
      have hz5 := hb5.size
      have own5 := own_belowW (own_belowW hown hb4) hb5
      have hB5 : Below w3.heap.size w3 w5 := (hB.trans (hb4.mono (by omega))).trans (hb5.mono (by omega))
      have y5 : w.heap.size < w5.heap.size := by omega
      have u0 : w5.cell? ⟨w.heap.size, 0, none⟩ = some (.int .i64 p) := ((bcell hB5).1 _ _ z4).trans k0
      have u1 : w5.cell? ⟨w.heap.size, 1, none⟩ = some (.int .i64 f) := ((bcell hB5).1 _ _ z4).trans k1
      have u2 : w5.cell? ⟨w.heap.size, 2, none⟩ = some (.int .i64 l) := ((bcell hB5).1 _ _ z4).trans k2
      clear hb4 hb5 s0 s1 s2 r0 r1 r2 hown hB A1 A2
      go_wp2
      refine bodyPost_ret (v := .tuple #[.slice none 0 0, .int .i64 3]) (by simp only [results, Try.results8]; go_simp) rfl ⟨_, rfl, ⟨0, World.ownsRow_nil _ _ _ _⟩, hbw.trans (hB5.mono (by omega))⟩
     ·have hfI : ((L.length : Int) == 4096) = false := by simp; omega
      have hfN : (L.length == 4096) = false := by simp; omega
      have hL2 : L.length + 1 ≤ 4096 := by omega
      have HT2 : Hid (T = (L ++ [(t, b)]) ++ RR p l f b b) := hide (by rw [HTX.out]; simp)
      have hlc : (L ++ [(t, b)]).length = L.length + 1 := by simp
      have hsc : slC (L ++ [(t, b)]) = slC L ++ [.int .i64 t, .int .i64 b] := by rw [slC_app]; rfl
      have HLC := hide (And.intro hlc hsc)
      clear hlc hsc HTX
      have hv : ∃ A cp, u10 = .slice A L.length cp := by
       rcases hown.2 with ⟨h1, h2⟩ | ⟨g, cp, cur, h1, _⟩
       ·exact ⟨none, 0, by rw [h1, h2]⟩
       ·exact ⟨_, _, h1⟩
      obtain ⟨A, cp, rfl⟩ := hv
      go_wp2_with fail
      refine (A1.out _).mono ?_
      rintro e w4 ⟨rfl, hb4⟩
      obtain ⟨hc4, hf4⟩ := bcell hb4
      have hz4 := hb4.size
      have y4 : w.heap.size < w4.heap.size := by omega
      have s0 := zci w4 w.heap.size 0 p (by go_simp)
      have s1 := zci w4 w.heap.size 1 f (by go_simp)
      have s2 := zci w4 w.heap.size 2 l (by go_simp)
      clear hc4 hf4
      go_wp2_with fail
      refine (A2.out _).mono ?_
      rintro e w5 ⟨rfl, hb5⟩
      have hz5 := hb5.size
      have own5 := own_belowW (own_belowW hown hb4) hb5
      have hB5 : Below w3.heap.size w3 w5 := (hB.trans (hb4.mono (by omega))).trans (hb5.mono (by omega))
      have y5 : w.heap.size < w5.heap.size := by omega
      have u0 : w5.cell? ⟨w.heap.size, 0, none⟩ = some (.int .i64 p) := ((bcell hB5).1 _ _ z4).trans k0
      have u1 : w5.cell? ⟨w.heap.size, 1, none⟩ = some (.int .i64 f) := ((bcell hB5).1 _ _ z4).trans k1
      have u2 : w5.cell? ⟨w.heap.size, 2, none⟩ = some (.int .i64 l) := ((bcell hB5).1 _ _ z4).trans k2
      clear hb4 hb5 s0 s1 s2 r0 r1 r2 hown hB A1 A2
      go_wp2_with (at_builtin; go_loud (refine wpList_append_own _ rfl _ _ 24 rfl w3.heap.size 48 i0 (.agg #[.int .i64 0, .int .i64 0]) 2 16 Try.underlying24 hi0 hq0 hq1 hq2 rfl (by decide) _ _ _ rfl (own_allocW own5 _) ⟨w5.heap.size, 0, none⟩ 1 1 [.int .i64 t, .int .i64 (b)] (by first | rfl | (simp; done)) rfl (by intro j u hj; match j, hj with | 0, hj => (simp at hj; subst hj; simp [Addr.add]) | 1, hj => (simp at hj; subst hj; simp [Addr.add])) (by intro u hu; simp at hu; rcases hu with rfl | rfl <;> rfl) (by unfold maxLen; omega) (by omega) (by first | omega | (simp; omega)) ?_); intro v8 w8 hown8 hgrow8 hq8; clear hq8; have hbx : Below w3.heap.size w3 w8 := below_ownW (w := w5.alloc (.cells #[.int .i64 t, .int .i64 (b)] 48)) (hB5.alloc (by omega) _) (own_allocW own5 _) hgrow8 (Nat.le_refl _) (by simp; omega); have hz8 := hbx.size; have z8 : w.heap.size < w8.heap.size := (by omega))
      rw [← HLC.out.1, ← HLC.out.2] at hown8
      clear hgrow8
      go_roundw
      case rel => exact ⟨L ++ [(t, b)], b, by first | rfl | rw [wr1], HT2, by rw [HLC.out.1]; exact hL2, HN, hown8, hbx⟩
      case measure => (have := HC.out; have := HN.out; first | (rw [wr1]; clear wr1; simp only [intOf]; omega) | (clear wr1; simp only [intOf]; omega))
   ·have hmin : min (t + c) b = t + c := Int.min_eq_left (by omega)
    rw [hmin] at HTX
    have HN : Hid (a ≤ t + c ∧ t + c ≤ b) := hide ⟨by have := HA1.out; have := HC.out; omega, by omega⟩
    clear hmin
    cases x
    ·rw [if_neg (by simp)] at HTX
     go_wp2_with fail
     refine (A1.out _).mono ?_
     rintro e w4 ⟨rfl, hb4⟩
     obtain ⟨hc4, hf4⟩ := bcell hb4
     have hz4 := hb4.size
     have y4 : w.heap.size < w4.heap.size := by omega
     have s0 := zci w4 w.heap.size 0 p (by go_simp)
     have s1 := zci w4 w.heap.size 1 f (by go_simp)
     have s2 := zci w4 w.heap.size 2 l (by go_simp)
     clear hc4 hf4
     go_wp2_with fail
     refine (A2.out _).mono ?_
     rintro e w5 ⟨rfl, hb5⟩
     have hz5 := hb5.size
     have own5 := own_belowW (own_belowW hown hb4) hb5
     have hB5 : Below w3.heap.size w3 w5 := (hB.trans (hb4.mono (by omega))).trans (hb5.mono (by omega))
     have y5 : w.heap.size < w5.heap.size := by omega
     have u0 : w5.cell? ⟨w.heap.size, 0, none⟩ = some (.int .i64 p) := ((bcell hB5).1 _ _ z4).trans k0
     have u1 : w5.cell? ⟨w.heap.size, 1, none⟩ = some (.int .i64 f) := ((bcell hB5).1 _ _ z4).trans k1
     have u2 : w5.cell? ⟨w.heap.size, 2, none⟩ = some (.int .i64 l) := ((bcell hB5).1 _ _ z4).trans k2
     clear hb4 hb5 s0 s1 s2 r0 r1 r2 hown hB A1 A2
     go_wp2
     go_roundw
     case rel => exact ⟨L, (t + c), by first | rfl | rw [wr1], HTX, hL, HN, own5, hB5⟩
     case measure => (have := HC.out; have := HN.out; first | (rw [wr1]; clear wr1; simp only [intOf]; omega) | (clear wr1; simp only [intOf]; omega))
    ·rw [if_pos rfl] at HTX
     by_cases hfull : L.length = 4096
     ·have hS : S = ([], 3) := by
       have hlen : T.length = L.length + (1 + (RR p l f b (t + c)).length) := by rw [HTX.out]; simp; omega
       rw [HR.out T rfl, if_neg (by omega)]
      have hfI : ((L.length : Int) == 4096) = true := by simp; omega
      have hfN : (L.length == 4096) = true := by simp; omega
      clear HR HTX HT
      subst hS
      rcases hown.2 with ⟨_, hn⟩ | ⟨g, cp, cur, rfl, hg⟩
      ·omega
      go_wp2_with fail
      refine (A1.out _).mono ?_
      rintro e w4 ⟨rfl, hb4⟩
      obtain ⟨hc4, hf4⟩ := bcell hb4
      have hz4 := hb4.size
      have y4 : w.heap.size < w4.heap.size := by omega
      have s0 := zci w4 w.heap.size 0 p (by go_simp)
      have s1 := zci w4 w.heap.size 1 f (by go_simp)
      have s2 := zci w4 w.heap.size 2 l (by go_simp)
      clear hc4 hf4
      go_wp2_with fail
      refine (A2.out _).mono ?_
      rintro e w5 ⟨rfl, hb5⟩
      have hz5 := hb5.size
      have own5 := own_belowW (own_belowW hown hb4) hb5
      have hB5 : Below w3.heap.size w3 w5 := (hB.trans (hb4.mono (by omega))).trans (hb5.mono (by omega))
      have y5 : w.heap.size < w5.heap.size := by omega
      have u0 : w5.cell? ⟨w.heap.size, 0, none⟩ = some (.int .i64 p) := ((bcell hB5).1 _ _ z4).trans k0
      have u1 : w5.cell? ⟨w.heap.size, 1, none⟩ = some (.int .i64 f) := ((bcell hB5).1 _ _ z4).trans k1
      have u2 : w5.cell? ⟨w.heap.size, 2, none⟩ = some (.int .i64 l) := ((bcell hB5).1 _ _ z4).trans k2
      clear hb4 hb5 s0 s1 s2 r0 r1 r2 hown hB A1 A2
      go_wp2
      refine bodyPost_ret (v := .tuple #[.slice none 0 0, .int .i64 3]) (by simp only [results, Try.results8]; go_simp) rfl ⟨_, rfl, ⟨0, World.ownsRow_nil _ _ _ _⟩, hbw.trans (hB5.mono (by omega))⟩
     ·have hfI : ((L.length : Int) == 4096) = false := by simp; omega
      have hfN : (L.length == 4096) = false := by simp; omega
      have hL2 : L.length + 1 ≤ 4096 := by omega
      have HT2 : Hid (T = (L ++ [(t, (t + c))]) ++ RR p l f b (t + c)) := hide (by rw [HTX.out]; simp)
      have hlc : (L ++ [(t, (t + c))]).length = L.length + 1 := by simp
      have hsc : slC (L ++ [(t, (t + c))]) = slC L ++ [.int .i64 t, .int .i64 (t + c)] := by rw [slC_app]; rfl
      have HLC := hide (And.intro hlc hsc)
      clear hlc hsc HTX
      have hv : ∃ A cp, u10 = .slice A L.length cp := by
       rcases hown.2 with ⟨h1, h2⟩ | ⟨g, cp, cur, h1, _⟩
       ·exact ⟨none, 0, by rw [h1, h2]⟩
       ·exact ⟨_, _, h1⟩
      obtain ⟨A, cp, rfl⟩ := hv
      go_wp2_with fail
      refine (A1.out _).mono ?_
      rintro e w4 ⟨rfl, hb4⟩
      obtain ⟨hc4, hf4⟩ := bcell hb4
      have hz4 := hb4.size
      have y4 : w.heap.size < w4.heap.size := by omega
      have s0 := zci w4 w.heap.size 0 p (by go_simp)
      have s1 := zci w4 w.heap.size 1 f (by go_simp)
      have s2 := zci w4 w.heap.size 2 l (by go_simp)
      clear hc4 hf4
      go_wp2_with fail
      refine (A2.out _).mono ?_
      rintro e w5 ⟨rfl, hb5⟩
      have hz5 := hb5.size
      have own5 := own_belowW (own_belowW hown hb4) hb5
      have hB5 : Below w3.heap.size w3 w5 := (hB.trans (hb4.mono (by omega))).trans (hb5.mono (by omega))
      have y5 : w.heap.size < w5.heap.size := by omega
      have u0 : w5.cell? ⟨w.heap.size, 0, none⟩ = some (.int .i64 p) := ((bcell hB5).1 _ _ z4).trans k0
      have u1 : w5.cell? ⟨w.heap.size, 1, none⟩ = some (.int .i64 f) := ((bcell hB5).1 _ _ z4).trans k1
      have u2 : w5.cell? ⟨w.heap.size, 2, none⟩ = some (.int .i64 l) := ((bcell hB5).1 _ _ z4).trans k2
      clear hb4 hb5 s0 s1 s2 r0 r1 r2 hown hB A1 A2
      go_wp2_with (at_builtin; go_loud (refine wpList_append_own _ rfl _ _ 24 rfl w3.heap.size 48 i0 (.agg #[.int .i64 0, .int .i64 0]) 2 16 Try.underlying24 hi0 hq0 hq1 hq2 rfl (by decide) _ _ _ rfl (own_allocW own5 _) ⟨w5.heap.size, 0, none⟩ 1 1 [.int .i64 t, .int .i64 ((t + c))] (by first | rfl | (simp; done)) rfl (by intro j u hj; match j, hj with | 0, hj => (simp at hj; subst hj; simp [Addr.add]) | 1, hj => (simp at hj; subst hj; simp [Addr.add])) (by intro u hu; simp at hu; rcases hu with rfl | rfl <;> rfl) (by unfold maxLen; omega) (by omega) (by first | omega | (simp; omega)) ?_); intro v8 w8 hown8 hgrow8 hq8; clear hq8; have hbx : Below w3.heap.size w3 w8 := below_ownW (w := w5.alloc (.cells #[.int .i64 t, .int .i64 ((t + c))] 48)) (hB5.alloc (by omega) _) (own_allocW own5 _) hgrow8 (Nat.le_refl _) (by simp; omega); have hz8 := hbx.size; have z8 : w.heap.size < w8.heap.size := (by omega))
      rw [← HLC.out.1, ← HLC.out.2] at hown8
      clear hgrow8
      go_roundw
      case rel => exact ⟨L ++ [(t, (t + c))], (t + c), by first | rfl | rw [wr1], HT2, by rw [HLC.out.1]; exact hL2, HN, hown8, hbx⟩
      case measure => (have := HC.out; have := HN.out; first | (rw [wr1]; clear wr1; simp only [intOf]; omega) | (clear wr1; simp only [intOf]; omega))
  ·have hT := HTT.out
   have htb : t = b := by have := HB.out; omega
   subst htb
   rw [RR_end HH.out.2.2.p0, List.append_nil] at hT
   have hS : S = (L, 0) := by rw [HR.out T rfl, hT, if_pos hL]
   clear HR HTT HT hT
   subst hS
   go_wp2
   refine bodyPost_ret (by simp only [results, Try.results8]; go_simp) rfl ⟨_, rfl, ⟨_, hown⟩, blw_⟩
end
end Go.Proofs.Ytfgfnjckklldbaa
