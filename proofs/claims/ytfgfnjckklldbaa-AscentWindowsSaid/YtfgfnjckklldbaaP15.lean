/- Packed: WnE. -/
import Derived.Test.YtfgfnjckklldbaaRows
import Derived.ProofKit
import Derived.Carry
import Derived.Lib.SmallJoins
import Derived.BigQuiet
import Derived.Test.YtfgfnjckklldbaaP13
import Derived.Test.YtfgfnjckklldbaaP14
set_option linter.unusedVariables false
set_option linter.unusedSimpArgs false
namespace Go.Proofs.Ytfgfnjckklldbaa
section
set_option maxRecDepth 1000000
open Go.RowKit
open SX
theorem Sls.open_ {w : World} {v : Value} {L : List (Int × Int)} (h : Sls w v L) : ∃ (A : Option Addr) (cp : Nat), v = .slice A L.length cp ∧ (0 < L.length → ∃ g, A = some ⟨g, 0, none⟩ ∧ g < w.heap.size ∧ ∀ j (hj : j < L.length), w.cell? ⟨g, j * 2, none⟩ = some (.int .i64 L[j].1) ∧ w.cell? ⟨g, j * 2 + 1, none⟩ = some (.int .i64 L[j].2)) := by
 obtain ⟨base, h⟩ := h
 rcases h.2 with ⟨h1, h2⟩ | ⟨g, cp, cur, h1, h2, h3, _⟩
 ·exact ⟨none, 0, by rw [h1, h2], fun h0 => by omega⟩
 ·refine ⟨_, _, h1, fun h0 => ⟨g, rfl, (Array.getElem?_eq_some_iff.1 h3).1, fun j hj => ?_⟩⟩
  rw [h1] at h
  obtain ⟨e1, e2⟩ := slC_at L j hj
  exact ⟨(h.cellAt (j * 2) (by omega)).trans e1, (h.cellAt (j * 2 + 1) (by omega)).trans e2⟩
theorem Sls.len {w : World} {v : Value} {L : List (Int × Int)} (h : Sls w v L) : L.length ≤ maxLen := by
 obtain ⟨base, h⟩ := h
 rcases h.2 with ⟨_, h2⟩ | ⟨g, cp, cur, _, _, _, h4, h5, _⟩
 ·omega
 ·omega
theorem samesl_any (v u : Value) (L : List (Int × Int)) (w : World) (h1 : Sls w v L) (h2 : Sls w u L) :
  Calls Try.prog 11 #[v, u] w fun e w' => e = .returned (.bool true) ∧ Below w.heap.size w w' := by
 obtain ⟨A, cp, rfl, hA⟩ := h1.open_
 obtain ⟨B, cq, rfl, hB⟩ := h2.open_
 have hm := h1.len
 unfold maxLen at hm
 have HA := hide hA
 have HB := hide hB
 clear h1 h2 hA hB
 go_enter Try.func11, Try.ntmps11
 go_wp2
 go_loopw [5] (fun s5 wr => ∃ k : Nat, k ≤ L.length ∧ s5 = .int .i64 k ∧ Below w.heap.size w wr) (fun s5 _ => L.length - (intOf s5).toNat)
 case atStart => exact ⟨0, Nat.zero_le _, rfl, Below.refl _ _⟩
 case round =>
  obtain ⟨k, hk, rfl, hW⟩ := hrel
  have hz := hW.size
  by_cases hlt : k < L.length
  ·obtain ⟨g, rfl, hg, hc⟩ := HA.out (by omega)
   obtain ⟨g', rfl, hg', hc'⟩ := HB.out (by omega)
   have t0 := (hW.cell (p := ⟨g, k * 2, none⟩) hg).trans (hc k hlt).1
   have t1 := (hW.cell (p := ⟨g, k * 2 + 1, none⟩) hg).trans (hc k hlt).2
   have t2 := (hW.cell (p := ⟨g', k * 2, none⟩) hg').trans (hc' k hlt).1
   have t3 := (hW.cell (p := ⟨g', k * 2 + 1, none⟩) hg').trans (hc' k hlt).2
   have hgr : g < wr.heap.size := by omega
   have hgr' : g' < wr.heap.size := by omega
   have g1 : decide ((k : Int) < (L.length : Int)) = true := decide_eq_true (by omega)
   clear hc hc' HA HB
   generalize L[k].1 = x at *
   generalize L[k].2 = y at *
   go_wp2_with fail
   refine QT.quiet_b (by kernel_rfl) (by kernel_rfl) ?_
   repeat (first
    | go_big_quiet_skip
    | (go_big_quiet_want; go_big_quiet_op; first
     | go_big_quiet_on
     | (apply Exists.intro
        refine ⟨fun _ => ?_, ?_⟩
        ·first
         | rfl
         | (intro hC; obtain ⟨hcq, hfq⟩ := bcellB hC; go_simp; done)
         | (intro hC; obtain ⟨hcq, hfq⟩ := bcellB hC; go_simp; rfl)
         | (intro hC; have hcq := bcellG hC; go_simp; done)
         | (intro hC; have hcq := bcellG hC; go_simp; rfl)
        go_big_quiet_on)))
   refine wpQuiet_nil ?_
   intro w9 hC9
   obtain ⟨hc9, hf9⟩ := bcellB hC9
   have hz9 := hC9.size
   go_wp2
   go_roundw
   case rel => exact ⟨k + 1, by omega, by go_num, hW.trans blw_⟩
   case measure => simp [intOf]; omega
  ·obtain rfl : k = L.length := by omega
   go_wp2
   go_ret
   exact ⟨rfl, hW⟩
namespace lawAscentWindows
open Go.ChangeShapes Go.WideShapes Go.ChangeAt Go.Joins
theorem run (p f l a b t : Int) (err : Int) (L : List (Int × Int)) (x : Bool)
  (S1 : Hid (∀ w, Calls Try.prog 7 #[wvI p f l, .int .i64 a, .int .i64 b] w fun e w' => ∃ v, e = .returned (.tuple #[v, .int .i64 err]) ∧ Sls w' v L ∧ Below w.heap.size w w'))
  (S2 : Hid (∀ w, Calls Try.prog 8 #[wvI p f l, .int .i64 a, .int .i64 b] w fun e w' => ∃ v, e = .returned (.tuple #[v, .int .i64 err]) ∧ Sls w' v L ∧ Below w.heap.size w w'))
  (C1 : Hid (∀ w, Calls Try.prog 9 #[wvI p f l, .int .i64 t] w fun e w' => e = .returned (.bool x) ∧ Below w.heap.size w w'))
  (C2 : Hid (∀ w, Calls Try.prog 10 #[wvI p f l, .int .i64 t] w fun e w' => e = .returned (.bool x) ∧ Below w.heap.size w w')) (w : World) :
  Calls Try.prog 3 #[wvI p f l, .int .i64 a, .int .i64 b, .int .i64 t] w fun e w' => e = .returned (.bool true) ∧ Below w.heap.size w w' := by
 simp only [wvI] at *
 go_enter Try.func3, Try.ntmps3
 go_wp2_with fail
 refine (S1.out _).mono ?_
 rintro e w1 ⟨v1, rfl, h1, hb1⟩
 obtain ⟨hc1, hf1⟩ := bcell hb1
 have hz1 := hb1.size
 simp only [World.size_alloc] at hz1
 have y1 : w.heap.size < w1.heap.size := by omega
 have a0 := zci w1 w.heap.size 0 p (by go_simp)
 have a1 := zci w1 w.heap.size 1 f (by go_simp)
 have a2 := zci w1 w.heap.size 2 l (by go_simp)
 have hB1 : Below w.heap.size w w1 := blw_
 clear hc1 hf1 hb1
 go_wp2_with fail
 refine (S2.out _).mono ?_
 rintro e w2 ⟨v2, rfl, h2, hb2⟩
 obtain ⟨hc2, hf2⟩ := bcell hb2
 have hz2 := hb2.size
 have y2 : w.heap.size < w2.heap.size := by omega
 have b0 := zci w2 w.heap.size 0 p (by go_simp)
 have b1 := zci w2 w.heap.size 1 f (by go_simp)
 have b2 := zci w2 w.heap.size 2 l (by go_simp)
 have hB2 : Below w.heap.size w w2 := hB1.trans (hb2.mono (by omega))
 have h1' := h1.below hb2
 have SS : Hid (∀ W, Below w2.heap.size w2 W → Calls Try.prog 11 #[v1, v2] W fun e w' => e = .returned (.bool true) ∧ Below W.heap.size W w') := hide (fun W hW => samesl_any v1 v2 L W (h1'.below hW) (h2.below hW))
 clear hc2 hf2 hb2 a0 a1 a2 h1 h1' h2
 go_wp2_with fail
 refine QT.quiet_b (by kernel_rfl) (by kernel_rfl) ?_
 repeat (first
  | go_big_quiet_skip
  | (go_big_quiet_want; go_big_quiet_op; first
   | go_big_quiet_on
   | (apply Exists.intro
      refine ⟨fun _ => ?_, ?_⟩
      ·first
       | rfl
       | (intro hC; obtain ⟨hcq, hfq⟩ := bcellB hC; go_simp; done)
       | (intro hC; obtain ⟨hcq, hfq⟩ := bcellB hC; go_simp; rfl)
       | (intro hC; have hcq := bcellG hC; go_simp; done)
       | (intro hC; have hcq := bcellG hC; go_simp; rfl)
       | (intro hC; go_at_call 9; (first | (with_reducible refine (C1.out _).mono ?_)); (intro e w2 hw; exact ⟨hw.1, qtrans (by simp) hC hw.2⟩))
       | (intro hC; go_at_call 10; (first | (with_reducible refine (C2.out _).mono ?_)); (intro e w2 hw; exact ⟨hw.1, qtrans (by simp) hC hw.2⟩))
       | (intro hC; go_at_call 11; (first | (with_reducible refine (SS.out _ hC).mono ?_)); (intro e w2 hw; exact ⟨hw.1, qtrans (by simp) hC hw.2⟩))
      go_big_quiet_on)))
 refine wpQuiet_nil ?_
 intro w9 hC9
 obtain ⟨hc9, hf9⟩ := bcellB hC9
 have hz9 := hC9.size
 go_wp2
 go_ret
 exact ⟨rfl, hB2.trans blw_⟩
theorem walk (p0 p1 p2 p3 p4 p5 : Int) (k0 : I64 p0) (k1 : I64 p1) (k2 : I64 p2) (k3 : I64 p3) (k4 : I64 p4) (k5 : I64 p5) (w : World) :
  Calls Try.prog 3 #[.agg #[.int .i64 p0, .int .i64 p1, .int .i64 p2], .int .i64 p3, .int .i64 p4, .int .i64 p5] w fun e w' => e = .returned (.bool true) ∧ Below w.heap.size w w' := by
 clear k0 k1 k2 k3 k4 k5
 have bad (x : Bool) (C1 : Hid (∀ w, Calls Try.prog 9 #[wvI p0 p1 p2, .int .i64 p5] w fun e w' => e = .returned (.bool x) ∧ Below w.heap.size w w')) (C2 : Hid (∀ w, Calls Try.prog 10 #[wvI p0 p1 p2, .int .i64 p5] w fun e w' => e = .returned (.bool x) ∧ Below w.heap.size w w')) (h : (wB p0 p1 p2 && tB p3 && tB p4 && decide (p3 ≤ p4)) = false) :
   Calls Try.prog 3 #[wvI p0 p1 p2, .int .i64 p3, .int .i64 p4, .int .i64 p5] w fun e w' => e = .returned (.bool true) ∧ Below w.heap.size w w' :=
  run p0 p1 p2 p3 p4 p5 2 [] x (hide fun w => (slots_bad p0 p1 p2 p3 p4 h w).mono fun e w' ⟨q1, q2⟩ => ⟨_, q1, ⟨0, World.ownsRow_nil _ _ _ _⟩, q2⟩) (hide fun w => (tslots_bad p0 p1 p2 p3 p4 h w).mono fun e w' ⟨q1, q2⟩ => ⟨_, q1, ⟨0, World.ownsRow_nil _ _ _ _⟩, q2⟩) C1 C2 w
 cases h : wB p0 p1 p2 with
 | false => exact bad false (hide (contains_bad p0 p1 p2 h p5)) (hide (tcontains_bad p0 p1 p2 h p5)) (by rw [h]; rfl)
 | true =>
  have a := of_decide_eq_true h
  obtain ⟨p, rfl⟩ : ∃ p : Nat, p0 = p := ⟨p0.toNat, by omega⟩
  obtain ⟨l, rfl⟩ : ∃ l : Nat, p2 = l := ⟨p2.toNat, by omega⟩
  have hw : Win p l p1 := ⟨by omega, by omega, a.2.2.1, a.2.2.2.1, by omega⟩
  have C1 := hide (contains_any hw p5)
  have C2 := hide (tcontains_any hw p5)
  cases h2 : (wB p p1 l && tB p3 && tB p4 && decide (p3 ≤ p4)) with
  | false => exact bad _ C1 C2 h2
  | true =>
   simp only [Bool.and_eq_true, decide_eq_true_eq] at h2
   exact run p p1 l p3 p4 p5 _ _ _ (hide (slots_any hw p3 p4 h2.1.1.2 h2.1.2 h2.2)) (hide (tslots_any hw p3 p4 h2.1.1.2 h2.1.2 h2.2)) C1 C2 w
theorem own : ownKnob Try.prog.godebug = none := by kernel_rfl
theorem laidOut : laidOutB Try.prog = true := by kernel_rfl
set_option maxRecDepth 100000 in
theorem lifted (os : Os) (started : os.Started) (H : Type) (enc : TypeId × Value → H) :
  ReturnsInHanded {} Try.checked os 3 .any (Rows.ascentWindowsSpec.pre6 enc Try.prog Try.f3 Rows.ascentWindowsRow.domain false) (Rows.ascentWindowsSpec.post enc Try.prog Try.f3 false true false false) := by
 refine returnsInHanded_of_change (C := Try.checked) own started (by kernel_rfl) Try.func3
  (ChangeSpec.witness6 (enc := enc) (C := Try.checked) false ⟨#[], #[.agg #[.int .i64 0, .int .i64 0, .int .i64 0], .int .i64 0, .int .i64 0, .int .i64 0], []⟩ 8 (by kernel_rfl) (by kernel_rfl) (by kernel_rfl) (by kernel_rfl)) ?_
 intro W base args ds gs before hval0 hW _ _
 have hval : ∀ (j : Nat) t v, Try.f3.params[j]? = some t → args[j]? = some v → Value.okWide Try.prog W .any base t v := hval0
 have hW' := hW
 obtain ⟨p, q, hA0, hV, rfl, _, _⟩ := hW
 have hA : DataW.TrodAll enc Try.prog W 0 (fun _ => true) true Try.f3.params.toList args.toList ds p := hA0
 rw [Try.params3] at hA hval
 obtain ⟨v0, vs0, d0, ds0, p0, q0, hargs, rfl, rfl, h0, r0⟩ := trodAll_cons hA
 obtain ⟨v1, vs1, d1, ds1, p1, q1, rfl, rfl, rfl, h1, r1⟩ := trodAll_cons r0
 obtain ⟨v2, vs2, d2, ds2, p2, q2, rfl, rfl, rfl, h2, r2⟩ := trodAll_cons r1
 obtain ⟨v3, vs3, d3, ds3, p3, q3, rfl, rfl, rfl, h3, r3⟩ := trodAll_cons r2
 obtain ⟨rfl, rfl, rfl⟩ := trodAll_nil r3
 obtain rfl : args = #[v0, v1, v2, v3] := by cases args; simp_all
 obtain ⟨rfl, rfl⟩ := trodVars_none hV
 obtain ⟨cs0, rfl, hk0⟩ := open_plain (Q := fun _ _ => True) (fun _ _ _ _ _ _ _ _ _ => trivial) (n := 10) (ks := [.int .i64, .int .i64, .int .i64]) (by kernel_rfl) (by kernel_rfl) (by kernel_rfl) (hval 0 23 v0 rfl rfl) h0
 obtain ⟨x0_0, cs0, rfl, wf0_0, hk0⟩ := hk0.int
 obtain ⟨x0_1, cs0, rfl, wf0_1, hk0⟩ := hk0.int
 obtain ⟨x0_2, cs0, rfl, wf0_2, hk0⟩ := hk0.int
 obtain rfl := hk0.nil
 obtain ⟨x1, rfl, rfl, rfl, wf1⟩ := open_int Try.underlying3 (hval 1 3 v1 rfl rfl) h1
 obtain ⟨x2, rfl, rfl, rfl, wf2⟩ := open_int Try.underlying3 (hval 2 3 v2 rfl rfl) h2
 obtain ⟨x3, rfl, rfl, rfl, wf3⟩ := open_int Try.underlying3 (hval 3 3 v3 rfl rfl) h3
 clear hA0 hval0
 simp only [List.append_nil] at hW'
 refine (walk x0_0 x0_1 x0_2 x1 x2 x3 (i64_of_wf wf0_0) (i64_of_wf wf0_1) (i64_of_wf wf0_2) (i64_of_wf wf1) (i64_of_wf wf2) (i64_of_wf wf3) W).mono fun e W' ⟨he, hb⟩ => ?_
 subst he
 exact ⟨_, rfl, _, _, _, [], _, [], hW', (trodAll_cons_mk (shut_bool Try.underlying4 _) trodAll_mk0), (trodAll_cons_mk (Below.trod laidOut (by kernel_rfl) (of_decide_eq_true (by kernel_rfl)) h0 hb (fun x hx => hW'.lt x (by simp [hx]))) (trodAll_cons_mk (shut_int Try.underlying3 wf1) (trodAll_cons_mk (shut_int Try.underlying3 wf2) (trodAll_cons_mk (shut_int Try.underlying3 wf3) trodAll_mk0)))), rfl, hb.frame _, fun h => by cases h⟩
theorem holds : Rows.AscentWindowsSaid :=
 OpenClaim.holds_of_wide 3 Try.f3 rfl rfl rfl rfl rfl rfl rfl ⟨rfl, rfl, rfl, rfl, rfl⟩ rfl rfl rfl rfl rfl (by kernel_rfl) Try.func3 (by kernel_rfl)
  (of_decide_eq_true (by kernel_rfl)) (by unfold Func.isWrapper; first | (rw [if_pos (by decide +kernel)]; kernel_rfl) | (rw [if_neg (by decide +kernel)]; exact ⟨rfl, rfl⟩))
  (fun os started H enc _ => lifted os started H enc)
#print axioms holds
end lawAscentWindows
end
end Go.Proofs.Ytfgfnjckklldbaa
