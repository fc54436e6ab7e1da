/- The law of the questions of layer 1: for any two spans and number the program's In, Within, Sign and Order are the document's: the law returns true. No conditions. -/
import Derived.Test.YtbfbnmmgmkbieaaAsk2
import Derived.Test.YtbfbnmmgmkbieaaRows
import Derived.ProofKit
import Derived.Lib.SmallJoins
set_option linter.unusedVariables false
set_option linter.unusedSimpArgs false
namespace Go.Proofs.Ytbfbnmmgmkbieaa
open Go.RowKit

namespace lawSpanAsks
open Go.ChangeShapes Go.WideShapes Go.ChangeAt Go.Joins
theorem walk (al ah bl bh n : Int) (i0 : I64 al) (_ : I64 ah) (i1 : I64 bl) (_ : I64 bh) (_ : I64 n) (w : World) :
    Calls Try.prog 8 #[.agg #[.int .i64 (al), .int .i64 (ah)], .agg #[.int .i64 (bl), .int .i64 (bh)], .int .i64 n] w fun e w' => e = .returned (.bool true) ∧ Below w.heap.size w w' := by
  have h0 := i0.1
  have h1 := i1.1
  clear i0 i1
  go_enter Try.func8, Try.ntmps8
  go_wp2_with fail
  refine QT.quiet_b (by kernel_rfl) (by kernel_rfl) ?_
  repeat (first
    | go_big_quiet_skip
    | (go_big_quiet_want; go_big_quiet_op; first
      | go_big_quiet_on
      | (apply Exists.intro
         refine ⟨fun _ => ?_, ?_⟩
         · first
             | rfl
             | (intro hC; obtain ⟨hcq, hfq⟩ := bcellB hC; go_simp; done)
             | (intro hC; obtain ⟨hcq, hfq⟩ := bcellB hC; go_simp; rfl)
             | (intro hC; go_at_call 55; (first | (with_reducible refine (in_any al ah n h0 _).mono ?_)); (intro e w2 hw; exact ⟨hw.1, qtrans (by simp) hC hw.2⟩))
             | (intro hC; go_at_call 56; (first | (with_reducible refine (rin_any al ah n _).mono ?_)); (intro e w2 hw; exact ⟨hw.1, qtrans (by simp) hC hw.2⟩))
             | (intro hC; go_at_call 57; (first | (with_reducible refine (within_any al ah bl bh h0 h1 _).mono ?_)); (intro e w2 hw; exact ⟨hw.1, qtrans (by simp) hC hw.2⟩))
             | (intro hC; go_at_call 58; (first | (with_reducible refine (rwithin_any al ah bl bh _).mono ?_)); (intro e w2 hw; exact ⟨hw.1, qtrans (by simp) hC hw.2⟩))
         go_big_quiet_on)))
  refine wpQuiet_nil ?_
  intro w9 hC9
  obtain ⟨hc9, hf9⟩ := bcellB hC9
  have hz9 := hC9.size
  go_wp2_with fail
  refine QT.quiet_c hC9 (by kernel_rfl) (by kernel_rfl) ?_
  repeat (first
    | go_big_quiet_skip
    | (go_big_quiet_want; go_big_quiet_op; first
      | go_big_quiet_on
      | (apply Exists.intro
         refine ⟨fun _ => ?_, ?_⟩
         · first
             | rfl
             | (intro hC; obtain ⟨hcq, hfq⟩ := bcellB hC; go_simp; done)
             | (intro hC; obtain ⟨hcq, hfq⟩ := bcellB hC; go_simp; rfl)
             | (intro hC; go_at_call 59; (first | (with_reducible refine (sign_any al ah h0 _).mono ?_)); (intro e w2 hw; exact ⟨hw.1, qtrans (by simp) hC hw.2⟩))
             | (intro hC; go_at_call 60; (first | (with_reducible refine (rsign_any al ah _).mono ?_)); (intro e w2 hw; exact ⟨hw.1, qtrans (by simp) hC hw.2⟩))
             | (intro hC; go_at_call 61; (first | (with_reducible refine (order_any al ah bl bh h0 h1 _).mono ?_)); (intro e w2 hw; exact ⟨hw.1, qtrans (by simp) hC hw.2⟩))
             | (intro hC; go_at_call 62; (first | (with_reducible refine (rorder_any al ah bl bh _).mono ?_)); (intro e w2 hw; exact ⟨hw.1, qtrans (by simp) hC hw.2⟩))
         go_big_quiet_on)))
  refine wpQuiet_nil ?_
  intro w9 hC9
  obtain ⟨hc9, hf9⟩ := bcellB hC9
  have hz9 := hC9.size
  go_wp2
  go_ret
  exact ⟨rfl, (by repeat (first | exact Below.refl _ _ | refine Below.setCell ?_ (by simp <;> omega) _ | refine Below.alloc ?_ (by simp <;> omega) _ | refine Below.drew ?_ | refine Below.trans ?_ (Below.mono (by assumption) (by simp <;> omega))))⟩
theorem own : ownKnob Try.prog.godebug = none := by kernel_rfl
theorem cellsSpan : Try.prog.cellsOf 24 = 2 := by kernel_rfl
set_option maxRecDepth 100000 in
theorem lifted (os : Os) (started : os.Started) (H : Type) (enc : TypeId × Value → H) :
    ReturnsInHanded {} Try.checked os 8 .any (Rows.spanAsksSpec.pre6 enc Try.prog Try.f8 Rows.spanAsksRow.domain false) (Rows.spanAsksSpec.post enc Try.prog Try.f8 false true false false) := by
  refine returnsInHanded_of_change (C := Try.checked) own started (by kernel_rfl) Try.func8
    (ChangeSpec.witness6 (enc := enc) (C := Try.checked) false ⟨#[], #[.agg #[.int .i64 0, .int .i64 0], .agg #[.int .i64 0, .int .i64 0], .int .i64 0], []⟩ 8 (by kernel_rfl) (by kernel_rfl) (by kernel_rfl) (by kernel_rfl)) ?_
  intro W base args ds gs before hval0 hW _ _
  have hval : ∀ (j : Nat) t v, Try.f8.params[j]? = some t → args[j]? = some v → Value.okWide Try.prog W .any base t v := hval0
  have hW' := hW
  obtain ⟨p, q, hA0, hV, rfl, _, _⟩ := hW
  have hA : DataW.TrodAll enc Try.prog W 0 (fun _ => true) true Try.f8.params.toList args.toList ds p := hA0
  rw [Try.params8] at hA hval
  obtain ⟨v0, vs0, d0, ds0, p0, q0, hargs, rfl, rfl, h0, r0⟩ := trodAll_cons hA
  obtain ⟨v1, vs1, d1, ds1, p1, q1, rfl, rfl, rfl, h1, r1⟩ := trodAll_cons r0
  obtain ⟨v2, vs2, d2, ds2, p2, q2, rfl, rfl, rfl, h2, r2⟩ := trodAll_cons r1
  obtain ⟨rfl, rfl, rfl⟩ := trodAll_nil r2
  obtain rfl : args = #[v0, v1, v2] := by cases args; simp_all
  obtain ⟨rfl, rfl⟩ := trodVars_none hV
  obtain ⟨c00, c01, y00, y01, m0, rfl, rfl, rfl, hy00, hy01⟩ := open_agg2 Try.underlying24 (by kernel_rfl) cellsSpan (hval 0 24 v0 rfl rfl) h0
  obtain ⟨x00, e00, rfl, wf00⟩ := DataW.trod_int Try.underlying22 hy00
  obtain ⟨x01, e01, rfl, wf01⟩ := DataW.trod_int Try.underlying22 hy01
  simp at e00 e01
  subst e00 e01
  have rd0 : ∀ (W' : World) (sp : Nat → Bool), DataW.Trod enc Try.prog W' 0 sp true 24 (.agg #[.int .i64 x00, .int .i64 x01]) (.agg [.lit (.int .i64 x00), .lit (.int .i64 x01)]) [] := fun W' sp =>
    shut_agg2 (y0 := (.lit (.int .i64 x00), [])) (y1 := (.lit (.int .i64 x01), [])) Try.underlying24 (by kernel_rfl) cellsSpan ⟨1, by simp [DataW.trod, Try.underlying22, wf00]⟩ ⟨1, by simp [DataW.trod, Try.underlying22, wf01]⟩
  obtain ⟨c10, c11, y10, y11, m1, rfl, rfl, rfl, hy10, hy11⟩ := open_agg2 Try.underlying24 (by kernel_rfl) cellsSpan (hval 1 24 v1 rfl rfl) h1
  obtain ⟨x10, e10, rfl, wf10⟩ := DataW.trod_int Try.underlying22 hy10
  obtain ⟨x11, e11, rfl, wf11⟩ := DataW.trod_int Try.underlying22 hy11
  simp at e10 e11
  subst e10 e11
  have rd1 : ∀ (W' : World) (sp : Nat → Bool), DataW.Trod enc Try.prog W' 0 sp true 24 (.agg #[.int .i64 x10, .int .i64 x11]) (.agg [.lit (.int .i64 x10), .lit (.int .i64 x11)]) [] := fun W' sp =>
    shut_agg2 (y0 := (.lit (.int .i64 x10), [])) (y1 := (.lit (.int .i64 x11), [])) Try.underlying24 (by kernel_rfl) cellsSpan ⟨1, by simp [DataW.trod, Try.underlying22, wf10]⟩ ⟨1, by simp [DataW.trod, Try.underlying22, wf11]⟩
  obtain ⟨x2, rfl, rfl, rfl, wf2⟩ := open_int Try.underlying22 (hval 2 22 v2 rfl rfl) h2
  clear hA0 hval0
  simp only [List.append_nil] at hW'
  refine (walk x00 x01 x10 x11 x2 (i64_of_wf wf00) (i64_of_wf wf01) (i64_of_wf wf10) (i64_of_wf wf11) (i64_of_wf wf2) W).mono fun e W' ⟨he, hb⟩ => ?_
  subst he
  exact ⟨_, rfl, _, _, _, [], [], [], hW', (trodAll_cons_mk (shut_bool Try.underlying4 _) trodAll_mk0), (by have sp : Nat → Bool := fun b => decide (b < W.heap.size); exact (trodAll_cons_mk (rd0 _ _) (trodAll_cons_mk (rd1 _ _) (trodAll_cons_mk (shut_int Try.underlying22 wf2) trodAll_mk0)))), rfl, hb.frame _, fun h => by cases h⟩
theorem holds : Rows.SpanAsksSaid :=
  OpenClaim.holds_of_wide 8 Try.f8 rfl rfl rfl rfl rfl rfl rfl ⟨rfl, rfl, rfl, rfl, rfl⟩ rfl rfl rfl rfl rfl (by kernel_rfl) Try.func8 (by kernel_rfl)
    (of_decide_eq_true (by kernel_rfl)) (by unfold Func.isWrapper; first | (rw [if_pos (by decide +kernel)]; kernel_rfl) | (rw [if_neg (by decide +kernel)]; exact ⟨rfl, rfl⟩))
    (fun os started H enc _ => lifted os started H enc)
#print axioms holds
end lawSpanAsks
end Go.Proofs.Ytbfbnmmgmkbieaa
