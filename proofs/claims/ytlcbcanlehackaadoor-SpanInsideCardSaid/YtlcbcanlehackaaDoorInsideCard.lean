/- SpanInside: what is true of narrower spans is within what is true of wider ones, for sums, products, quotients, squares, greatest ones and directions; of any two spans and any parts of them, where the program's tables hold what its text lays in them. -/
import Derived.Test.YtlcbcanlehackaaDoorInsideLaw
import Derived.Test.YtlcbcanlehackaaDoorPlain
import Derived.Test.YtlcbcanlehackaaDoorCards
import Derived.Test.YtlcbcanlehackaaDoorTie
import Derived.LaidMore
import Derived.Lib.SmallJoins
import Derived.SevenTiedAt
set_option linter.unusedVariables false
set_option linter.unusedSimpArgs false
namespace Go.Proofs.YtlcbcanlehackaaDoor
open Go.RowKit
namespace lawSpanInside
open Go.ChangeShapes Go.WideShapes Go.ChangeAt Go.Joins
theorem walk (al ah bl bh y1 y2 y3 y4 : Int) (i0 : I64 al) (j0 : I64 ah) (i1 : I64 bl) (j1 : I64 bh) (hy1 : 0 ≤ y1) (hy2 : 0 ≤ y2) (hy3 : 0 ≤ y3) (hy4 : 0 ≤ y4) (w : World) :
    Calls Tryd.prog 5 #[.agg #[.int .i64 (al), .int .i64 (ah)], .agg #[.int .i64 (bl), .int .i64 (bh)], .agg #[.int .u64 y1, .int .u64 y2, .int .u64 y3, .int .u64 y4]] w fun e w' => e = .returned (.bool true) ∧ Below w.heap.size w w' := walk0 al ah bl bh y1 y2 y3 y4 i0 j0 i1 j1 hy1 hy2 hy3 hy4 w
theorem own : ownKnob Tryd.prog.godebug = none := by kernel_rfl
theorem laidOut : laidOutB Tryd.prog = true := by kernel_rfl
theorem cellsSpan : Tryd.prog.cellsOf 24 = 2 := by kernel_rfl
theorem door_met (os : Os) (args : Array Value) : laidMetH Tryd.prog Rows.spanInsideRow.laid ((World.doorLaid Tryd.prog 400 os).forCall (fun _ _ => 0) ⟨#[], args, []⟩).memory :=
  laidMetH_of_parts3 (fuel := 8) (laidMet_of_run' 8 (by kernel_rfl) (by kernel_rfl)) (by kernel_rfl) (by kernel_rfl)
set_option maxRecDepth 100000 in
theorem lifted (os : Os) (started : os.Started) (H : Type) (enc : TypeId × Value → H) :
    ReturnsInHanded {} Tryd.checked os 5 .any (fun w args => (Rows.spanInsideSpec.pre enc Tryd.prog Tryd.f5 [] false w args ∧ laidMetH Tryd.prog Rows.spanInsideRow.laid w) ∧ sizedMet enc Tryd.prog Tryd.f5 (OpenSpec.ofChange Rows.spanInsideSpec) false w args) (Rows.spanInsideSpec.post enc Tryd.prog Tryd.f5 false true false false) := by
  refine returnsInHanded_of_change_and (C := Tryd.checked) (X := fun w _ => laidMetH Tryd.prog Rows.spanInsideRow.laid w) (fun _ _ _ hh h => h.of_heap hh) own started (by kernel_rfl) Tryd.func5
    (ChangeSpec.witness_shaped (enc := enc) (C := Tryd.checked) (os := os) (X := fun w _ => laidMetH Tryd.prog Rows.spanInsideRow.laid w) false (World.doorLaid Tryd.prog 400 os) #[.agg #[.int .i64 0, .int .i64 0], .agg #[.int .i64 0, .int .i64 0], .agg #[.int .u64 0, .int .u64 0, .int .u64 0, .int .u64 0]] 8 rfl (World.shaped_of_RefB (by kernel_rfl) (by kernel_rfl)) (by kernel_rfl) (by kernel_rfl) (by kernel_rfl) (door_met os _)) ?_
  intro W base args ds gs before hval0 hW _ _ hL _
  have hval : ∀ (j : Nat) t v, Tryd.f5.params[j]? = some t → args[j]? = some v → Value.okWide Tryd.prog W .any base t v := hval0
  have hW' := hW
  obtain ⟨p, q, hA0, hV, rfl, _, _⟩ := hW
  have hA : DataW.TrodAll enc Tryd.prog W 0 (fun _ => true) true Tryd.f5.params.toList args.toList ds p := hA0
  rw [Tryd.params5] at hA hval
  obtain ⟨v0, vs0, d0, ds0, p0, q0, hargs, rfl, rfl, h0, r0⟩ := trodAll_cons hA
  obtain ⟨v1, vs1, d1, ds1, p1, q1, rfl, rfl, rfl, h1, r1⟩ := trodAll_cons r0
  obtain ⟨v2, vs2, d2, ds2, p2, q2, rfl, rfl, rfl, h2, r2⟩ := trodAll_cons r1
  obtain ⟨rfl, rfl, rfl⟩ := trodAll_nil r2
  obtain rfl : args = #[v0, v1, v2] := by cases args; simp_all
  obtain ⟨rfl, rfl⟩ := trodVars_none hV
  obtain ⟨c00, c01, y00, y01, m0, rfl, rfl, rfl, hy00, hy01⟩ := open_agg2 Tryd.underlying24 (by kernel_rfl) cellsSpan (hval 0 24 v0 rfl rfl) h0
  obtain ⟨x00, e00, rfl, wf00⟩ := DataW.trod_int Tryd.underlying22 hy00
  obtain ⟨x01, e01, rfl, wf01⟩ := DataW.trod_int Tryd.underlying22 hy01
  simp at e00 e01
  subst e00 e01
  have rd0 : ∀ (W' : World) (sp : Nat → Bool), DataW.Trod enc Tryd.prog W' 0 sp true 24 (.agg #[.int .i64 x00, .int .i64 x01]) (.agg [.lit (.int .i64 x00), .lit (.int .i64 x01)]) [] := fun W' sp =>
    shut_agg2 (y0 := (.lit (.int .i64 x00), [])) (y1 := (.lit (.int .i64 x01), [])) Tryd.underlying24 (by kernel_rfl) cellsSpan ⟨1, by simp [DataW.trod, Tryd.underlying22, wf00]⟩ ⟨1, by simp [DataW.trod, Tryd.underlying22, wf01]⟩
  obtain ⟨c10, c11, y10, y11, m1, rfl, rfl, rfl, hy10, hy11⟩ := open_agg2 Tryd.underlying24 (by kernel_rfl) cellsSpan (hval 1 24 v1 rfl rfl) h1
  obtain ⟨x10, e10, rfl, wf10⟩ := DataW.trod_int Tryd.underlying22 hy10
  obtain ⟨x11, e11, rfl, wf11⟩ := DataW.trod_int Tryd.underlying22 hy11
  simp at e10 e11
  subst e10 e11
  have rd1 : ∀ (W' : World) (sp : Nat → Bool), DataW.Trod enc Tryd.prog W' 0 sp true 24 (.agg #[.int .i64 x10, .int .i64 x11]) (.agg [.lit (.int .i64 x10), .lit (.int .i64 x11)]) [] := fun W' sp =>
    shut_agg2 (y0 := (.lit (.int .i64 x10), [])) (y1 := (.lit (.int .i64 x11), [])) Tryd.underlying24 (by kernel_rfl) cellsSpan ⟨1, by simp [DataW.trod, Tryd.underlying22, wf10]⟩ ⟨1, by simp [DataW.trod, Tryd.underlying22, wf11]⟩
  obtain ⟨cs2, rfl, hk2⟩ := open_plain (n := 10) (ks := [.int .u64, .int .u64, .int .u64, .int .u64]) (by kernel_rfl) (by kernel_rfl) (by kernel_rfl) (hval 2 49 v2 rfl rfl) h2
  obtain ⟨x2_0, cs2, rfl, wf2_0, hk2⟩ := hk2.int
  obtain ⟨x2_1, cs2, rfl, wf2_1, hk2⟩ := hk2.int
  obtain ⟨x2_2, cs2, rfl, wf2_2, hk2⟩ := hk2.int
  obtain ⟨x2_3, cs2, rfl, wf2_3, hk2⟩ := hk2.int
  obtain rfl := hk2.nil
  clear hA0 hval0
  simp only [List.append_nil] at hW'
  refine (walk x00 x01 x10 x11 x2_0 x2_1 x2_2 x2_3 (i64_of_wf wf00) (i64_of_wf wf01) (i64_of_wf wf10) (i64_of_wf wf11) (u64_of_wf wf2_0).1 (u64_of_wf wf2_1).1 (u64_of_wf wf2_2).1 (u64_of_wf wf2_3).1 W).mono fun e W' ⟨he, hb⟩ => ?_
  subst he
  exact ⟨_, rfl, _, _, _, [], _, [], hW', (trodAll_cons_mk (shut_bool Tryd.underlying4 _) trodAll_mk0), (trodAll_cons_mk (rd0 _ _) (trodAll_cons_mk (rd1 _ _) (trodAll_cons_mk (Below.trod laidOut (by kernel_rfl) (of_decide_eq_true (by kernel_rfl)) h2 hb (fun x hx => hW'.lt x (by simp [hx]))) trodAll_mk0))), rfl, hb.frame _, fun h => by cases h⟩
theorem holds : Rows.SpanInsideSaid :=
  OpenClaim.holds_of_wide 5 Tryd.f5 rfl rfl rfl rfl rfl rfl rfl ⟨rfl, rfl, rfl, rfl, rfl⟩ rfl rfl rfl rfl rfl (by kernel_rfl) Tryd.func5 (by kernel_rfl)
    (of_decide_eq_true (by kernel_rfl)) (by unfold Func.isWrapper; first | (rw [if_pos (by decide +kernel)]; kernel_rfl) | (rw [if_neg (by decide +kernel)]; exact ⟨rfl, rfl⟩))
    (fun os started H enc _ => lifted os started H enc)
theorem card_holds : Rows.SpanInsideCardSaid :=
  Claim7.holds_tied_plain_at .later [] [.data, .data, .data] true _ false
    holds (fun _ h => by cases h) (by kernel_rfl) (fun _ h => by cases h) spanInside_row_tie rfl ⟨rfl, rfl⟩ (by kernel_rfl) rfl
    (fun f fn hf hfn => by
      obtain rfl : f = 5 := Option.some.inj ((show Tryd.prog.funcNamed "ullage/ullagelaw01.SpanInside" = some 5 by kernel_rfl).symm.trans hf) |>.symm
      obtain rfl : fn = Tryd.f5 := (Option.some.inj (Tryd.func5.symm.trans hfn)).symm
      exact ⟨by kernel_rfl, fun j t ht => by
        rw [Tryd.params5] at ht
        have hm : t ∈ [24, 24, 49] := by simpa using Array.mem_of_getElem? ht
        have hall : ([24, 24, 49].all fun u => !Tryd.prog.wantsStandIn u) = true := by kernel_rfl
        exact (show Tryd.prog.wantsStandIn t = false by simpa using List.all_eq_true.1 hall t hm)⟩)
    (by kernel_rfl)
#print axioms card_holds
end lawSpanInside
end Go.Proofs.YtlcbcanlehackaaDoor
