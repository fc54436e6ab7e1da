/- Packed: LnD. -/
import Derived.Test.YtkkanjeamngdiaaDoorCards
import Derived.Test.YtkkanjeamngdiaaDoorTie
import Derived.LaidMore
import Derived.Carry
import Derived.Lib.SmallJoins
import Derived.SevenTiedAt
import Derived.Test.YtkkanjeamngdiaaDoorP14
import Derived.Test.YtkkanjeamngdiaaDoorP15
set_option linter.unusedVariables false
set_option linter.unusedSimpArgs false
namespace Go.Proofs.YtkkanjeamngdiaaDoor
section
open Go.RowKit
namespace lawSpanLines
open Go.ChangeShapes Go.WideShapes Go.ChangeAt Go.Joins
theorem u64_of_wf {x : Int} (h : (Lit.int .u64 x).wf = true) : 0 ≤ x ∧ x ≤ 18446744073709551615 := by
 simp [Lit.wf, IntKind.min, IntKind.max, IntKind.signed, IntKind.bits] at h
 exact ⟨by omega, by omega⟩
theorem walk_row (A : Option Addr) (n cap : Nat) (at_ lo hi : Nat → Int) (xl xh y : Int) (ix : I64 xl) (jx : I64 xh) (hy : 0 ≤ y) (w : World) (hT : 0 < n → ∃ ad, A = some ad ∧ Tab w ad n at_ lo hi) (hI : ∀ i, i < n → I64 (at_ i) ∧ I64 (lo i) ∧ I64 (hi i)) :
  Calls Tryd.prog 3 #[.slice A n cap, .agg #[.int .i64 (xl), .int .i64 (xh)], .int .u64 y] w fun e w' => e = .returned (.bool true) ∧ Below w.heap.size w w' := by
 rcases Nat.lt_or_ge 70 n with c | c
 ·exact walk_many A n cap c xl xh y w
 ·cases hB : tabB n at_ lo hi
  ·exact walk_bad A n cap at_ lo hi c xl xh y w hT hI hB
  ·cases hX : vB xl xh
   ·exact walk_span A n cap at_ lo hi c xl xh y ix w hT hI hB hX
   ·obtain ⟨ad, rfl, h⟩ := hT (right_of hB).pos
    exact walk_good ad n cap at_ lo hi c xl xh y ix jx hy w h hI hB hX
theorem walk (v : Value) (xl xh y : Int) (ix : I64 xl) (jx : I64 xh) (hy : 0 ≤ y) (w : World) (hv : v = .slice none 0 0 ∨ ∃ (ad : Addr) (n cap : Nat) (at_ lo hi : Nat → Int), v = .slice (some ad) n cap ∧ n ≤ maxLen ∧ (0 < n → Tab w ad n at_ lo hi) ∧ ∀ i, i < n → I64 (at_ i) ∧ I64 (lo i) ∧ I64 (hi i)) :
  Calls Tryd.prog 3 #[v, .agg #[.int .i64 (xl), .int .i64 (xh)], .int .u64 y] w fun e w' => e = .returned (.bool true) ∧ Below w.heap.size w w' := by
 rcases hv with rfl | ⟨ad, n, cap, at_, lo, hi, rfl, hm, hT, hI⟩
 ·exact walk_row none 0 0 (fun _ => 0) (fun _ => 0) (fun _ => 0) xl xh y ix jx hy w (fun h => absurd h (by omega)) (fun i h => absurd h (by omega))
 ·exact walk_row (some ad) n cap at_ lo hi xl xh y ix jx hy w (fun h => ⟨ad, rfl, hT h⟩) hI
theorem own : ownKnob Tryd.prog.godebug = none := by kernel_rfl
theorem laidOut : laidOutB Tryd.prog = true := by kernel_rfl
theorem cellsSpan : Tryd.prog.cellsOf 25 = 2 := by kernel_rfl
theorem door_met (os : Os) (args : Array Value) : laidMetH Tryd.prog Rows.spanLinesRow.laid ((World.doorLaid Tryd.prog 400 os).forCall (fun _ _ => 0) ⟨#[], args, []⟩).memory :=
 laidMetH_of_parts3 (fuel := 8) (laidMet_of_run' 8 (by kernel_rfl) (by kernel_rfl)) (by kernel_rfl) (by kernel_rfl)
set_option maxRecDepth 100000 in
theorem lifted (os : Os) (started : os.Started) (H : Type) (enc : TypeId × Value → H) :
  ReturnsInHanded {} Tryd.checked os 3 .any (fun w args => (Rows.spanLinesSpec.pre enc Tryd.prog Tryd.f3 [] false w args ∧ laidMetH Tryd.prog Rows.spanLinesRow.laid w) ∧ sizedMet enc Tryd.prog Tryd.f3 (OpenSpec.ofChange Rows.spanLinesSpec) false w args) (Rows.spanLinesSpec.post enc Tryd.prog Tryd.f3 false true false false) := by
 refine returnsInHanded_of_change_and (C := Tryd.checked) (X := fun w _ => laidMetH Tryd.prog Rows.spanLinesRow.laid w) (fun _ _ _ hh h => h.of_heap hh) own started (by kernel_rfl) Tryd.func3
  (ChangeSpec.witness_shaped (enc := enc) (C := Tryd.checked) (os := os) (X := fun w _ => laidMetH Tryd.prog Rows.spanLinesRow.laid w) false (World.doorLaid Tryd.prog 400 os) #[.slice none 0 0, .agg #[.int .i64 0, .int .i64 0], .int .u64 0] 8 rfl (World.shaped_of_RefB (by kernel_rfl) (by kernel_rfl)) (by kernel_rfl) (by kernel_rfl) (by kernel_rfl) (door_met os _)) ?_
 intro W base args ds gs before hval0 hW _ _ hL _
 have hval : ∀ (j : Nat) t v, Tryd.f3.params[j]? = some t → args[j]? = some v → Value.okWide Tryd.prog W .any base t v := hval0
 have hW' := hW
 obtain ⟨p, q, hA0, hV, rfl, _, _⟩ := hW
 have hA : DataW.TrodAll enc Tryd.prog W 0 (fun _ => true) true Tryd.f3.params.toList args.toList ds p := hA0
 rw [Tryd.params3] at hA hval
 obtain ⟨v0, vs0, d0, ds0, p0, q0, hargs, rfl, rfl, h0, r0⟩ := trodAll_cons hA
 obtain ⟨v1, vs1, d1, ds1, p1, q1, rfl, rfl, rfl, h1, r1⟩ := trodAll_cons r0
 obtain ⟨v2, vs2, d2, ds2, p2, q2, rfl, rfl, rfl, h2, r2⟩ := trodAll_cons r1
 obtain ⟨rfl, rfl, rfl⟩ := trodAll_nil r2
 obtain rfl : args = #[v0, v1, v2] := by cases args; simp_all
 obtain ⟨rfl, rfl⟩ := trodVars_none hV
 have hsl0 := okWide_slice Tryd.underlying22 (hval 0 22 v0 rfl rfl)
 have hol0 := open_table hsl0 h0
 obtain ⟨c10, c11, y10, y11, m1, rfl, rfl, rfl, hy10, hy11⟩ := open_agg2 Tryd.underlying25 (by kernel_rfl) cellsSpan (hval 1 25 v1 rfl rfl) h1
 obtain ⟨x10, e10, rfl, wf10⟩ := DataW.trod_int Tryd.underlying23 hy10
 obtain ⟨x11, e11, rfl, wf11⟩ := DataW.trod_int Tryd.underlying23 hy11
 simp at e10 e11
 subst e10 e11
 have rd1 : ∀ (W' : World) (sp : Nat → Bool), DataW.Trod enc Tryd.prog W' 0 sp true 25 (.agg #[.int .i64 x10, .int .i64 x11]) (.agg [.lit (.int .i64 x10), .lit (.int .i64 x11)]) [] := fun W' sp =>
  shut_agg2 (y0 := (.lit (.int .i64 x10), [])) (y1 := (.lit (.int .i64 x11), [])) Tryd.underlying25 (by kernel_rfl) cellsSpan ⟨1, by simp [DataW.trod, Tryd.underlying23, wf10]⟩ ⟨1, by simp [DataW.trod, Tryd.underlying23, wf11]⟩
 obtain ⟨x2, rfl, rfl, rfl, wf2⟩ := open_int Tryd.underlying26 (hval 2 26 v2 rfl rfl) h2
 clear hA0 hval0
 simp only [List.append_nil] at hW'
 refine (walk v0 x10 x11 x2 (i64_of_wf wf10) (i64_of_wf wf11) (u64_of_wf wf2).1 W hol0).mono fun e W' ⟨he, hb⟩ => ?_
 subst he
 exact ⟨_, rfl, _, _, _, [], _, [], hW', (trodAll_cons_mk (shut_bool Tryd.underlying4 _) trodAll_mk0), (trodAll_cons_mk (Below.trod laidOut (by kernel_rfl) (of_decide_eq_true (by kernel_rfl)) h0 hb (fun x hx => hW'.lt x (by simp [hx]))) (trodAll_cons_mk (rd1 _ _) (trodAll_cons_mk (shut_int Tryd.underlying26 wf2) trodAll_mk0))), rfl, hb.frame _, fun h => by cases h⟩
theorem holds : Rows.SpanLinesSaid :=
 OpenClaim.holds_of_wide 3 Tryd.f3 rfl rfl rfl rfl rfl rfl rfl ⟨rfl, rfl, rfl, rfl, rfl⟩ rfl rfl rfl rfl rfl (by kernel_rfl) Tryd.func3 (by kernel_rfl)
  (of_decide_eq_true (by kernel_rfl)) (by unfold Func.isWrapper; first | (rw [if_pos (by decide +kernel)]; kernel_rfl) | (rw [if_neg (by decide +kernel)]; exact ⟨rfl, rfl⟩))
  (fun os started H enc _ => lifted os started H enc)
theorem card_holds : Rows.SpanLinesCardSaid :=
 Claim7.holds_tied_plain_at .later [] [.data, .data, .data] true _ false
  holds (fun _ h => by cases h) (by kernel_rfl) (fun _ h => by cases h) spanLines_row_tie rfl ⟨rfl, rfl⟩ (by kernel_rfl) rfl
  (fun f fn hf hfn => by
   obtain rfl : f = 3 := Option.some.inj ((show Tryd.prog.funcNamed "ullage/ullagelaw01.SpanLines" = some 3 by kernel_rfl).symm.trans hf) |>.symm
   obtain rfl : fn = Tryd.f3 := (Option.some.inj (Tryd.func3.symm.trans hfn)).symm
   exact ⟨by kernel_rfl, fun j t ht => by
    rw [Tryd.params3] at ht
    have hm : t ∈ [22, 25, 26] := by simpa using Array.mem_of_getElem? ht
    have hall : ([22, 25, 26].all fun u => !Tryd.prog.wantsStandIn u) = true := by kernel_rfl
    exact (show Tryd.prog.wantsStandIn t = false by simpa using List.all_eq_true.1 hall t hm)⟩)
  (by kernel_rfl)
#print axioms card_holds
end lawSpanLines
end
end Go.Proofs.YtkkanjeamngdiaaDoor
