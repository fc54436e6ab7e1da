/- Packed: AmI. -/
import Derived.Test.YtacpahebbnnckaaRows
import Derived.ProofKit
import Derived.Carry
import Derived.Lib.SmallJoins
import Derived.Test.YtacpahebbnnckaaP32
import Derived.Test.YtacpahebbnnckaaP33
set_option linter.unusedVariables false
set_option linter.unusedSimpArgs false
namespace Go.Proofs.Ytacpahebbnnckaa
section
open Go.RowKit
open FP
namespace Sw
theorem okC_parts {v push pull : FD.Sp} {time : Int} (h : okC v push pull time = true) : vB v.lo v.hi = true ∧ vB push.lo push.hi = true ∧ vB pull.lo pull.hi = true ∧ 0 ≤ time ∧ 0 ≤ push.lo := by
 unfold okC at h
 simp only [Bool.and_eq_true, decide_eq_true_eq] at h
 exact ⟨h.1.1.1, h.1.1.2.1, h.1.1.2.2, h.1.2, h.2⟩
theorem aims (v push pull : FD.Sp) (time want r : Int) (ht : FD.In64 time) (hw : FD.In64 want) (hr : FD.In64 r) : ∃ x y u e : Int, (∀ w, Calls Try.prog 8 #[FD.spv v, FD.spv push, FD.spv pull, .int .i64 time, .int .i64 want, .int .i64 r] w fun q w' => q = .returned (aimT x y u e) ∧ Below w.heap.size w w') ∧
  (∀ w, Calls Try.prog 9 #[FD.spv v, FD.spv push, FD.spv pull, .int .i64 time, .int .i64 want, .int .i64 r] w fun q w' => q = .returned (aimT x y u e) ∧ Below w.heap.size w w') := by
 cases hk : okC v push pull time
 ·exact ⟨0, 0, 0, 2, fun w => aim_b1 v push pull time want r hk w, fun w => raim_b1 v push pull time want r hk w⟩
 cases hn : numB want
 ·exact ⟨0, 0, 0, 2, fun w => aim_b2 v push pull time want r hk hw hn w, fun w => raim_b2 v push pull time want r hk hw hn w⟩
 by_cases h0 : r < 0
 ·exact ⟨0, 0, 0, 2, fun w => aim_b3 v push pull time want r hk hw hn h0 w, fun w => raim_b3 v push pull time want r hk hw hn h0 w⟩
 by_cases h4 : 40 < r
 ·exact ⟨0, 0, 0, 2, fun w => aim_b4 v push pull time want r hk hw hn h4 w, fun w => raim_b4 v push pull time want r hk hw hn h4 w⟩
 obtain ⟨R, rfl⟩ : ∃ R : Nat, r = (R : Int) := ⟨r.toNat, by omega⟩
 have hR : R ≤ 40 := by omega
 obtain ⟨c1, c2, c3, c4, c5⟩ := okC_parts hk
 have HS := fun (top : (lfQ v push pull (pt time ht) (pt 4294967296 i1)).2 = 0) (bot : (lfQ v push pull (pt time ht) (pt (-4294967296) i2)).2 = 0) (m : Int) (u : Unit1 m) => (lift_ok (v := v) (push := push) (pull := pull) (tm := pt time ht) (time := time) c1 c3 c2 c5 rfl rfl c4 i1 i2 top bot (m := m) ⟨by have := u.1; omega, by have := u.2; omega⟩ u)
 obtain ⟨G, hG⟩ : ∃ G, nar (fun m => (lfQ v push pull (pt time ht) (ptC m)).1) want R (-4294967296) 4294967296 0 = G := ⟨_, rfl⟩
 have HN := fun (top : (lfQ v push pull (pt time ht) (pt 4294967296 i1)).2 = 0) (bot : (lfQ v push pull (pt time ht) (pt (-4294967296) i2)).2 = 0) => narrow_any v push pull (pt time ht) time rfl rfl want hn R hR (fun m u => by rw [ptC_eq (⟨by have := u.1; omega, by have := u.2; omega⟩ : FD.In64 m)]; exact (HS top bot m u).2) G hG
 have P := aim_main v push pull (pt time ht) time rfl rfl want hw hn R hR hk _ _ rfl rfl G HN
 have D := raim_main v push pull (pt time ht) time rfl rfl want hn R hR hk _ _ rfl rfl G (fun top bot m u => by rw [ptC_eq (⟨by have := u.1; omega, by have := u.2; omega⟩ : FD.In64 m)]; exact (HS top bot m u).1) hG
 generalize lfQ v push pull (pt time ht) (pt 4294967296 i1) = T at *
 generalize lfQ v push pull (pt time ht) (pt (-4294967296) i2) = B at *
 by_cases e1 : T.2 = 0
 ·by_cases e2 : B.2 = 0
  ·by_cases e3 : T.1.hi < want ∨ want < B.1.lo
   ·exact ⟨0, 0, 0, 7, P _ (fun h => absurd e1 h) (fun _ h => absurd e2 h) (fun _ _ _ => rfl) (fun _ _ h => absurd e3 h), D _ (fun h => absurd e1 h) (fun _ h => absurd e2 h) (fun _ _ _ => rfl) (fun _ _ h => absurd e3 h)⟩
   ·exact ⟨G.1, G.2.1, G.2.2, 0, P _ (fun h => absurd e1 h) (fun _ h => absurd e2 h) (fun _ _ h => absurd h e3) (fun _ _ _ => rfl), D _ (fun h => absurd e1 h) (fun _ h => absurd e2 h) (fun _ _ h => absurd h e3) (fun _ _ _ => rfl)⟩
  ·exact ⟨0, 0, 0, B.2, P _ (fun h => absurd e1 h) (fun _ _ => rfl) (fun _ h => absurd h e2) (fun _ h => absurd h e2), D _ (fun h => absurd e1 h) (fun _ _ => rfl) (fun _ h => absurd h e2) (fun _ h => absurd h e2)⟩
 ·exact ⟨0, 0, 0, T.2, P _ (fun _ => rfl) (fun h => absurd h e1) (fun h => absurd h e1) (fun h => absurd h e1), D _ (fun _ => rfl) (fun h => absurd h e1) (fun h => absurd h e1) (fun h => absurd h e1)⟩
end Sw
namespace lawSteerAims
open Go.ChangeShapes Go.WideShapes Go.ChangeAt Go.Joins
set_option maxHeartbeats 2000000 in
set_option maxRecDepth 100000 in
theorem walk (v0 v1 p0 p1 q0 q1 time al ah want r : Int) (k0 : I64 v0) (k1 : I64 v1) (k2 : I64 p0) (k3 : I64 p1) (k4 : I64 q0) (k5 : I64 q1) (k6 : I64 time) (k7 : I64 al) (k8 : I64 ah) (k9 : I64 want) (k10 : I64 r) (w : World) :
  Calls Try.prog 3 #[.agg #[.int .i64 v0, .int .i64 v1, .int .i64 p0, .int .i64 p1, .int .i64 q0, .int .i64 q1, .int .i64 time], .agg #[.int .i64 (al), .int .i64 (ah)], .int .i64 want, .int .i64 r] w fun e w' => e = .returned (.bool true) ∧ Below w.heap.size w w' := by
 obtain ⟨x, y, u, e, P, D⟩ := Sw.aims ⟨v0, v1, k0, k1⟩ ⟨p0, p1, k2, k3⟩ ⟨q0, q1, k4, k5⟩ time want r k6 k9 k10
 have LP := Sw.Lift_any ⟨v0, v1, k0, k1⟩ ⟨p0, p1, k2, k3⟩ ⟨q0, q1, k4, k5⟩ (Sw.pt time k6) ⟨al, ah, k7, k8⟩ time rfl rfl
 have LR := Sw.rLift_any ⟨v0, v1, k0, k1⟩ ⟨p0, p1, k2, k3⟩ ⟨q0, q1, k4, k5⟩ (Sw.pt time k6) ⟨al, ah, k7, k8⟩ time rfl rfl
 generalize Sw.lfV ⟨v0, v1, k0, k1⟩ ⟨p0, p1, k2, k3⟩ ⟨q0, q1, k4, k5⟩ (Sw.pt time k6) ⟨al, ah, k7, k8⟩ time = L at *
 obtain ⟨⟨L0, L1, L2⟩, LE⟩ := L
 dsimp only [FD.spv] at P D LP LR
 have HP := hide P
 have HD := hide D
 have HL := hide LP
 have HR := hide LR
 clear P D LP LR
 go_enter Try.func3, Try.ntmps3
 go_wp2_with fail
 refine (HL.out _).mono ?_
 rintro e w1 ⟨rfl, hb1⟩
 obtain ⟨hc1, hf1⟩ := bcell hb1
 have hz1 := hb1.size
 try simp only [World.size_alloc, World.size_setCell] at hz1
 try have : w.heap.size < w1.heap.size := by omega
 try have : w.heap.size < w1.heap.size + 1 := by omega
 try have : w.heap.size ≤ w1.heap.size := by omega
 try have : w.heap.size + 1 < w1.heap.size := by omega
 try have : w.heap.size + 1 < w1.heap.size + 1 := by omega
 try have : w.heap.size + 1 ≤ w1.heap.size := by omega
 have c1_0_0 := zci w1 w.heap.size 0 (v0) (by go_simp)
 have c1_0_1 := zci w1 w.heap.size 1 (v1) (by go_simp)
 have c1_0_2 := zci w1 w.heap.size 2 (p0) (by go_simp)
 have c1_0_3 := zci w1 w.heap.size 3 (p1) (by go_simp)
 have c1_0_4 := zci w1 w.heap.size 4 (q0) (by go_simp)
 have c1_0_5 := zci w1 w.heap.size 5 (q1) (by go_simp)
 have c1_0_6 := zci w1 w.heap.size 6 (time) (by go_simp)
 have c1_1_0 := zci w1 (w.heap.size + 1) 0 (al) (by go_simp)
 have c1_1_1 := zci w1 (w.heap.size + 1) 1 (ah) (by go_simp)
 clear hc1 hf1
 go_wp2_with fail
 refine (HR.out _).mono ?_
 rintro e w2 ⟨rfl, hb2⟩
 obtain ⟨hc2, hf2⟩ := bcell hb2
 have hz2 := hb2.size
 try simp only [World.size_alloc, World.size_setCell] at hz2
 try have : w.heap.size < w2.heap.size := by omega
 try have : w.heap.size < w2.heap.size + 1 := by omega
 try have : w.heap.size ≤ w2.heap.size := by omega
 try have : w.heap.size + 1 < w2.heap.size := by omega
 try have : w.heap.size + 1 < w2.heap.size + 1 := by omega
 try have : w.heap.size + 1 ≤ w2.heap.size := by omega
 try have : w1.heap.size < w2.heap.size := by omega
 try have : w1.heap.size < w2.heap.size + 1 := by omega
 try have : w1.heap.size ≤ w2.heap.size := by omega
 have c2_0_0 := zci w2 w.heap.size 0 (v0) (by go_simp)
 have c2_0_1 := zci w2 w.heap.size 1 (v1) (by go_simp)
 have c2_0_2 := zci w2 w.heap.size 2 (p0) (by go_simp)
 have c2_0_3 := zci w2 w.heap.size 3 (p1) (by go_simp)
 have c2_0_4 := zci w2 w.heap.size 4 (q0) (by go_simp)
 have c2_0_5 := zci w2 w.heap.size 5 (q1) (by go_simp)
 have c2_0_6 := zci w2 w.heap.size 6 (time) (by go_simp)
 have c2_1_0 := zci w2 (w.heap.size + 1) 0 (al) (by go_simp)
 have c2_1_1 := zci w2 (w.heap.size + 1) 1 (ah) (by go_simp)
 have c2_2_0 := zci w2 w1.heap.size 0 (L0) (by go_simp)
 have c2_2_1 := zci w2 w1.heap.size 1 (L1) (by go_simp)
 clear hc2 hf2 c1_0_0 c1_0_1 c1_0_2 c1_0_3 c1_0_4 c1_0_5 c1_0_6 c1_1_0 c1_1_1
 go_wp2_with fail
 refine (HP.out _).mono ?_
 rintro e w3 ⟨rfl, hb3⟩
 obtain ⟨hc3, hf3⟩ := bcell hb3
 have hz3 := hb3.size
 try simp only [World.size_alloc, World.size_setCell] at hz3
 try have : w.heap.size < w3.heap.size := by omega
 try have : w.heap.size < w3.heap.size + 1 := by omega
 try have : w.heap.size ≤ w3.heap.size := by omega
 try have : w.heap.size + 1 < w3.heap.size := by omega
 try have : w.heap.size + 1 < w3.heap.size + 1 := by omega
 try have : w.heap.size + 1 ≤ w3.heap.size := by omega
 try have : w1.heap.size < w3.heap.size := by omega
 try have : w1.heap.size < w3.heap.size + 1 := by omega
 try have : w1.heap.size ≤ w3.heap.size := by omega
 try have : w2.heap.size < w3.heap.size := by omega
 try have : w2.heap.size < w3.heap.size + 1 := by omega
 try have : w2.heap.size ≤ w3.heap.size := by omega
 have c3_0_0 := zci w3 w.heap.size 0 (v0) (by go_simp)
 have c3_0_1 := zci w3 w.heap.size 1 (v1) (by go_simp)
 have c3_0_2 := zci w3 w.heap.size 2 (p0) (by go_simp)
 have c3_0_3 := zci w3 w.heap.size 3 (p1) (by go_simp)
 have c3_0_4 := zci w3 w.heap.size 4 (q0) (by go_simp)
 have c3_0_5 := zci w3 w.heap.size 5 (q1) (by go_simp)
 have c3_0_6 := zci w3 w.heap.size 6 (time) (by go_simp)
 have c3_1_0 := zci w3 (w.heap.size + 1) 0 (al) (by go_simp)
 have c3_1_1 := zci w3 (w.heap.size + 1) 1 (ah) (by go_simp)
 have c3_2_0 := zci w3 w1.heap.size 0 (L0) (by go_simp)
 have c3_2_1 := zci w3 w1.heap.size 1 (L1) (by go_simp)
 have c3_3_0 := zci w3 w2.heap.size 0 (L0) (by go_simp)
 have c3_3_1 := zci w3 w2.heap.size 1 (L1) (by go_simp)
 clear hc3 hf3 c2_0_0 c2_0_1 c2_0_2 c2_0_3 c2_0_4 c2_0_5 c2_0_6 c2_1_0 c2_1_1 c2_2_0 c2_2_1
 go_wp2_with fail
 refine (HD.out _).mono ?_
 rintro e w4 ⟨rfl, hb4⟩
 obtain ⟨hc4, hf4⟩ := bcell hb4
 have hz4 := hb4.size
 try simp only [World.size_alloc, World.size_setCell] at hz4
 try have : w.heap.size < w4.heap.size := by omega
 try have : w.heap.size < w4.heap.size + 1 := by omega
 try have : w.heap.size ≤ w4.heap.size := by omega
 try have : w.heap.size + 1 < w4.heap.size := by omega
 try have : w.heap.size + 1 < w4.heap.size + 1 := by omega
 try have : w.heap.size + 1 ≤ w4.heap.size := by omega
 try have : w1.heap.size < w4.heap.size := by omega
 try have : w1.heap.size < w4.heap.size + 1 := by omega
 try have : w1.heap.size ≤ w4.heap.size := by omega
 try have : w2.heap.size < w4.heap.size := by omega
 try have : w2.heap.size < w4.heap.size + 1 := by omega
 try have : w2.heap.size ≤ w4.heap.size := by omega
 try have : w3.heap.size < w4.heap.size := by omega
 try have : w3.heap.size < w4.heap.size + 1 := by omega
 try have : w3.heap.size ≤ w4.heap.size := by omega
 have c4_0_0 := zci w4 w.heap.size 0 (v0) (by go_simp)
 have c4_0_1 := zci w4 w.heap.size 1 (v1) (by go_simp)
 have c4_0_2 := zci w4 w.heap.size 2 (p0) (by go_simp)
 have c4_0_3 := zci w4 w.heap.size 3 (p1) (by go_simp)
 have c4_0_4 := zci w4 w.heap.size 4 (q0) (by go_simp)
 have c4_0_5 := zci w4 w.heap.size 5 (q1) (by go_simp)
 have c4_0_6 := zci w4 w.heap.size 6 (time) (by go_simp)
 have c4_1_0 := zci w4 (w.heap.size + 1) 0 (al) (by go_simp)
 have c4_1_1 := zci w4 (w.heap.size + 1) 1 (ah) (by go_simp)
 have c4_2_0 := zci w4 w1.heap.size 0 (L0) (by go_simp)
 have c4_2_1 := zci w4 w1.heap.size 1 (L1) (by go_simp)
 have c4_3_0 := zci w4 w2.heap.size 0 (L0) (by go_simp)
 have c4_3_1 := zci w4 w2.heap.size 1 (L1) (by go_simp)
 have c4_4_0 := zci w4 w3.heap.size 0 (x) (by go_simp)
 have c4_4_1 := zci w4 w3.heap.size 1 (y) (by go_simp)
 clear hc4 hf4 c3_0_0 c3_0_1 c3_0_2 c3_0_3 c3_0_4 c3_0_5 c3_0_6 c3_1_0 c3_1_1 c3_2_0 c3_2_1 c3_3_0 c3_3_1
 go_wp2
 go_ret
 exact ⟨rfl, blw_⟩
theorem own : ownKnob Try.prog.godebug = none := by kernel_rfl
theorem laidOut : laidOutB Try.prog = true := by kernel_rfl
theorem cellsSpan : Try.prog.cellsOf 24 = 2 := by kernel_rfl
set_option maxRecDepth 100000 in
theorem lifted (os : Os) (started : os.Started) (H : Type) (enc : TypeId × Value → H) :
  ReturnsInHanded {} Try.checked os 3 .any (Rows.steerAimsSpec.pre6 enc Try.prog Try.f3 Rows.steerAimsRow.domain false) (Rows.steerAimsSpec.post enc Try.prog Try.f3 false true false false) := by
 refine returnsInHanded_of_change (C := Try.checked) own started (by kernel_rfl) Try.func3
  (ChangeSpec.witness6 (enc := enc) (C := Try.checked) false ⟨#[], #[.agg #[.int .i64 0, .int .i64 0, .int .i64 0, .int .i64 0, .int .i64 0, .int .i64 0, .int .i64 0], .agg #[.int .i64 0, .int .i64 0], .int .i64 0, .int .i64 0], []⟩ 8 (by kernel_rfl) (by kernel_rfl) (by kernel_rfl) (by kernel_rfl)) ?_
 intro W base args ds gs before hval0 hW _ _
 have hval : ∀ (j : Nat) t v, Try.f3.params[j]? = some t → args[j]? = some v → Value.okWide Try.prog W .any base t v := hval0
 have hW' := hW
 obtain ⟨p, q, hA0, hV, rfl, _, _⟩ := hW
 have hA : DataW.TrodAll enc Try.prog W 0 (fun _ => true) true Try.f3.params.toList args.toList ds p := hA0
 rw [Try.params3] at hA hval
 obtain ⟨v0, vs0, d0, ds0, p0, q0, hargs, rfl, rfl, h0, r0⟩ := trodAll_cons hA
 obtain ⟨v1, vs1, d1, ds1, p1, q1, rfl, rfl, rfl, h1, r1⟩ := trodAll_cons r0
 obtain ⟨v2, vs2, d2, ds2, p2, q2, rfl, rfl, rfl, h2, r2⟩ := trodAll_cons r1
 obtain ⟨v3, vs3, d3, ds3, p3, q3, rfl, rfl, rfl, h3, r3⟩ := trodAll_cons r2
 obtain ⟨rfl, rfl, rfl⟩ := trodAll_nil r3
 obtain rfl : args = #[v0, v1, v2, v3] := by cases args; simp_all
 obtain ⟨rfl, rfl⟩ := trodVars_none hV
 obtain ⟨cs0, rfl, hk0⟩ := open_plain (Q := fun _ _ => True) (fun _ _ _ _ _ _ _ _ _ => trivial) (n := 10) (ks := [.int .i64, .int .i64, .int .i64, .int .i64, .int .i64, .int .i64, .int .i64]) (by kernel_rfl) (by kernel_rfl) (by kernel_rfl) (hval 0 26 v0 rfl rfl) h0
 obtain ⟨x0_0, cs0, rfl, wf0_0, hk0⟩ := hk0.int
 obtain ⟨x0_1, cs0, rfl, wf0_1, hk0⟩ := hk0.int
 obtain ⟨x0_2, cs0, rfl, wf0_2, hk0⟩ := hk0.int
 obtain ⟨x0_3, cs0, rfl, wf0_3, hk0⟩ := hk0.int
 obtain ⟨x0_4, cs0, rfl, wf0_4, hk0⟩ := hk0.int
 obtain ⟨x0_5, cs0, rfl, wf0_5, hk0⟩ := hk0.int
 obtain ⟨x0_6, cs0, rfl, wf0_6, hk0⟩ := hk0.int
 obtain rfl := hk0.nil
 obtain ⟨c10, c11, y10, y11, m1, rfl, rfl, rfl, hy10, hy11⟩ := open_agg2 Try.underlying24 (by kernel_rfl) cellsSpan (hval 1 24 v1 rfl rfl) h1
 obtain ⟨x10, e10, rfl, wf10⟩ := DataW.trod_int Try.underlying22 hy10
 obtain ⟨x11, e11, rfl, wf11⟩ := DataW.trod_int Try.underlying22 hy11
 simp at e10 e11
 subst e10 e11
 have rd1 : ∀ (W' : World) (sp : Nat → Bool), DataW.Trod enc Try.prog W' 0 sp true 24 (.agg #[.int .i64 x10, .int .i64 x11]) (.agg [.lit (.int .i64 x10), .lit (.int .i64 x11)]) [] := fun W' sp =>
  shut_agg2 (y0 := (.lit (.int .i64 x10), [])) (y1 := (.lit (.int .i64 x11), [])) Try.underlying24 (by kernel_rfl) cellsSpan ⟨1, by simp [DataW.trod, Try.underlying22, wf10]⟩ ⟨1, by simp [DataW.trod, Try.underlying22, wf11]⟩
 obtain ⟨x2, rfl, rfl, rfl, wf2⟩ := open_int Try.underlying22 (hval 2 22 v2 rfl rfl) h2
 obtain ⟨x3, rfl, rfl, rfl, wf3⟩ := open_int Try.underlying3 (hval 3 3 v3 rfl rfl) h3
 clear hA0 hval0
 simp only [List.append_nil] at hW'
 refine (walk x0_0 x0_1 x0_2 x0_3 x0_4 x0_5 x0_6 x10 x11 x2 x3 (i64_of_wf wf0_0) (i64_of_wf wf0_1) (i64_of_wf wf0_2) (i64_of_wf wf0_3) (i64_of_wf wf0_4) (i64_of_wf wf0_5) (i64_of_wf wf0_6) (i64_of_wf wf10) (i64_of_wf wf11) (i64_of_wf wf2) (i64_of_wf wf3) W).mono fun e W' ⟨he, hb⟩ => ?_
 subst he
 exact ⟨_, rfl, _, _, _, [], _, [], hW', (trodAll_cons_mk (shut_bool Try.underlying4 _) trodAll_mk0), (trodAll_cons_mk (Below.trod laidOut (by kernel_rfl) (of_decide_eq_true (by kernel_rfl)) h0 hb (fun x hx => hW'.lt x (by simp [hx]))) (trodAll_cons_mk (rd1 _ _) (trodAll_cons_mk (shut_int Try.underlying22 wf2) (trodAll_cons_mk (shut_int Try.underlying3 wf3) trodAll_mk0)))), rfl, hb.frame _, fun h => by cases h⟩
theorem holds : Rows.SteerAimsSaid :=
 OpenClaim.holds_of_wide 3 Try.f3 rfl rfl rfl rfl rfl rfl rfl ⟨rfl, rfl, rfl, rfl, rfl⟩ rfl rfl rfl rfl rfl (by kernel_rfl) Try.func3 (by kernel_rfl)
  (of_decide_eq_true (by kernel_rfl)) (by unfold Func.isWrapper; first | (rw [if_pos (by decide +kernel)]; kernel_rfl) | (rw [if_neg (by decide +kernel)]; exact ⟨rfl, rfl⟩))
  (fun os started H enc _ => lifted os started H enc)
#print axioms holds
end lawSteerAims
end
end Go.Proofs.Ytacpahebbnnckaa
