/- Packed: AmA AmB AmC AmD AmE. -/
import Derived.Test.YtacpahebbnnckaaP29
import Derived.Test.YtacpahebbnnckaaP30
set_option linter.unusedVariables false
set_option linter.unusedSimpArgs false
namespace Go.Proofs.Ytacpahebbnnckaa
section
set_option maxRecDepth 100000
open Go.RowKit
open FP
namespace Sw
set_option maxHeartbeats 1000000 in
theorem fadd_any (b : Nat) (e0 al ah bl bh rl rh e : Int) (OP : ∀ W, Calls Try.prog 94 #[.agg #[.int .i64 (al), .int .i64 (ah)], .agg #[.int .i64 (bl), .int .i64 (bh)]] W fun r W' => r = .returned (.tuple #[.agg #[.int .i64 (rl), .int .i64 (rh)], .int .i64 e]) ∧ Below W.heap.size W W') (w : World) (hc : w.cell? ⟨b, 0, none⟩ = some (.int .i64 e0)) (hf : w.frozen? ⟨b, 0, none⟩ = false) (hb : b < w.heap.size) :
  Calls Try.prog 66 #[.pointer (some ⟨b, 0, none⟩), .agg #[.int .i64 (al), .int .i64 (ah)], .agg #[.int .i64 (bl), .int .i64 (bh)]] w fun r w' => r = .returned (.agg #[.int .i64 (kpV e0 e rl), .int .i64 (kpV e0 e rh)]) ∧ Below (w.setCell ⟨b, 0, none⟩ (.int .i64 (kpE e0 e))).heap.size (w.setCell ⟨b, 0, none⟩ (.int .i64 (kpE e0 e))) w' := by
 have OP := hide OP
 have KP := hide (fun W => keep_any b e0 rl rh e W)
 generalize kpV e0 e rl = x at *
 generalize kpV e0 e rh = y at *
 generalize kpE e0 e = e1 at *
 go_enter Try.func66, Try.ntmps66
 go_wp2_with fail
 refine (OP.out _).mono ?_
 rintro r w1 ⟨rfl, hb1⟩
 obtain ⟨hc1, hf1⟩ := bcell hb1
 have hz1 := hb1.size
 simp only [World.size_alloc] at hz1
 have hbb : Below w.heap.size w w1 := blw_
 have c1 : w1.cell? ⟨b, 0, none⟩ = some (.int .i64 e0) := (hbb.cell (p := ⟨b, 0, none⟩) hb).trans hc
 have f1 : w1.frozen? ⟨b, 0, none⟩ = false := (hbb.frozen (p := ⟨b, 0, none⟩) hb).trans hf
 have l1 : b < w1.heap.size := by omega
 have g0 := zci w1 (w.heap.size + 2) 0 0 (by go_simp)
 have g1 := zci w1 (w.heap.size + 2) 1 0 (by go_simp)
 have g2 := zfe w1 (w.heap.size + 2) 0 (by go_simp)
 have g3 := zfe w1 (w.heap.size + 2) 1 (by go_simp)
 have g4 : w.heap.size + 2 < w1.heap.size := by omega
 have hne : ¬ b = w.heap.size + 2 := by omega
 have hne' : ¬ w.heap.size + 2 = b := by omega
 clear hc1 hf1
 go_wp2_with fail
 refine (KP.out _ c1 f1 l1).mono ?_
 rintro r w2 ⟨rfl, hb2⟩
 obtain ⟨hc2, hf2⟩ := bcell hb2
 have hz2 := hb2.size
 simp only [World.size_setCell] at hz2 hc2 hf2
 have k0 : w2.cell? ⟨w.heap.size + 2, 0, none⟩ = some (.int .i64 0) := by rw [hc2 _ _ g4]; go_simp
 have k1 : w2.cell? ⟨w.heap.size + 2, 1, none⟩ = some (.int .i64 0) := by rw [hc2 _ _ g4]; go_simp
 have k2 : w2.frozen? ⟨w.heap.size + 2, 0, none⟩ = false := by rw [hf2 _ _ g4]; go_simp
 have k3 : w2.frozen? ⟨w.heap.size + 2, 1, none⟩ = false := by rw [hf2 _ _ g4]; go_simp
 have k4 : w.heap.size + 2 < w2.heap.size := by omega
 have hbf : Below (w.setCell ⟨b, 0, none⟩ (.int .i64 e1)).heap.size (w.setCell ⟨b, 0, none⟩ (.int .i64 e1)) w2 := by
  refine (below_set2 (n := (w.setCell ⟨b, 0, none⟩ (.int .i64 e1)).heap.size) (by simpa using hbb) _ _).trans (hb2.mono ?_)
  simp only [World.size_setCell]; omega
 have hq : (w.setCell ⟨b, 0, none⟩ (.int .i64 e1)).heap.size ≤ w.heap.size + 2 := by simp
 have HBF := hide hbf
 clear hc2 hf2 hb2 hb1 hbf
 go_wp2
 refine bodyPost_ret (v := (.agg #[.int .i64 (x), .int .i64 (y)])) (by simp only [results, Try.results66]; go_simp) rfl ⟨rfl, by have hbf := HBF.out; exact blw_⟩
theorem fA : KeepIs 66 stepA := fun b e0 x y w hc hf hb => by
 have h := fadd_any b e0 x.lo x.hi y.lo y.hi (stepA x y).1.lo (stepA x y).1.hi (stepA x y).2 (stepA_in x y) w hc hf hb
 obtain ⟨k1, k2, k3⟩ := ck_f (e0 := e0) (nA x y)
 rw [k1, k2, k3] at h
 exact h
def res1 (x : FD.Sp × Int) : FD.Sp × Int := (if x.2 = 0 then x.1 else .zero, x.2)
set_option maxHeartbeats 4000000 in
theorem result_any (b : Nat) (e0 : Int) (x : FD.Sp) (w : World) (hc : w.cell? ⟨b, 0, none⟩ = some (.int .i64 e0)) (hb : b < w.heap.size) :
  Calls Try.prog 65 #[.pointer (some ⟨b, 0, none⟩), FD.spv x] w fun r w' => r = .returned (.tuple #[FD.spv (res1 (x, e0)).1, .int .i64 (res1 (x, e0)).2]) ∧ Below w.heap.size w w' := by
 have hn : b < w.heap.size + 1 ∧ b < w.heap.size + 1 + 1 := by omega
 obtain ⟨n0, n1⟩ := hn
 have hc4 : ((w.alloc (.cells #[.int .i64 x.lo, .int .i64 x.hi] 24)).alloc (.cells #[.int .i64 0, .int .i64 0] 24)).cell? ⟨b, 0, none⟩ = some (.int .i64 e0) := by
  have hB : Below w.heap.size w ((w.alloc (.cells #[.int .i64 x.lo, .int .i64 x.hi] 24)).alloc (.cells #[.int .i64 0, .int .i64 0] 24)) := blw_
  exact (hB.cell (p := ⟨b, 0, none⟩) hb).trans hc
 by_cases h0 : e0 = 0
 ·subst h0
  rw [show res1 (x, 0) = (x, 0) from rfl]
  go_enter Try.func65, Try.ntmps65
  go_wp2
  refine bodyPost_ret (v := (.tuple #[.agg #[.int .i64 (x.lo), .int .i64 (x.hi)], .int .i64 0])) (by simp only [results, Try.results65]; go_simp) rfl ⟨rfl, blw_⟩
 ·rw [show res1 (x, e0) = (.zero, e0) by simp [res1, h0]]
  have h0' : (e0 == 0) = false := by simpa using h0
  go_enter Try.func65, Try.ntmps65
  go_wp2
  go_region
  all_goals (go_wp2; refine bodyPost_ret (v := (.tuple #[.agg #[.int .i64 (0), .int .i64 (0)], .int .i64 e0])) (by simp only [results, Try.results65]; go_simp) rfl ⟨rfl, blw_⟩)
theorem tn_unit {a b : Int} (h : tnB a b = true) : Unit1 a ∧ Unit1 b ∧ a ≤ b := by
 have h' := Bool.and_eq_true_iff.1 h
 have h1 := vB_tt h'.1
 have h2 := of_decide_eq_true h'.2
 exact ⟨⟨h2.1, by omega⟩, ⟨by omega, h2.2⟩, h1.2⟩
theorem tu_64L (a b : Int) : FD.In64 (okI (tnB a b) (tuL a a)) := by
 cases h : tnB a b
 ·exact ⟨by simp [okI], by simp [okI]⟩
 ·have u := (tn_unit h).1
  have := tu_bd u u
  exact ⟨by simp only [okI, if_true]; omega, by simp only [okI, if_true]; omega⟩
theorem tu_64H (a b : Int) : FD.In64 (okI (tnB a b) (tuH b b)) := by
 cases h : tnB a b
 ·exact ⟨by simp [okI], by simp [okI]⟩
 ·have u := (tn_unit h).2.1
  have := tu_bd u u
  exact ⟨by simp only [okI, if_true]; omega, by simp only [okI, if_true]; omega⟩
def stT (t : FD.Sp) : FD.Sp × Int := (⟨okI (tnB t.lo t.hi) (tuL t.lo t.lo), okI (tnB t.lo t.hi) (tuH t.hi t.hi), tu_64L _ _, tu_64H _ _⟩, tnE t.lo t.hi)
theorem gT (t : FD.Sp) (W : World) : Calls Try.prog 64 #[FD.spv t] W fun e W' => e = .returned (.tuple #[.agg #[.int .i64 (okI (tnB t.lo t.hi) (tcL t.lo t.hi)), .int .i64 (okI (tnB t.lo t.hi) (tcH t.lo t.hi))], FD.spv (stT t).1, .int .i64 (stT t).2]) ∧ Below W.heap.size W W' := turn_any t.lo t.hi t.ok.1 t.ok.2 W
theorem hT (t : FD.Sp) (W : World) : Calls Try.prog 21 #[FD.spv t] W fun e W' => e = .returned (.tuple #[.agg #[.int .i64 (okI (tnB t.lo t.hi) (tcL t.lo t.hi)), .int .i64 (okI (tnB t.lo t.hi) (tcH t.lo t.hi))], FD.spv (stT t).1, .int .i64 (stT t).2]) ∧ Below W.heap.size W W' := rturn_any t.lo t.hi t.ok.1 t.ok.2 W
def chL (v push pull tm s : FD.Sp) : FD.Sp × Int :=
 let q1 := ck 0 (stM push s)
 let q2 := ck q1.2 (stS q1.1 pull)
 let q3 := ck q2.2 (stM q2.1 tm)
 ck q3.2 (stepA v q3.1)
def lfQ (v push pull tm t : FD.Sp) : FD.Sp × Int := if (stT t).2 = 0 then res1 (chL v push pull tm (stT t).1) else (.zero, (stT t).2)
structure EC (w0 W : World) (z : Nat) (E : Int) (L : List (Nat × FD.Sp)) (r : Nat) (C : Nat → Option Value) : Prop where
 es : ES w0 W z E L
 lr : r < W.heap.size
 cc : ∀ o v, C o = some v → W.cell? ⟨r, o, none⟩ = some v
 zr : ¬ z = r
 nr : ∀ p ∈ L, ¬ p.1 = r
section
variable {w0 W W' : World} {z : Nat} {E : Int} {L : List (Nat × FD.Sp)} {r : Nat} {C : Nat → Option Value}
theorem EC.quiet (h : EC w0 W z E L r C) (hb : Below W.heap.size W W') : EC w0 W' z E L r C :=
 ⟨h.es.quiet hb, Nat.lt_of_lt_of_le h.lr hb.size, fun o v hv => ((bcell hb).1 _ _ h.lr).trans (h.cc o v hv), h.zr, h.nr⟩
theorem EC.drew (h : EC w0 W z E L r C) : EC w0 W.drew z E L r C := h.quiet (Below.refl _ _).drew
theorem EC.setz (h : EC w0 W z E L r C) (F : Int) : EC w0 (W.setCell ⟨z, 0, none⟩ (.int .i64 F)) z F L r C :=
 ⟨h.es.setz F, by simpa using h.lr, fun o v hv => (Sw.far h.zr).trans (h.cc o v hv), h.zr, h.nr⟩
theorem EC.call {F : Int} (h : EC w0 W z E L r C) (hb : Below (W.setCell ⟨z, 0, none⟩ (.int .i64 F)).heap.size (W.setCell ⟨z, 0, none⟩ (.int .i64 F)) W') : EC w0 W' z F L r C := (h.setz F).quiet hb
theorem EC.new (h : EC w0 W z E L r C) (x : FD.Sp) : EC w0 (W.alloc (.cells #[.int .i64 x.lo, .int .i64 x.hi] 24)) z E ((W.heap.size, x) :: L) r C := by
 have hq := h.quiet ((Below.refl W.heap.size W).alloc (Nat.le_refl _) (.cells #[.int .i64 x.lo, .int .i64 x.hi] 24))
 refine ⟨h.es.new x, hq.lr, hq.cc, h.zr, fun p hp => ?_⟩
 rcases List.mem_cons.1 hp with rfl | hp
 ·exact Nat.ne_of_gt h.lr
 ·exact h.nr p hp
theorem EC.new0 (h : EC w0 W z E L r C) : EC w0 (W.alloc (.cells #[.int .i64 0, .int .i64 0] 24)) z E ((W.heap.size, .zero) :: L) r C := h.new .zero
theorem EC.head {p : Nat} {x : FD.Sp} (h : EC w0 W z E ((p, x) :: L) r C) : Box W p x := h.es.head
theorem EC.sethead {p : Nat} {x : FD.Sp} (h : EC w0 W z E ((p, x) :: L) r C) (y : FD.Sp) : EC w0 ((W.setCell ⟨p, 0, none⟩ (.int .i64 y.lo)).setCell ⟨p, 1, none⟩ (.int .i64 y.hi)) z E ((p, y) :: L) r C :=
 ⟨h.es.sethead y, by simpa using h.lr, fun o v hv => ((Sw.far (h.nr _ (List.mem_cons_self ..))).trans (Sw.far (h.nr _ (List.mem_cons_self ..)))).trans (h.cc o v hv), h.zr, fun q hq => by
  rcases List.mem_cons.1 hq with rfl | hq
  ·exact h.nr (p, x) (List.mem_cons_self ..)
  ·exact h.nr q (List.mem_cons_of_mem _ hq)⟩
theorem EC.at {p : Nat} {x : FD.Sp} (h : EC w0 W z E L r C) (hp : (p, x) ∈ L) : Box W p x := h.es.at hp
theorem C_use2 {f : FuncId} {g : FD.Sp → FD.Sp → FD.Sp × Int} (k : KeepIs f g) {p1 p2 : FD.Sp} {E0 : Int} {q : FD.Sp × Int} (eq : ck E0 (g p1 p2) = q) (W : World) (L : List (Nat × FD.Sp)) (h : EC w0 W z E0 L r C) :
  Calls Try.prog f #[.pointer (some ⟨z, 0, none⟩), FD.spv p1, FD.spv p2] W fun e w' => e = .returned (FD.spv q.1) ∧ EC w0 w' z q.2 L r C := by
 subst eq
 refine (k z E0 p1 p2 W h.es.z0 h.es.fz h.es.lz).mono ?_
 rintro e w' ⟨rfl, hb⟩
 exact ⟨rfl, h.call hb⟩
theorem P_use2 {n : Int} {x : FD.Sp} (h0 : x.lo = n) (h1 : x.hi = n) (W : World) (L : List (Nat × FD.Sp)) (E : Int) (h : EC w0 W z E L r C) :
  Calls Try.prog 49 #[.int .i64 n] W fun e w' => e = .returned (FD.spv x) ∧ EC w0 w' z E L r C := by
 refine (pointU_any n W).mono ?_
 rintro e w' ⟨rfl, hb⟩
 obtain ⟨a, b, c⟩ := x
 dsimp only at h0 h1
 subst h0 h1
 exact ⟨rfl, h.quiet hb⟩
end
end Sw
end
section
set_option maxRecDepth 100000
open Go.RowKit
open FP
namespace Sw
abbrev clv (v push pull : FD.Sp) (time : Int) : Value := .agg #[.int .i64 v.lo, .int .i64 v.hi, .int .i64 push.lo, .int .i64 push.hi, .int .i64 pull.lo, .int .i64 pull.hi, .int .i64 time]
def clC (v push pull : FD.Sp) (time : Int) : Nat → Option Value
 | 0 => some (.int .i64 v.lo)
 | 1 => some (.int .i64 v.hi)
 | 2 => some (.int .i64 push.lo)
 | 3 => some (.int .i64 push.hi)
 | 4 => some (.int .i64 pull.lo)
 | 5 => some (.int .i64 pull.hi)
 | 6 => some (.int .i64 time)
 | _ => none
abbrev clO (v push pull : FD.Sp) (time : Int) : Obj := .cells #[.int .i64 v.lo, .int .i64 v.hi, .int .i64 push.lo, .int .i64 push.hi, .int .i64 pull.lo, .int .i64 pull.hi, .int .i64 time] 57
theorem cl_new (w : World) (v push pull : FD.Sp) (time : Int) : ∀ o x, clC v push pull time o = some x → (w.alloc (clO v push pull time)).cell? ⟨w.heap.size, o, none⟩ = some x
 | 0, _, rfl => by go_simp
 | 1, _, rfl => by go_simp
 | 2, _, rfl => by go_simp
 | 3, _, rfl => by go_simp
 | 4, _, rfl => by go_simp
 | 5, _, rfl => by go_simp
 | 6, _, rfl => by go_simp
theorem cl_at {w w1 : World} {v push pull : FD.Sp} {time : Int} (h : Below (w.heap.size + 1) (w.alloc (clO v push pull time)) w1) (o : Nat) (x : Value) (hx : clC v push pull time o = some x) : w1.cell? ⟨w.heap.size, o, none⟩ = some x :=
 (h.cell (p := ⟨w.heap.size, o, none⟩) (Nat.lt_succ_self _)).trans (cl_new w v push pull time o x hx)

set_option maxHeartbeats 2000000 in
theorem lift_bad (v push pull tm t : FD.Sp) (time : Int) (h : ¬ (stT t).2 = 0) (w : World) :
  Calls Try.prog 19 #[clv v push pull time, FD.spv t] w fun e w' => e = .returned (.tuple #[FD.spv (lfQ v push pull tm t).1, .int .i64 (lfQ v push pull tm t).2]) ∧ Below w.heap.size w w' := by
 have GT := hide (gT t)
 have e : lfQ v push pull tm t = (.zero, (stT t).2) := if_neg h
 rw [e]
 generalize stT t = q at *
 obtain ⟨⟨s0, s1, s2⟩, se⟩ := q
 have hs1 : (se == 0) = false := by simpa using h
 have hs2 : (se != 0) = true := by simpa using h
 dsimp only at GT ⊢
 clear e
 go_enter Try.func19, Try.ntmps19
 go_wp2_with fail
 refine (GT.out _).mono ?_
 rintro e w1 ⟨rfl, hb1⟩
 obtain ⟨hc1, hf1⟩ := bcell hb1
 have hz1 := hb1.size
 try simp only [World.size_alloc, World.size_setCell] at hz1
 try refine zw3 w w1 (by omega) fun _ _ _ _ _ _ => ?_
 have c1_0_0 := zci w1 (w.heap.size + 1 + 1) 0 (0) (by go_simp)
 have g1_0_0 := zfe w1 (w.heap.size + 1 + 1) 0 (by go_simp)
 have c1_0_1 := zci w1 (w.heap.size + 1 + 1) 1 (0) (by go_simp)
 have g1_0_1 := zfe w1 (w.heap.size + 1 + 1) 1 (by go_simp)
 clear hc1 hf1
 go_wp2
 refine bodyPost_ret (v := (.tuple #[.agg #[.int .i64 (0), .int .i64 (0)], .int .i64 se])) (by simp only [results, Try.results19]; go_simp) rfl ⟨rfl, blw_⟩

set_option maxHeartbeats 4000000 in
theorem lift_good (v push pull tm t : FD.Sp) (time : Int) (t0 : tm.lo = time) (t1 : tm.hi = time) (h : (stT t).2 = 0) (w : World) :
  Calls Try.prog 19 #[clv v push pull time, FD.spv t] w fun e w' => e = .returned (.tuple #[FD.spv (lfQ v push pull tm t).1, .int .i64 (lfQ v push pull tm t).2]) ∧ Below w.heap.size w w' := by
 have GT := hide (gT t)
 have e : lfQ v push pull tm t = res1 (chL v push pull tm (stT t).1) := if_pos h
 rw [e]
 rw [h] at GT
 generalize (stT t).1 = s at *
 obtain ⟨q1, e1⟩ : ∃ q, ck 0 (stM push s) = q := ⟨_, rfl⟩
 obtain ⟨q2, e2⟩ : ∃ q, ck q1.2 (stS q1.1 pull) = q := ⟨_, rfl⟩
 obtain ⟨q3, e3⟩ : ∃ q, ck q2.2 (stM q2.1 tm) = q := ⟨_, rfl⟩
 obtain ⟨q4, e4⟩ : ∃ q, ck q3.2 (stepA v q3.1) = q := ⟨_, rfl⟩
 have ec : chL v push pull tm s = q4 := by rw [← e4, ← e3, ← e2, ← e1]; rfl
 rw [ec]
 have F1 := hide (fun (z r : Nat) => C_use2 (w0 := w) (z := z) (r := r) (C := clC v push pull time) fM e1)
 have F2 := hide (fun (z r : Nat) => C_use2 (w0 := w) (z := z) (r := r) (C := clC v push pull time) fS e2)
 have F3 := hide (fun (z r : Nat) => C_use2 (w0 := w) (z := z) (r := r) (C := clC v push pull time) fM e3)
 have F4 := hide (fun (z r : Nat) => C_use2 (w0 := w) (z := z) (r := r) (C := clC v push pull time) fA e4)
 have PT := hide (fun (z r : Nat) => P_use2 (w0 := w) (z := z) (r := r) (C := clC v push pull time) t0 t1)
 clear e h ec e1 e2 e3 e4 t0 t1
 go_enter Try.func19, Try.ntmps19
 go_wp2_with fail
 refine (GT.out _).mono ?_
 rintro e w1 ⟨rfl, hb1⟩
 obtain ⟨hc1, hf1⟩ := bcell hb1
 have hz1 := hb1.size
 try simp only [World.size_alloc, World.size_setCell] at hz1
 try refine zw3 w w1 (by omega) fun _ _ _ _ _ _ => ?_
 have c1_0_0 := zci w1 w.heap.size 0 (v.lo) (by go_simp)
 have c1_0_1 := zci w1 w.heap.size 1 (v.hi) (by go_simp)
 have c1_0_2 := zci w1 w.heap.size 2 (push.lo) (by go_simp)
 have c1_0_3 := zci w1 w.heap.size 3 (push.hi) (by go_simp)
 have c1_0_4 := zci w1 w.heap.size 4 (pull.lo) (by go_simp)
 have c1_0_5 := zci w1 w.heap.size 5 (pull.hi) (by go_simp)
 have c1_0_6 := zci w1 w.heap.size 6 (time) (by go_simp)
 have c1_1_0 := zci w1 (w.heap.size + 1 + 1) 0 (0) (by go_simp)
 have g1_1_0 := zfe w1 (w.heap.size + 1 + 1) 0 (by go_simp)
 have c1_1_1 := zci w1 (w.heap.size + 1 + 1) 1 (0) (by go_simp)
 have g1_1_1 := zfe w1 (w.heap.size + 1 + 1) 1 (by go_simp)
 clear hc1 hf1

 have hcl : Below (w.heap.size + 1) (w.alloc (clO v push pull time)) w1 := blw_
 go_upto_region 5 with fail
 have hB3 : Below w1.heap.size w1 (((w1.alloc (.cells #[.int .i64 (okI (tnB t.lo t.hi) (tcL t.lo t.hi)), .int .i64 (okI (tnB t.lo t.hi) (tcH t.lo t.hi))] 24)).alloc (.cells #[.int .i64 s.lo, .int .i64 s.hi] 24)).alloc (.cells #[.int .i64 0] 97)) := blw_
 have hE : EC w (((w1.alloc (.cells #[.int .i64 (okI (tnB t.lo t.hi) (tcL t.lo t.hi)), .int .i64 (okI (tnB t.lo t.hi) (tcH t.lo t.hi))] 24)).alloc (.cells #[.int .i64 s.lo, .int .i64 s.hi] 24)).alloc (.cells #[.int .i64 0] 97)) (w1.heap.size + 1 + 1) 0 [(w1.heap.size + 1, s), (w.heap.size + 1 + 1, .zero)] w.heap.size (clC v push pull time) := by
  refine ⟨⟨blw_, by omega, by simp only [World.size_alloc]; omega, by go_simp, by go_simp, ?_, ?_⟩, by simp only [World.size_alloc]; omega, fun o x hx => ((bcell hB3).1 _ _ (by omega)).trans (cl_at hcl o x hx), by omega, ?_⟩
  ·intro p hp
   simp only [List.mem_cons, List.not_mem_nil, or_false] at hp
   rcases hp with rfl | rfl
   all_goals (refine ⟨⟨?_, ?_, ?_, ?_, ?_⟩, ?_, ?_⟩)
   all_goals first | omega | (simp only [World.size_alloc, World.size_setCell]; omega) | (go_simp; done) | (simp only [FD.Sp.zero]; go_simp; done) | (dsimp only; omega)
  ·simp only [List.pairwise_cons, List.mem_cons, List.not_mem_nil, or_false, forall_eq_or_imp, forall_eq, List.Pairwise.nil, and_true, false_imp_iff, implies_true]
   omega
  ·intro p hp
   simp only [List.mem_cons, List.not_mem_nil, or_false] at hp
   rcases hp with rfl | rfl <;> dsimp only <;> omega
 clear hB3 hcl
 generalize (((w1.alloc (.cells #[.int .i64 (okI (tnB t.lo t.hi) (tcL t.lo t.hi)), .int .i64 (okI (tnB t.lo t.hi) (tcH t.lo t.hi))] 24)).alloc (.cells #[.int .i64 s.lo, .int .i64 s.hi] 24)).alloc (.cells #[.int .i64 0] 97)) = w3 at *
 clear c1_0_0 c1_0_1 c1_0_2 c1_0_3 c1_0_4 c1_0_5 c1_0_6 c1_1_0 c1_1_1 g1_1_0 g1_1_1 GT hb1
 go_upto_region 5 with fail
 go_cut [10] from 21 to 31 (fun s10 wx => ∃ p : Nat, s10 = .pointer (some ⟨p, 0, none⟩) ∧ EC w wx (w1.heap.size + 1 + 1) q3.2 ((p, q3.1) :: [(w1.heap.size + 1, s), (w.heap.size + 1 + 1, .zero)]) w.heap.size (clC v push pull time))
 case first =>
  have hP_a := hE.drew
  have hQ_a := hE.new0.drew
  go_region_held3? (fun w' => w'.cell? ⟨w1.heap.size + 1, 0, none⟩ = some (.int .i64 s.lo) ∧ w'.cell? ⟨w1.heap.size + 1, 1, none⟩ = some (.int .i64 s.hi) ∧ w'.cell? ⟨w.heap.size, 2, none⟩ = some (.int .i64 push.lo) ∧ w'.cell? ⟨w.heap.size, 3, none⟩ = some (.int .i64 push.hi) ∧ w'.cell? ⟨w.heap.size, 4, none⟩ = some (.int .i64 pull.lo) ∧ w'.cell? ⟨w.heap.size, 5, none⟩ = some (.int .i64 pull.hi) ∧ w'.cell? ⟨w.heap.size, 6, none⟩ = some (.int .i64 time))
   (first | exact ⟨(hQ_a.at (p := w1.heap.size + 1) (x := s) (by simp) |>.2.1), (hQ_a.at (p := w1.heap.size + 1) (x := s) (by simp) |>.2.2.1), (hQ_a.cc 2 _ rfl), (hQ_a.cc 3 _ rfl), (hQ_a.cc 4 _ rfl), (hQ_a.cc 5 _ rfl), (hQ_a.cc 6 _ rfl)⟩ | exact ⟨((hP_a3.sethead q3.1).at (p := w1.heap.size + 1) (x := s) (by simp) |>.2.1), ((hP_a3.sethead q3.1).at (p := w1.heap.size + 1) (x := s) (by simp) |>.2.2.1), ((hP_a3.sethead q3.1).cc 2 _ rfl), ((hP_a3.sethead q3.1).cc 3 _ rfl), ((hP_a3.sethead q3.1).cc 4 _ rfl), ((hP_a3.sethead q3.1).cc 5 _ rfl), ((hP_a3.sethead q3.1).cc 6 _ rfl)⟩ | exact ⟨((hP_a3.new q3.1).at (p := w1.heap.size + 1) (x := s) (by simp) |>.2.1), ((hP_a3.new q3.1).at (p := w1.heap.size + 1) (x := s) (by simp) |>.2.2.1), ((hP_a3.new q3.1).cc 2 _ rfl), ((hP_a3.new q3.1).cc 3 _ rfl), ((hP_a3.new q3.1).cc 4 _ rfl), ((hP_a3.new q3.1).cc 5 _ rfl), ((hP_a3.new q3.1).cc 6 _ rfl)⟩ | exact ⟨(hP_a3.new0.at (p := w1.heap.size + 1) (x := s) (by simp) |>.2.1), (hP_a3.new0.at (p := w1.heap.size + 1) (x := s) (by simp) |>.2.2.1), (hP_a3.new0.cc 2 _ rfl), (hP_a3.new0.cc 3 _ rfl), (hP_a3.new0.cc 4 _ rfl), (hP_a3.new0.cc 5 _ rfl), (hP_a3.new0.cc 6 _ rfl)⟩ | exact ⟨(hP_a3.at (p := w1.heap.size + 1) (x := s) (by simp) |>.2.1), (hP_a3.at (p := w1.heap.size + 1) (x := s) (by simp) |>.2.2.1), (hP_a3.cc 2 _ rfl), (hP_a3.cc 3 _ rfl), (hP_a3.cc 4 _ rfl), (hP_a3.cc 5 _ rfl), (hP_a3.cc 6 _ rfl)⟩ | exact ⟨(hP_a2.new0.at (p := w1.heap.size + 1) (x := s) (by simp) |>.2.1), (hP_a2.new0.at (p := w1.heap.size + 1) (x := s) (by simp) |>.2.2.1), (hP_a2.new0.cc 2 _ rfl), (hP_a2.new0.cc 3 _ rfl), (hP_a2.new0.cc 4 _ rfl), (hP_a2.new0.cc 5 _ rfl), (hP_a2.new0.cc 6 _ rfl)⟩ | exact ⟨(hP_a2.at (p := w1.heap.size + 1) (x := s) (by simp) |>.2.1), (hP_a2.at (p := w1.heap.size + 1) (x := s) (by simp) |>.2.2.1), (hP_a2.cc 2 _ rfl), (hP_a2.cc 3 _ rfl), (hP_a2.cc 4 _ rfl), (hP_a2.cc 5 _ rfl), (hP_a2.cc 6 _ rfl)⟩ | exact ⟨(hP_a1.new0.at (p := w1.heap.size + 1) (x := s) (by simp) |>.2.1), (hP_a1.new0.at (p := w1.heap.size + 1) (x := s) (by simp) |>.2.2.1), (hP_a1.new0.cc 2 _ rfl), (hP_a1.new0.cc 3 _ rfl), (hP_a1.new0.cc 4 _ rfl), (hP_a1.new0.cc 5 _ rfl), (hP_a1.new0.cc 6 _ rfl)⟩ | exact ⟨(hP_a1.at (p := w1.heap.size + 1) (x := s) (by simp) |>.2.1), (hP_a1.at (p := w1.heap.size + 1) (x := s) (by simp) |>.2.2.1), (hP_a1.cc 2 _ rfl), (hP_a1.cc 3 _ rfl), (hP_a1.cc 4 _ rfl), (hP_a1.cc 5 _ rfl), (hP_a1.cc 6 _ rfl)⟩ | exact ⟨(hP_a0.new0.at (p := w1.heap.size + 1) (x := s) (by simp) |>.2.1), (hP_a0.new0.at (p := w1.heap.size + 1) (x := s) (by simp) |>.2.2.1), (hP_a0.new0.cc 2 _ rfl), (hP_a0.new0.cc 3 _ rfl), (hP_a0.new0.cc 4 _ rfl), (hP_a0.new0.cc 5 _ rfl), (hP_a0.new0.cc 6 _ rfl)⟩ | exact ⟨(hP_a0.at (p := w1.heap.size + 1) (x := s) (by simp) |>.2.1), (hP_a0.at (p := w1.heap.size + 1) (x := s) (by simp) |>.2.2.1), (hP_a0.cc 2 _ rfl), (hP_a0.cc 3 _ rfl), (hP_a0.cc 4 _ rfl), (hP_a0.cc 5 _ rfl), (hP_a0.cc 6 _ rfl)⟩ | exact ⟨(hP_a.new0.at (p := w1.heap.size + 1) (x := s) (by simp) |>.2.1), (hP_a.new0.at (p := w1.heap.size + 1) (x := s) (by simp) |>.2.2.1), (hP_a.new0.cc 2 _ rfl), (hP_a.new0.cc 3 _ rfl), (hP_a.new0.cc 4 _ rfl), (hP_a.new0.cc 5 _ rfl), (hP_a.new0.cc 6 _ rfl)⟩ | exact ⟨(hP_a.at (p := w1.heap.size + 1) (x := s) (by simp) |>.2.1), (hP_a.at (p := w1.heap.size + 1) (x := s) (by simp) |>.2.2.1), (hP_a.cc 2 _ rfl), (hP_a.cc 3 _ rfl), (hP_a.cc 4 _ rfl), (hP_a.cc 5 _ rfl), (hP_a.cc 6 _ rfl)⟩)
   (first | (go_at_call 54; (first | with_reducible refine (F3.out _ _ _ _ hP_a2).mono ?_ | with_reducible refine (F3.out _ _ _ _ (hP_a2.new0)).mono ?_); rintro r w_hP_a3 ⟨rfl, hP_a3⟩; obtain ⟨x0_hP_a3, x1_hP_a3, x2_hP_a3, x3_hP_a3, x4_hP_a3⟩ := hP_a3.head) | (go_at_call 49; (first | with_reducible refine (PT.out _ _ _ _ _ hP_a1).mono ?_ | with_reducible refine (PT.out _ _ _ _ _ (hP_a1.new0)).mono ?_); rintro r w_hP_a2 ⟨rfl, hP_a2⟩; obtain ⟨x0_hP_a2, x1_hP_a2, x2_hP_a2, x3_hP_a2, x4_hP_a2⟩ := hP_a2.head) | (go_at_call 53; (first | with_reducible refine (F2.out _ _ _ _ hP_a0).mono ?_ | with_reducible refine (F2.out _ _ _ _ (hP_a0.new0)).mono ?_); rintro r w_hP_a1 ⟨rfl, hP_a1⟩; obtain ⟨x0_hP_a1, x1_hP_a1, x2_hP_a1, x3_hP_a1, x4_hP_a1⟩ := hP_a1.head) | (go_at_call 54; (first | with_reducible refine (F1.out _ _ _ _ hP_a).mono ?_ | with_reducible refine (F1.out _ _ _ _ (hQ_a)).mono ?_); rintro r w_hP_a0 ⟨rfl, hP_a0⟩; obtain ⟨x0_hP_a0, x1_hP_a0, x2_hP_a0, x3_hP_a0, x4_hP_a0⟩ := hP_a0.head))
  all_goals go_wp2_with fail
  all_goals go_meet
  all_goals (refine ⟨_, rfl, ?_⟩; first | exact hP_a3.sethead q3.1 | exact hP_a3.new q3.1)
 case rest =>
  obtain ⟨p, rfl, hE2⟩ := hcut
  clear F1 F2 F3 PT
  obtain ⟨l0, p0, p1, pf0, pf1⟩ := hE2.head
  have v0 := hE2.cc 0 _ rfl
  have v1 := hE2.cc 1 _ rfl
  have lr := hE2.lr
  go_wp2_with fail
  refine (F4.out _ _ _ _ hE2).mono ?_
  rintro r wa ⟨rfl, hE3⟩
  clear l0 p0 p1 pf0 pf1 v0 v1 lr hE2
  go_wp2_with fail
  refine (result_any _ q4.2 q4.1 _ hE3.es.z0 hE3.es.lz).mono ?_
  rintro r wb ⟨rfl, hbb⟩
  have hE4 := hE3.quiet hbb
  clear hE3 hbb
  obtain ⟨l0, p0, p1, pf0, pf1⟩ := hE4.at (p := w.heap.size + 1 + 1) (x := .zero) (by simp)
  have hW := hE4.es.below
  go_wp2
  refine bodyPost_ret (v := (.tuple #[FD.spv (res1 q4).1, .int .i64 (res1 q4).2])) (by simp only [results, Try.results19]; go_simp) rfl ⟨rfl, blw_⟩
end Sw
end
section
set_option maxRecDepth 100000
open Go.RowKit
open FP
namespace Sw
def pk2 (a b : Int) : Nat → Int
 | 0 => a
 | _ => b
def pk3 (a b c : Int) : Nat → Int
 | 0 => a
 | 1 => b
 | _ => c
theorem spl2 {W : World} {b : Nat} {x y : FD.Sp} (hb : b < W.heap.size) (h0 : W.cell? ⟨b, 0, none⟩ = some (.int .i64 x.lo)) (h1 : W.cell? ⟨b, 1, none⟩ = some (.int .i64 x.hi)) (h2 : W.cell? ⟨b, 2, none⟩ = some (.int .i64 y.lo)) (h3 : W.cell? ⟨b, 3, none⟩ = some (.int .i64 y.hi)) :
  SpL W (some ⟨b, 0, none⟩) 2 (pk2 x.lo y.lo) (pk2 x.hi y.hi) := fun _ => ⟨_, rfl, hb, fun j hj => by
 match j, hj with
 | 0, _ => exact ⟨h0, h1⟩
 | 1, _ => exact ⟨h2, h3⟩⟩
theorem spl3 {W : World} {b : Nat} {x y z : FD.Sp} (hb : b < W.heap.size) (h0 : W.cell? ⟨b, 0, none⟩ = some (.int .i64 x.lo)) (h1 : W.cell? ⟨b, 1, none⟩ = some (.int .i64 x.hi)) (h2 : W.cell? ⟨b, 2, none⟩ = some (.int .i64 y.lo)) (h3 : W.cell? ⟨b, 3, none⟩ = some (.int .i64 y.hi)) (h4 : W.cell? ⟨b, 4, none⟩ = some (.int .i64 z.lo)) (h5 : W.cell? ⟨b, 5, none⟩ = some (.int .i64 z.hi)) :
  SpL W (some ⟨b, 0, none⟩) 3 (pk3 x.lo y.lo z.lo) (pk3 x.hi y.hi z.hi) := fun _ => ⟨_, rfl, hb, fun j hj => by
 match j, hj with
 | 0, _ => exact ⟨h0, h1⟩
 | 1, _ => exact ⟨h2, h3⟩
 | 2, _ => exact ⟨h4, h5⟩⟩
theorem in2 (x y : FD.Sp) : ∀ j, FD.In64 (pk2 x.lo y.lo j) ∧ FD.In64 (pk2 x.hi y.hi j)
 | 0 => x.ok
 | _ + 1 => y.ok
theorem valid_two (b : Nat) (x y : FD.Sp) (w : World) (hb : b < w.heap.size) (h0 : w.cell? ⟨b, 0, none⟩ = some (.int .i64 x.lo)) (h1 : w.cell? ⟨b, 1, none⟩ = some (.int .i64 x.hi)) (h2 : w.cell? ⟨b, 2, none⟩ = some (.int .i64 y.lo)) (h3 : w.cell? ⟨b, 3, none⟩ = some (.int .i64 y.hi)) :
  Calls Try.prog 63 #[.slice (some ⟨b, 0, none⟩) 2 2] w fun e w' => e = .returned (.bool (vB x.lo x.hi && vB y.lo y.hi)) ∧ Below w.heap.size w w' :=
 valid_any (some ⟨b, 0, none⟩) 2 2 (pk2 x.lo y.lo) (pk2 x.hi y.hi) (by omega) (in2 x y) w (spl2 hb h0 h1 h2 h3) _ (by simp [lstB, List.range, List.range.loop, pk2])
theorem nn_one (b : Nat) (x : FD.Sp) (w : World) (hb : b < w.heap.size) (h0 : w.cell? ⟨b, 0, none⟩ = some (.int .i64 x.lo)) (h1 : w.cell? ⟨b, 1, none⟩ = some (.int .i64 x.hi)) :
  Calls Try.prog 44 #[.slice (some ⟨b, 0, none⟩) 1 1] w fun e w' => e = .returned (.bool (vB x.lo x.hi && decide (0 ≤ x.lo))) ∧ Below w.heap.size w w' :=
 notNegative_any (some ⟨b, 0, none⟩) 1 1 (fun _ => x.lo) (fun _ => x.hi) (by omega) (fun _ => x.ok) w (fun _ => ⟨_, rfl, hb, fun j hj => match j, hj with | 0, _ => ⟨h0, h1⟩⟩) _ (by simp [posB, List.range, List.range.loop])
theorem all_three (b : Nat) (x y z : FD.Sp) (w : World) (hb : b < w.heap.size) (h0 : w.cell? ⟨b, 0, none⟩ = some (.int .i64 x.lo)) (h1 : w.cell? ⟨b, 1, none⟩ = some (.int .i64 x.hi)) (h2 : w.cell? ⟨b, 2, none⟩ = some (.int .i64 y.lo)) (h3 : w.cell? ⟨b, 3, none⟩ = some (.int .i64 y.hi)) (h4 : w.cell? ⟨b, 4, none⟩ = some (.int .i64 z.lo)) (h5 : w.cell? ⟨b, 5, none⟩ = some (.int .i64 z.hi)) :
  Calls Try.prog 56 #[.slice (some ⟨b, 0, none⟩) 3 3] w fun e w' => e = .returned (.bool (vB x.lo x.hi && (vB y.lo y.hi && vB z.lo z.hi))) ∧ Below w.heap.size w w' :=
 all_any (some ⟨b, 0, none⟩) 3 3 (pk3 x.lo y.lo z.lo) (pk3 x.hi y.hi z.hi) (by omega) w (spl3 hb h0 h1 h2 h3 h4 h5) _ (by simp [lstB, List.range, List.range.loop, pk3])
def okC (v push pull : FD.Sp) (time : Int) : Bool := vB v.lo v.hi && (vB push.lo push.hi && vB pull.lo pull.hi) && decide (0 ≤ time) && decide (0 ≤ push.lo)
theorem okC_p (v push pull : FD.Sp) (time : Int) : okC v push pull time = (vB v.lo v.hi && vB pull.lo pull.hi && (vB push.lo push.hi && decide (0 ≤ push.lo)) && decide (0 ≤ time)) := by
 unfold okC
 cases vB v.lo v.hi <;> cases vB push.lo push.hi <;> cases vB pull.lo pull.hi <;> cases decide (0 ≤ time) <;> cases decide (0 ≤ push.lo) <;> rfl

set_option maxHeartbeats 2000000 in
theorem isv_any (v push pull : FD.Sp) (time : Int) (w : World) :
  Calls Try.prog 18 #[clv v push pull time] w fun e w' => e = .returned (.bool (okC v push pull time)) ∧ Below w.heap.size w w' := by
 rw [okC_p]
 have VT := hide (fun b W => valid_two b v pull W)
 have NO := hide (fun b W => nn_one b push W)
 generalize (vB v.lo v.hi && vB pull.lo pull.hi) = b1 at *
 generalize (vB push.lo push.hi && decide (0 ≤ push.lo)) = b2 at *
 cases b1
 ·go_enter Try.func18, Try.ntmps18
  go_wp2_with fail
  refine (VT.out _ _ (by simp) (by go_simp) (by go_simp) (by go_simp) (by go_simp)).mono ?_
  rintro e w1 ⟨rfl, hb1⟩
  obtain ⟨hc1, hf1⟩ := bcell hb1
  have hz1 := hb1.size
  try simp only [World.size_alloc, World.size_setCell] at hz1
  try refine zw1 w w1 (by omega) fun _ _ => ?_
  have c1_0_0 := zci w1 w.heap.size 0 (v.lo) (by go_simp)
  have c1_0_1 := zci w1 w.heap.size 1 (v.hi) (by go_simp)
  have c1_0_2 := zci w1 w.heap.size 2 (push.lo) (by go_simp)
  have c1_0_3 := zci w1 w.heap.size 3 (push.hi) (by go_simp)
  have c1_0_4 := zci w1 w.heap.size 4 (pull.lo) (by go_simp)
  have c1_0_5 := zci w1 w.heap.size 5 (pull.hi) (by go_simp)
  have c1_0_6 := zci w1 w.heap.size 6 (time) (by go_simp)
  clear hc1 hf1
  go_wp2
  refine bodyPost_ret (v := (.bool false)) (by simp only [results, Try.results18]; go_simp) rfl ⟨rfl, blw_⟩
 ·cases b2
  ·go_enter Try.func18, Try.ntmps18
   go_wp2_with fail
   refine (VT.out _ _ (by simp) (by go_simp) (by go_simp) (by go_simp) (by go_simp)).mono ?_
   rintro e w1 ⟨rfl, hb1⟩
   obtain ⟨hc1, hf1⟩ := bcell hb1
   have hz1 := hb1.size
   try simp only [World.size_alloc, World.size_setCell] at hz1
   try refine zw1 w w1 (by omega) fun _ _ => ?_
   have c1_0_0 := zci w1 w.heap.size 0 (v.lo) (by go_simp)
   have c1_0_1 := zci w1 w.heap.size 1 (v.hi) (by go_simp)
   have c1_0_2 := zci w1 w.heap.size 2 (push.lo) (by go_simp)
   have c1_0_3 := zci w1 w.heap.size 3 (push.hi) (by go_simp)
   have c1_0_4 := zci w1 w.heap.size 4 (pull.lo) (by go_simp)
   have c1_0_5 := zci w1 w.heap.size 5 (pull.hi) (by go_simp)
   have c1_0_6 := zci w1 w.heap.size 6 (time) (by go_simp)
   clear hc1 hf1
   go_wp2_with fail
   refine (NO.out _ _ (by simp) (by go_simp) (by go_simp)).mono ?_
   rintro e w2 ⟨rfl, hb2⟩
   obtain ⟨hc2, hf2⟩ := bcell hb2
   have hz2 := hb2.size
   try simp only [World.size_alloc, World.size_setCell] at hz2
   try refine zw1 w w2 (by omega) fun _ _ => ?_
   have c2_0_0 := zci w2 w.heap.size 0 (v.lo) (by go_simp)
   have c2_0_1 := zci w2 w.heap.size 1 (v.hi) (by go_simp)
   have c2_0_2 := zci w2 w.heap.size 2 (push.lo) (by go_simp)
   have c2_0_3 := zci w2 w.heap.size 3 (push.hi) (by go_simp)
   have c2_0_4 := zci w2 w.heap.size 4 (pull.lo) (by go_simp)
   have c2_0_5 := zci w2 w.heap.size 5 (pull.hi) (by go_simp)
   have c2_0_6 := zci w2 w.heap.size 6 (time) (by go_simp)
   clear hc2 hf2 c1_0_0 c1_0_1 c1_0_2 c1_0_3 c1_0_4 c1_0_5 c1_0_6
   go_wp2
   refine bodyPost_ret (v := (.bool false)) (by simp only [results, Try.results18]; go_simp) rfl ⟨rfl, blw_⟩
  ·by_cases hT : 0 ≤ time
   ·rw [decide_eq_true hT]
    go_enter Try.func18, Try.ntmps18
    go_wp2_with fail
    refine (VT.out _ _ (by simp) (by go_simp) (by go_simp) (by go_simp) (by go_simp)).mono ?_
    rintro e w1 ⟨rfl, hb1⟩
    obtain ⟨hc1, hf1⟩ := bcell hb1
    have hz1 := hb1.size
    try simp only [World.size_alloc, World.size_setCell] at hz1
    try refine zw1 w w1 (by omega) fun _ _ => ?_
    have c1_0_0 := zci w1 w.heap.size 0 (v.lo) (by go_simp)
    have c1_0_1 := zci w1 w.heap.size 1 (v.hi) (by go_simp)
    have c1_0_2 := zci w1 w.heap.size 2 (push.lo) (by go_simp)
    have c1_0_3 := zci w1 w.heap.size 3 (push.hi) (by go_simp)
    have c1_0_4 := zci w1 w.heap.size 4 (pull.lo) (by go_simp)
    have c1_0_5 := zci w1 w.heap.size 5 (pull.hi) (by go_simp)
    have c1_0_6 := zci w1 w.heap.size 6 (time) (by go_simp)
    clear hc1 hf1
    go_wp2_with fail
    refine (NO.out _ _ (by simp) (by go_simp) (by go_simp)).mono ?_
    rintro e w2 ⟨rfl, hb2⟩
    obtain ⟨hc2, hf2⟩ := bcell hb2
    have hz2 := hb2.size
    try simp only [World.size_alloc, World.size_setCell] at hz2
    try refine zw1 w w2 (by omega) fun _ _ => ?_
    have c2_0_0 := zci w2 w.heap.size 0 (v.lo) (by go_simp)
    have c2_0_1 := zci w2 w.heap.size 1 (v.hi) (by go_simp)
    have c2_0_2 := zci w2 w.heap.size 2 (push.lo) (by go_simp)
    have c2_0_3 := zci w2 w.heap.size 3 (push.hi) (by go_simp)
    have c2_0_4 := zci w2 w.heap.size 4 (pull.lo) (by go_simp)
    have c2_0_5 := zci w2 w.heap.size 5 (pull.hi) (by go_simp)
    have c2_0_6 := zci w2 w.heap.size 6 (time) (by go_simp)
    clear hc2 hf2 c1_0_0 c1_0_1 c1_0_2 c1_0_3 c1_0_4 c1_0_5 c1_0_6
    go_wp2
    refine bodyPost_ret (v := (.bool true)) (by simp only [results, Try.results18]; go_simp) rfl ⟨rfl, blw_⟩
   ·rw [decide_eq_false hT]
    go_enter Try.func18, Try.ntmps18
    go_wp2_with fail
    refine (VT.out _ _ (by simp) (by go_simp) (by go_simp) (by go_simp) (by go_simp)).mono ?_
    rintro e w1 ⟨rfl, hb1⟩
    obtain ⟨hc1, hf1⟩ := bcell hb1
    have hz1 := hb1.size
    try simp only [World.size_alloc, World.size_setCell] at hz1
    try refine zw1 w w1 (by omega) fun _ _ => ?_
    have c1_0_0 := zci w1 w.heap.size 0 (v.lo) (by go_simp)
    have c1_0_1 := zci w1 w.heap.size 1 (v.hi) (by go_simp)
    have c1_0_2 := zci w1 w.heap.size 2 (push.lo) (by go_simp)
    have c1_0_3 := zci w1 w.heap.size 3 (push.hi) (by go_simp)
    have c1_0_4 := zci w1 w.heap.size 4 (pull.lo) (by go_simp)
    have c1_0_5 := zci w1 w.heap.size 5 (pull.hi) (by go_simp)
    have c1_0_6 := zci w1 w.heap.size 6 (time) (by go_simp)
    clear hc1 hf1
    go_wp2_with fail
    refine (NO.out _ _ (by simp) (by go_simp) (by go_simp)).mono ?_
    rintro e w2 ⟨rfl, hb2⟩
    obtain ⟨hc2, hf2⟩ := bcell hb2
    have hz2 := hb2.size
    try simp only [World.size_alloc, World.size_setCell] at hz2
    try refine zw1 w w2 (by omega) fun _ _ => ?_
    have c2_0_0 := zci w2 w.heap.size 0 (v.lo) (by go_simp)
    have c2_0_1 := zci w2 w.heap.size 1 (v.hi) (by go_simp)
    have c2_0_2 := zci w2 w.heap.size 2 (push.lo) (by go_simp)
    have c2_0_3 := zci w2 w.heap.size 3 (push.hi) (by go_simp)
    have c2_0_4 := zci w2 w.heap.size 4 (pull.lo) (by go_simp)
    have c2_0_5 := zci w2 w.heap.size 5 (pull.hi) (by go_simp)
    have c2_0_6 := zci w2 w.heap.size 6 (time) (by go_simp)
    clear hc2 hf2 c1_0_0 c1_0_1 c1_0_2 c1_0_3 c1_0_4 c1_0_5 c1_0_6
    go_wp2
    refine bodyPost_ret (v := (.bool false)) (by simp only [results, Try.results18]; go_simp) rfl ⟨rfl, blw_⟩

set_option maxHeartbeats 2000000 in
theorem lifted_any (v push pull : FD.Sp) (time : Int) (w : World) :
  Calls Try.prog 20 #[FD.spv v, FD.spv push, FD.spv pull, .int .i64 time] w fun e w' => e = .returned (.bool (okC v push pull time)) ∧ Below w.heap.size w w' := by
 unfold okC
 have VT := hide (fun b W => all_three b v push pull W)
 generalize (vB v.lo v.hi && (vB push.lo push.hi && vB pull.lo pull.hi)) = b1 at *
 have key : ∀ (c : Bool), (b1 && decide (0 ≤ time) && decide (0 ≤ push.lo)) = c → Calls Try.prog 20 #[FD.spv v, FD.spv push, FD.spv pull, .int .i64 time] w fun e w' => e = .returned (.bool c) ∧ Below w.heap.size w w' := by
  intro c hc
  cases b1
  ·obtain rfl : c = false := by rw [← hc]; rfl
   go_enter Try.func20, Try.ntmps20
   go_wp2_with fail
   refine (VT.out _ _ (by simp) (by go_simp) (by go_simp) (by go_simp) (by go_simp) (by go_simp) (by go_simp)).mono ?_
   rintro e w1 ⟨rfl, hb1⟩
   obtain ⟨hc1, hf1⟩ := bcell hb1
   have hz1 := hb1.size
   try simp only [World.size_alloc, World.size_setCell] at hz1
   try refine zw3 w w1 (by omega) fun _ _ _ _ _ _ => ?_
   have c1_0_0 := zci w1 w.heap.size 0 (v.lo) (by go_simp)
   have c1_0_1 := zci w1 w.heap.size 1 (v.hi) (by go_simp)
   have c1_1_0 := zci w1 (w.heap.size + 1) 0 (push.lo) (by go_simp)
   have c1_1_1 := zci w1 (w.heap.size + 1) 1 (push.hi) (by go_simp)
   have c1_2_0 := zci w1 (w.heap.size + 1 + 1) 0 (pull.lo) (by go_simp)
   have c1_2_1 := zci w1 (w.heap.size + 1 + 1) 1 (pull.hi) (by go_simp)
   clear hc1 hf1
   go_wp2
   go_ret
   exact ⟨rfl, blw_⟩
  ·by_cases hT : 0 ≤ time
   ·by_cases hP : 0 ≤ push.lo
    ·obtain rfl : c = true := by rw [← hc]; simp [hT, hP]
     clear hc
     go_enter Try.func20, Try.ntmps20
     go_wp2_with fail
     refine (VT.out _ _ (by simp) (by go_simp) (by go_simp) (by go_simp) (by go_simp) (by go_simp) (by go_simp)).mono ?_
     rintro e w1 ⟨rfl, hb1⟩
     obtain ⟨hc1, hf1⟩ := bcell hb1
     have hz1 := hb1.size
     try simp only [World.size_alloc, World.size_setCell] at hz1
     try refine zw3 w w1 (by omega) fun _ _ _ _ _ _ => ?_
     have c1_0_0 := zci w1 w.heap.size 0 (v.lo) (by go_simp)
     have c1_0_1 := zci w1 w.heap.size 1 (v.hi) (by go_simp)
     have c1_1_0 := zci w1 (w.heap.size + 1) 0 (push.lo) (by go_simp)
     have c1_1_1 := zci w1 (w.heap.size + 1) 1 (push.hi) (by go_simp)
     have c1_2_0 := zci w1 (w.heap.size + 1 + 1) 0 (pull.lo) (by go_simp)
     have c1_2_1 := zci w1 (w.heap.size + 1 + 1) 1 (pull.hi) (by go_simp)
     clear hc1 hf1
     go_wp2
     go_ret
     exact ⟨rfl, blw_⟩
    ·obtain rfl : c = false := by rw [← hc]; simp [hP]
     clear hc
     go_enter Try.func20, Try.ntmps20
     go_wp2_with fail
     refine (VT.out _ _ (by simp) (by go_simp) (by go_simp) (by go_simp) (by go_simp) (by go_simp) (by go_simp)).mono ?_
     rintro e w1 ⟨rfl, hb1⟩
     obtain ⟨hc1, hf1⟩ := bcell hb1
     have hz1 := hb1.size
     try simp only [World.size_alloc, World.size_setCell] at hz1
     try refine zw3 w w1 (by omega) fun _ _ _ _ _ _ => ?_
     have c1_0_0 := zci w1 w.heap.size 0 (v.lo) (by go_simp)
     have c1_0_1 := zci w1 w.heap.size 1 (v.hi) (by go_simp)
     have c1_1_0 := zci w1 (w.heap.size + 1) 0 (push.lo) (by go_simp)
     have c1_1_1 := zci w1 (w.heap.size + 1) 1 (push.hi) (by go_simp)
     have c1_2_0 := zci w1 (w.heap.size + 1 + 1) 0 (pull.lo) (by go_simp)
     have c1_2_1 := zci w1 (w.heap.size + 1 + 1) 1 (pull.hi) (by go_simp)
     clear hc1 hf1
     go_wp2
     go_ret
     exact ⟨by simp [hP], blw_⟩
   ·obtain rfl : c = false := by rw [← hc]; simp [hT]
    clear hc
    go_enter Try.func20, Try.ntmps20
    go_wp2_with fail
    refine (VT.out _ _ (by simp) (by go_simp) (by go_simp) (by go_simp) (by go_simp) (by go_simp) (by go_simp)).mono ?_
    rintro e w1 ⟨rfl, hb1⟩
    obtain ⟨hc1, hf1⟩ := bcell hb1
    have hz1 := hb1.size
    try simp only [World.size_alloc, World.size_setCell] at hz1
    try refine zw3 w w1 (by omega) fun _ _ _ _ _ _ => ?_
    have c1_0_0 := zci w1 w.heap.size 0 (v.lo) (by go_simp)
    have c1_0_1 := zci w1 w.heap.size 1 (v.hi) (by go_simp)
    have c1_1_0 := zci w1 (w.heap.size + 1) 0 (push.lo) (by go_simp)
    have c1_1_1 := zci w1 (w.heap.size + 1) 1 (push.hi) (by go_simp)
    have c1_2_0 := zci w1 (w.heap.size + 1 + 1) 0 (pull.lo) (by go_simp)
    have c1_2_1 := zci w1 (w.heap.size + 1 + 1) 1 (pull.hi) (by go_simp)
    clear hc1 hf1
    go_wp2
    go_ret
    exact ⟨rfl, blw_⟩
 exact key _ rfl
theorem whole_one (w : World) : Calls Try.prog 27 #[.int .i64 1] w fun e w' => e = .returned (.agg #[.int .i64 (4294967296), .int .i64 (4294967296)]) ∧ Below w.heap.size w w' := by
 have PT := hide (fun x W => pointU_any x W)
 go_enter Try.func27, Try.ntmps27
 go_wp2_with fail
 refine (PT.out _ _).mono ?_
 rintro e w1 ⟨rfl, hb1⟩
 obtain ⟨hc1, hf1⟩ := bcell hb1
 have hz1 := hb1.size
 try simp only [World.size_alloc, World.size_setCell] at hz1
 try refine zw1 w w1 (by omega) fun _ _ => ?_
 have c1_0_0 := zci w1 w.heap.size 0 (0) (by go_simp)
 have g1_0_0 := zfe w1 w.heap.size 0 (by go_simp)
 have c1_0_1 := zci w1 w.heap.size 1 (0) (by go_simp)
 have g1_0_1 := zfe w1 w.heap.size 1 (by go_simp)
 clear hc1 hf1
 go_wp2
 refine bodyPost_ret (v := (.agg #[.int .i64 (4294967296), .int .i64 (4294967296)])) (by simp only [results, Try.results27]; go_simp) rfl ⟨rfl, blw_⟩
theorem whole_neg (w : World) : Calls Try.prog 27 #[.int .i64 (-1)] w fun e w' => e = .returned (.agg #[.int .i64 (-4294967296), .int .i64 (-4294967296)]) ∧ Below w.heap.size w w' := by
 have PT := hide (fun x W => pointU_any x W)
 go_enter Try.func27, Try.ntmps27
 go_wp2_with fail
 refine (PT.out _ _).mono ?_
 rintro e w1 ⟨rfl, hb1⟩
 obtain ⟨hc1, hf1⟩ := bcell hb1
 have hz1 := hb1.size
 try simp only [World.size_alloc, World.size_setCell] at hz1
 try refine zw1 w w1 (by omega) fun _ _ => ?_
 have c1_0_0 := zci w1 w.heap.size 0 (0) (by go_simp)
 have g1_0_0 := zfe w1 w.heap.size 0 (by go_simp)
 have c1_0_1 := zci w1 w.heap.size 1 (0) (by go_simp)
 have g1_0_1 := zfe w1 w.heap.size 1 (by go_simp)
 clear hc1 hf1
 go_wp2
 refine bodyPost_ret (v := (.agg #[.int .i64 (-4294967296), .int .i64 (-4294967296)])) (by simp only [results, Try.results27]; go_simp) rfl ⟨rfl, blw_⟩
theorem lift_any (v push pull tm t : FD.Sp) (time : Int) (t0 : tm.lo = time) (t1 : tm.hi = time) (w : World) :
  Calls Try.prog 19 #[clv v push pull time, FD.spv t] w fun e w' => e = .returned (.tuple #[FD.spv (lfQ v push pull tm t).1, .int .i64 (lfQ v push pull tm t).2]) ∧ Below w.heap.size w w' := by
 by_cases h : (stT t).2 = 0
 ·exact lift_good v push pull tm t time t0 t1 h w
 ·exact lift_bad v push pull tm t time h w
def lfV (v push pull tm t : FD.Sp) (time : Int) : FD.Sp × Int := if okC v push pull time then lfQ v push pull tm t else (.zero, 2)
set_option maxHeartbeats 2000000 in
theorem Lift_any (v push pull tm t : FD.Sp) (time : Int) (t0 : tm.lo = time) (t1 : tm.hi = time) (w : World) :
  Calls Try.prog 6 #[FD.spv v, FD.spv push, FD.spv pull, .int .i64 time, FD.spv t] w fun e w' => e = .returned (.tuple #[FD.spv (lfV v push pull tm t time).1, .int .i64 (lfV v push pull tm t time).2]) ∧ Below w.heap.size w w' := by
 have IV := hide (fun W => isv_any v push pull time W)
 have LF := hide (fun W => lift_any v push pull tm t time t0 t1 W)
 unfold lfV
 generalize lfQ v push pull tm t = q at *
 clear t0 t1
 cases hk : okC v push pull time
 ·rw [hk] at IV
  simp only [Bool.false_eq_true, if_false]
  go_enter Try.func6, Try.ntmps6
  go_wp2_with fail
  refine (IV.out _).mono ?_
  rintro e w1 ⟨rfl, hb1⟩
  obtain ⟨hc1, hf1⟩ := bcell hb1
  have hz1 := hb1.size
  try simp only [World.size_alloc, World.size_setCell] at hz1
  try refine zw5 w w1 (by omega) fun _ _ _ _ _ _ _ _ _ _ => ?_
  have c1_0_0 := zci w1 w.heap.size 0 (v.lo) (by go_simp)
  have c1_0_1 := zci w1 w.heap.size 1 (v.hi) (by go_simp)
  have c1_1_0 := zci w1 (w.heap.size + 1 + 1 + 1 + 1) 0 (0) (by go_simp)
  have g1_1_0 := zfe w1 (w.heap.size + 1 + 1 + 1 + 1) 0 (by go_simp)
  have c1_1_1 := zci w1 (w.heap.size + 1 + 1 + 1 + 1) 1 (0) (by go_simp)
  have g1_1_1 := zfe w1 (w.heap.size + 1 + 1 + 1 + 1) 1 (by go_simp)
  clear hc1 hf1
  go_wp2
  refine bodyPost_ret (v := .tuple #[.agg #[.int .i64 (0), .int .i64 (0)], .int .i64 2]) (by simp only [results, Try.results6]; go_simp) rfl ⟨rfl, blw_⟩
 ·rw [hk] at IV
  simp only [if_true]
  go_enter Try.func6, Try.ntmps6
  go_wp2_with fail
  refine (IV.out _).mono ?_
  rintro e w1 ⟨rfl, hb1⟩
  obtain ⟨hc1, hf1⟩ := bcell hb1
  have hz1 := hb1.size
  try simp only [World.size_alloc, World.size_setCell] at hz1
  try refine zw6 w w1 (by omega) fun _ _ _ _ _ _ _ _ _ _ _ _ => ?_
  have c1_0_0 := zci w1 (w.heap.size + 1 + 1 + 1) 0 (t.lo) (by go_simp)
  have c1_0_1 := zci w1 (w.heap.size + 1 + 1 + 1) 1 (t.hi) (by go_simp)
  have c1_1_0 := zci w1 (w.heap.size + 1 + 1 + 1 + 1) 0 (0) (by go_simp)
  have g1_1_0 := zfe w1 (w.heap.size + 1 + 1 + 1 + 1) 0 (by go_simp)
  have c1_1_1 := zci w1 (w.heap.size + 1 + 1 + 1 + 1) 1 (0) (by go_simp)
  have g1_1_1 := zfe w1 (w.heap.size + 1 + 1 + 1 + 1) 1 (by go_simp)
  have c1_2_0 := zci w1 (w.heap.size + 1 + 1 + 1 + 1 + 1) 0 (v.lo) (by go_simp)
  have c1_2_1 := zci w1 (w.heap.size + 1 + 1 + 1 + 1 + 1) 1 (v.hi) (by go_simp)
  have c1_2_2 := zci w1 (w.heap.size + 1 + 1 + 1 + 1 + 1) 2 (push.lo) (by go_simp)
  have c1_2_3 := zci w1 (w.heap.size + 1 + 1 + 1 + 1 + 1) 3 (push.hi) (by go_simp)
  have c1_2_4 := zci w1 (w.heap.size + 1 + 1 + 1 + 1 + 1) 4 (pull.lo) (by go_simp)
  have c1_2_5 := zci w1 (w.heap.size + 1 + 1 + 1 + 1 + 1) 5 (pull.hi) (by go_simp)
  have c1_2_6 := zci w1 (w.heap.size + 1 + 1 + 1 + 1 + 1) 6 (time) (by go_simp)
  clear hc1 hf1
  go_wp2_with fail
  refine (LF.out _).mono ?_
  rintro e w2 ⟨rfl, hb2⟩
  obtain ⟨hc2, hf2⟩ := bcell hb2
  have hz2 := hb2.size
  try simp only [World.size_alloc, World.size_setCell] at hz2
  try refine zw6 w w2 (by omega) fun _ _ _ _ _ _ _ _ _ _ _ _ => ?_
  have c2_0_0 := zci w2 (w.heap.size + 1 + 1 + 1) 0 (t.lo) (by go_simp)
  have c2_0_1 := zci w2 (w.heap.size + 1 + 1 + 1) 1 (t.hi) (by go_simp)
  have c2_1_0 := zci w2 (w.heap.size + 1 + 1 + 1 + 1) 0 (0) (by go_simp)
  have g2_1_0 := zfe w2 (w.heap.size + 1 + 1 + 1 + 1) 0 (by go_simp)
  have c2_1_1 := zci w2 (w.heap.size + 1 + 1 + 1 + 1) 1 (0) (by go_simp)
  have g2_1_1 := zfe w2 (w.heap.size + 1 + 1 + 1 + 1) 1 (by go_simp)
  have c2_2_0 := zci w2 (w.heap.size + 1 + 1 + 1 + 1 + 1) 0 (v.lo) (by go_simp)
  have c2_2_1 := zci w2 (w.heap.size + 1 + 1 + 1 + 1 + 1) 1 (v.hi) (by go_simp)
  have c2_2_2 := zci w2 (w.heap.size + 1 + 1 + 1 + 1 + 1) 2 (push.lo) (by go_simp)
  have c2_2_3 := zci w2 (w.heap.size + 1 + 1 + 1 + 1 + 1) 3 (push.hi) (by go_simp)
  have c2_2_4 := zci w2 (w.heap.size + 1 + 1 + 1 + 1 + 1) 4 (pull.lo) (by go_simp)
  have c2_2_5 := zci w2 (w.heap.size + 1 + 1 + 1 + 1 + 1) 5 (pull.hi) (by go_simp)
  have c2_2_6 := zci w2 (w.heap.size + 1 + 1 + 1 + 1 + 1) 6 (time) (by go_simp)
  clear hc2 hf2 c1_0_0 c1_0_1 c1_1_0 g1_1_0 c1_1_1 g1_1_1 c1_2_0 c1_2_1 c1_2_2 c1_2_3 c1_2_4 c1_2_5 c1_2_6
  go_wp2
  refine bodyPost_ret (v := .tuple #[.agg #[.int .i64 (q.1.lo), .int .i64 (q.1.hi)], .int .i64 q.2]) (by simp only [results, Try.results6]; go_simp) rfl ⟨rfl, blw_⟩

end Sw
end
section
set_option maxRecDepth 100000
open Go.RowKit
open FP
namespace Sw

set_option maxHeartbeats 2000000 in
theorem rLift_bad (v push pull tm t : FD.Sp) (time : Int) (hk : okC v push pull time = false) (w : World) :
  Calls Try.prog 7 #[FD.spv v, FD.spv push, FD.spv pull, .int .i64 time, FD.spv t] w fun e w' => e = .returned (.tuple #[FD.spv (((FD.Sp.zero, 2) : FD.Sp × Int)).1, .int .i64 (((FD.Sp.zero, 2) : FD.Sp × Int)).2]) ∧ Below w.heap.size w w' := by
 have IV := hide (fun W => lifted_any v push pull time W)
 rw [hk] at IV
 go_enter Try.func7, Try.ntmps7
 go_wp2_with fail
 refine (IV.out _).mono ?_
 rintro e w1 ⟨rfl, hb1⟩
 obtain ⟨hc1, hf1⟩ := bcell hb1
 have hz1 := hb1.size
 try simp only [World.size_alloc, World.size_setCell] at hz1
 try refine zw5 w w1 (by omega) fun _ _ _ _ _ _ _ _ _ _ => ?_
 have c1_0_0 := zci w1 (w.heap.size + 1 + 1 + 1 + 1) 0 (0) (by go_simp)
 have g1_0_0 := zfe w1 (w.heap.size + 1 + 1 + 1 + 1) 0 (by go_simp)
 have c1_0_1 := zci w1 (w.heap.size + 1 + 1 + 1 + 1) 1 (0) (by go_simp)
 have g1_0_1 := zfe w1 (w.heap.size + 1 + 1 + 1 + 1) 1 (by go_simp)
 clear hc1 hf1
 go_wp2
 refine bodyPost_ret (v := .tuple #[.agg #[.int .i64 (0), .int .i64 (0)], .int .i64 2]) (by simp only [results, Try.results7]; go_simp) rfl ⟨rfl, blw_⟩
set_option maxHeartbeats 2000000 in
theorem rLift_turn (v push pull tm t : FD.Sp) (time : Int) (hk : okC v push pull time = true) (h : ¬ (stT t).2 = 0) (w : World) :
  Calls Try.prog 7 #[FD.spv v, FD.spv push, FD.spv pull, .int .i64 time, FD.spv t] w fun e w' => e = .returned (.tuple #[FD.spv (((FD.Sp.zero, (stT t).2) : FD.Sp × Int)).1, .int .i64 (((FD.Sp.zero, (stT t).2) : FD.Sp × Int)).2]) ∧ Below w.heap.size w w' := by
 have IV := hide (fun W => lifted_any v push pull time W)
 rw [hk] at IV
 have GT := hide (hT t)
 generalize stT t = q at *
 obtain ⟨⟨s0, s1, s2⟩, se⟩ := q
 have hs1 : (se == 0) = false := by simpa using h
 have hs2 : (se != 0) = true := by simpa using h
 dsimp only at GT ⊢
 go_enter Try.func7, Try.ntmps7
 go_wp2_with fail
 refine (IV.out _).mono ?_
 rintro e w1 ⟨rfl, hb1⟩
 obtain ⟨hc1, hf1⟩ := bcell hb1
 have hz1 := hb1.size
 try simp only [World.size_alloc, World.size_setCell] at hz1
 try refine zw5 w w1 (by omega) fun _ _ _ _ _ _ _ _ _ _ => ?_
 have c1_0_0 := zci w1 (w.heap.size + 1 + 1 + 1) 0 (t.lo) (by go_simp)
 have c1_0_1 := zci w1 (w.heap.size + 1 + 1 + 1) 1 (t.hi) (by go_simp)
 have c1_1_0 := zci w1 (w.heap.size + 1 + 1 + 1 + 1) 0 (0) (by go_simp)
 have g1_1_0 := zfe w1 (w.heap.size + 1 + 1 + 1 + 1) 0 (by go_simp)
 have c1_1_1 := zci w1 (w.heap.size + 1 + 1 + 1 + 1) 1 (0) (by go_simp)
 have g1_1_1 := zfe w1 (w.heap.size + 1 + 1 + 1 + 1) 1 (by go_simp)
 clear hc1 hf1
 go_wp2_with fail
 refine (GT.out _).mono ?_
 rintro e w2 ⟨rfl, hb2⟩
 obtain ⟨hc2, hf2⟩ := bcell hb2
 have hz2 := hb2.size
 try simp only [World.size_alloc, World.size_setCell] at hz2
 try refine zw5 w w2 (by omega) fun _ _ _ _ _ _ _ _ _ _ => ?_
 have c2_0_0 := zci w2 (w.heap.size + 1 + 1 + 1) 0 (t.lo) (by go_simp)
 have c2_0_1 := zci w2 (w.heap.size + 1 + 1 + 1) 1 (t.hi) (by go_simp)
 have c2_1_0 := zci w2 (w.heap.size + 1 + 1 + 1 + 1) 0 (0) (by go_simp)
 have g2_1_0 := zfe w2 (w.heap.size + 1 + 1 + 1 + 1) 0 (by go_simp)
 have c2_1_1 := zci w2 (w.heap.size + 1 + 1 + 1 + 1) 1 (0) (by go_simp)
 have g2_1_1 := zfe w2 (w.heap.size + 1 + 1 + 1 + 1) 1 (by go_simp)
 clear hc2 hf2 c1_0_0 c1_0_1 c1_1_0 g1_1_0 c1_1_1 g1_1_1
 go_wp2
 refine bodyPost_ret (v := .tuple #[.agg #[.int .i64 (0), .int .i64 (0)], .int .i64 se]) (by simp only [results, Try.results7]; go_simp) rfl ⟨rfl, blw_⟩

set_option maxHeartbeats 4000000 in
theorem rLift_good (v push pull tm t : FD.Sp) (time : Int) (t0 : tm.lo = time) (t1 : tm.hi = time) (hk : okC v push pull time = true) (h : (stT t).2 = 0) (w : World) :
  Calls Try.prog 7 #[FD.spv v, FD.spv push, FD.spv pull, .int .i64 time, FD.spv t] w fun e w' => e = .returned (.tuple #[FD.spv (res1 (chL v push pull tm (stT t).1)).1, .int .i64 (res1 (chL v push pull tm (stT t).1)).2]) ∧ Below w.heap.size w w' := by
 have IV := hide (fun W => lifted_any v push pull time W)
 rw [hk] at IV
 have GT := hide (hT t)
 rw [h] at GT
 generalize (stT t).1 = s at *
 obtain ⟨q1, e1⟩ : ∃ q, ck 0 (stM push s) = q := ⟨_, rfl⟩
 obtain ⟨q2, e2⟩ : ∃ q, ck q1.2 (stS q1.1 pull) = q := ⟨_, rfl⟩
 obtain ⟨q3, e3⟩ : ∃ q, ck q2.2 (stM q2.1 tm) = q := ⟨_, rfl⟩
 obtain ⟨q4, e4⟩ : ∃ q, ck q3.2 (stepA v q3.1) = q := ⟨_, rfl⟩
 have ec : chL v push pull tm s = q4 := by rw [← e4, ← e3, ← e2, ← e1]; rfl
 rw [ec]
 obtain ⟨rr, hr⟩ : ∃ r, res1 q4 = r := ⟨_, rfl⟩
 rw [hr]
 have F1 := hide (fun (z : Nat) => C_use (w0 := w) (z := z) cM e1)
 have F2 := hide (fun (z : Nat) => C_use (w0 := w) (z := z) cS e2)
 have F3 := hide (fun (z : Nat) => C_use (w0 := w) (z := z) cM e3)
 have F4 := hide (fun (z : Nat) => C_use (w0 := w) (z := z) cA e4)
 have PT := hide (fun (z : Nat) => P_use (w0 := w) (z := z) (x := tm) t0 t1)
 clear hk h ec e1 e2 e3 e4 t0 t1
 go_enter Try.func7, Try.ntmps7
 go_wp2_with fail
 refine (IV.out _).mono ?_
 rintro e w1 ⟨rfl, hb1⟩
 obtain ⟨hc1, hf1⟩ := bcell hb1
 have hz1 := hb1.size
 try simp only [World.size_alloc, World.size_setCell] at hz1
 try refine zw5 w w1 (by omega) fun _ _ _ _ _ _ _ _ _ _ => ?_
 have c1_0_0 := zci w1 w.heap.size 0 (v.lo) (by go_simp)
 have g1_0_0 := zfe w1 w.heap.size 0 (by go_simp)
 have c1_0_1 := zci w1 w.heap.size 1 (v.hi) (by go_simp)
 have g1_0_1 := zfe w1 w.heap.size 1 (by go_simp)
 have c1_1_0 := zci w1 (w.heap.size + 1) 0 (push.lo) (by go_simp)
 have g1_1_0 := zfe w1 (w.heap.size + 1) 0 (by go_simp)
 have c1_1_1 := zci w1 (w.heap.size + 1) 1 (push.hi) (by go_simp)
 have g1_1_1 := zfe w1 (w.heap.size + 1) 1 (by go_simp)
 have c1_2_0 := zci w1 (w.heap.size + 1 + 1) 0 (pull.lo) (by go_simp)
 have g1_2_0 := zfe w1 (w.heap.size + 1 + 1) 0 (by go_simp)
 have c1_2_1 := zci w1 (w.heap.size + 1 + 1) 1 (pull.hi) (by go_simp)
 have g1_2_1 := zfe w1 (w.heap.size + 1 + 1) 1 (by go_simp)
 have c1_3_0 := zci w1 (w.heap.size + 1 + 1 + 1) 0 (t.lo) (by go_simp)
 have c1_3_1 := zci w1 (w.heap.size + 1 + 1 + 1) 1 (t.hi) (by go_simp)
 have c1_4_0 := zci w1 (w.heap.size + 1 + 1 + 1 + 1) 0 (0) (by go_simp)
 have g1_4_0 := zfe w1 (w.heap.size + 1 + 1 + 1 + 1) 0 (by go_simp)
 have c1_4_1 := zci w1 (w.heap.size + 1 + 1 + 1 + 1) 1 (0) (by go_simp)
 have g1_4_1 := zfe w1 (w.heap.size + 1 + 1 + 1 + 1) 1 (by go_simp)
 clear hc1 hf1
 go_wp2_with fail
 refine (GT.out _).mono ?_
 rintro e w2 ⟨rfl, hb2⟩
 obtain ⟨hc2, hf2⟩ := bcell hb2
 have hz2 := hb2.size
 try simp only [World.size_alloc, World.size_setCell] at hz2
 try refine zw5 w w2 (by omega) fun _ _ _ _ _ _ _ _ _ _ => ?_
 have c2_0_0 := zci w2 w.heap.size 0 (v.lo) (by go_simp)
 have g2_0_0 := zfe w2 w.heap.size 0 (by go_simp)
 have c2_0_1 := zci w2 w.heap.size 1 (v.hi) (by go_simp)
 have g2_0_1 := zfe w2 w.heap.size 1 (by go_simp)
 have c2_1_0 := zci w2 (w.heap.size + 1) 0 (push.lo) (by go_simp)
 have g2_1_0 := zfe w2 (w.heap.size + 1) 0 (by go_simp)
 have c2_1_1 := zci w2 (w.heap.size + 1) 1 (push.hi) (by go_simp)
 have g2_1_1 := zfe w2 (w.heap.size + 1) 1 (by go_simp)
 have c2_2_0 := zci w2 (w.heap.size + 1 + 1) 0 (pull.lo) (by go_simp)
 have g2_2_0 := zfe w2 (w.heap.size + 1 + 1) 0 (by go_simp)
 have c2_2_1 := zci w2 (w.heap.size + 1 + 1) 1 (pull.hi) (by go_simp)
 have g2_2_1 := zfe w2 (w.heap.size + 1 + 1) 1 (by go_simp)
 have c2_3_0 := zci w2 (w.heap.size + 1 + 1 + 1) 0 (t.lo) (by go_simp)
 have c2_3_1 := zci w2 (w.heap.size + 1 + 1 + 1) 1 (t.hi) (by go_simp)
 have c2_4_0 := zci w2 (w.heap.size + 1 + 1 + 1 + 1) 0 (0) (by go_simp)
 have g2_4_0 := zfe w2 (w.heap.size + 1 + 1 + 1 + 1) 0 (by go_simp)
 have c2_4_1 := zci w2 (w.heap.size + 1 + 1 + 1 + 1) 1 (0) (by go_simp)
 have g2_4_1 := zfe w2 (w.heap.size + 1 + 1 + 1 + 1) 1 (by go_simp)
 clear hc2 hf2 c1_0_0 g1_0_0 c1_0_1 g1_0_1 c1_1_0 g1_1_0 c1_1_1 g1_1_1 c1_2_0 g1_2_0 c1_2_1 g1_2_1 c1_3_0 c1_3_1 c1_4_0 g1_4_0 c1_4_1 g1_4_1
 go_upto_region 8 with fail

 have y0_1 : w.heap.size < w2.heap.size + 1 := by omega
 have y0_2 : w.heap.size < w2.heap.size + 1 + 1 := by omega
 have y0_3 : w.heap.size < w2.heap.size + 1 + 1 + 1 := by omega
 have y1_1 : w.heap.size + 1 < w2.heap.size + 1 := by omega
 have y1_2 : w.heap.size + 1 < w2.heap.size + 1 + 1 := by omega
 have y1_3 : w.heap.size + 1 < w2.heap.size + 1 + 1 + 1 := by omega
 have y2_1 : w.heap.size + 1 + 1 < w2.heap.size + 1 := by omega
 have y2_2 : w.heap.size + 1 + 1 < w2.heap.size + 1 + 1 := by omega
 have y2_3 : w.heap.size + 1 + 1 < w2.heap.size + 1 + 1 + 1 := by omega
 have y3_1 : w.heap.size + 1 + 1 + 1 < w2.heap.size + 1 := by omega
 have y3_2 : w.heap.size + 1 + 1 + 1 < w2.heap.size + 1 + 1 := by omega
 have y3_3 : w.heap.size + 1 + 1 + 1 < w2.heap.size + 1 + 1 + 1 := by omega
 have y4_1 : w.heap.size + 1 + 1 + 1 + 1 < w2.heap.size + 1 := by omega
 have y4_2 : w.heap.size + 1 + 1 + 1 + 1 < w2.heap.size + 1 + 1 := by omega
 have y4_3 : w.heap.size + 1 + 1 + 1 + 1 < w2.heap.size + 1 + 1 + 1 := by omega
 have hE : ES w (((w2.alloc (.cells #[.int .i64 (okI (tnB t.lo t.hi) (tcL t.lo t.hi)), .int .i64 (okI (tnB t.lo t.hi) (tcH t.lo t.hi))] 24)).alloc (.cells #[.int .i64 s.lo, .int .i64 s.hi] 24)).alloc (.cells #[.int .i64 0] 64)) (w2.heap.size + 1 + 1) 0 [(w2.heap.size + 1, s), (w.heap.size, v), (w.heap.size + 1, push), (w.heap.size + 1 + 1, pull), (w.heap.size + 1 + 1 + 1 + 1, .zero)] := by
  refine ⟨blw_, by omega, by simp only [World.size_alloc]; omega, by go_simp, by go_simp, ?_, ?_⟩
  ·intro p hp
   simp only [List.mem_cons, List.not_mem_nil, or_false] at hp
   rcases hp with rfl | rfl | rfl | rfl | rfl
   all_goals (refine ⟨⟨?_, ?_, ?_, ?_, ?_⟩, ?_, ?_⟩)
   all_goals first | omega | (simp only [World.size_alloc, World.size_setCell]; omega) | (go_simp; done) | (simp only [FD.Sp.zero]; go_simp; done) | (dsimp only; trace_state; omega)
  ·simp only [List.pairwise_cons, List.mem_cons, List.not_mem_nil, or_false, forall_eq_or_imp, forall_eq, List.Pairwise.nil, and_true, false_imp_iff, implies_true]
   omega
 clear c2_0_0 c2_0_1 c2_1_0 c2_1_1 c2_2_0 c2_2_1 c2_3_0 c2_3_1 c2_4_0 c2_4_1 g2_4_0 g2_4_1 g2_0_0 g2_0_1 g2_1_0 g2_1_1 g2_2_0 g2_2_1 GT hb1 hb2 IV
 generalize (((w2.alloc (.cells #[.int .i64 (okI (tnB t.lo t.hi) (tcL t.lo t.hi)), .int .i64 (okI (tnB t.lo t.hi) (tcH t.lo t.hi))] 24)).alloc (.cells #[.int .i64 s.lo, .int .i64 s.hi] 24)).alloc (.cells #[.int .i64 0] 64)) = w3 at *
 go_upto_region 8 with fail
 go_cut [17] from 38 to 51 (fun s17 wx => ∃ p : Nat, s17 = .pointer (some ⟨p, 0, none⟩) ∧ ES w wx (w2.heap.size + 1 + 1) q4.2 ((p, q4.1) :: [(w2.heap.size + 1, s), (w.heap.size, v), (w.heap.size + 1, push), (w.heap.size + 1 + 1, pull), (w.heap.size + 1 + 1 + 1 + 1, .zero)]))
 case first =>
  have hP_a := hE.drew
  have hQ_a := hE.new0.drew
  go_region_held3 (fun w' => w'.cell? ⟨w2.heap.size + 1, 0, none⟩ = some (.int .i64 s.lo) ∧ w'.cell? ⟨w2.heap.size + 1, 1, none⟩ = some (.int .i64 s.hi) ∧ w'.cell? ⟨w.heap.size, 0, none⟩ = some (.int .i64 v.lo) ∧ w'.cell? ⟨w.heap.size, 1, none⟩ = some (.int .i64 v.hi) ∧ w'.cell? ⟨w.heap.size + 1, 0, none⟩ = some (.int .i64 push.lo) ∧ w'.cell? ⟨w.heap.size + 1, 1, none⟩ = some (.int .i64 push.hi) ∧ w'.cell? ⟨w.heap.size + 1 + 1, 0, none⟩ = some (.int .i64 pull.lo) ∧ w'.cell? ⟨w.heap.size + 1 + 1, 1, none⟩ = some (.int .i64 pull.hi))
   (first | exact ⟨(hQ_a.at (p := w2.heap.size + 1) (x := s) (by simp) |>.2.1), (hQ_a.at (p := w2.heap.size + 1) (x := s) (by simp) |>.2.2.1), (hQ_a.at (p := w.heap.size) (x := v) (by simp) |>.2.1), (hQ_a.at (p := w.heap.size) (x := v) (by simp) |>.2.2.1), (hQ_a.at (p := w.heap.size + 1) (x := push) (by simp) |>.2.1), (hQ_a.at (p := w.heap.size + 1) (x := push) (by simp) |>.2.2.1), (hQ_a.at (p := w.heap.size + 1 + 1) (x := pull) (by simp) |>.2.1), (hQ_a.at (p := w.heap.size + 1 + 1) (x := pull) (by simp) |>.2.2.1)⟩ | exact ⟨((hP_a4.sethead q4.1).at (p := w2.heap.size + 1) (x := s) (by simp) |>.2.1), ((hP_a4.sethead q4.1).at (p := w2.heap.size + 1) (x := s) (by simp) |>.2.2.1), ((hP_a4.sethead q4.1).at (p := w.heap.size) (x := v) (by simp) |>.2.1), ((hP_a4.sethead q4.1).at (p := w.heap.size) (x := v) (by simp) |>.2.2.1), ((hP_a4.sethead q4.1).at (p := w.heap.size + 1) (x := push) (by simp) |>.2.1), ((hP_a4.sethead q4.1).at (p := w.heap.size + 1) (x := push) (by simp) |>.2.2.1), ((hP_a4.sethead q4.1).at (p := w.heap.size + 1 + 1) (x := pull) (by simp) |>.2.1), ((hP_a4.sethead q4.1).at (p := w.heap.size + 1 + 1) (x := pull) (by simp) |>.2.2.1)⟩ | exact ⟨((hP_a4.new q4.1).at (p := w2.heap.size + 1) (x := s) (by simp) |>.2.1), ((hP_a4.new q4.1).at (p := w2.heap.size + 1) (x := s) (by simp) |>.2.2.1), ((hP_a4.new q4.1).at (p := w.heap.size) (x := v) (by simp) |>.2.1), ((hP_a4.new q4.1).at (p := w.heap.size) (x := v) (by simp) |>.2.2.1), ((hP_a4.new q4.1).at (p := w.heap.size + 1) (x := push) (by simp) |>.2.1), ((hP_a4.new q4.1).at (p := w.heap.size + 1) (x := push) (by simp) |>.2.2.1), ((hP_a4.new q4.1).at (p := w.heap.size + 1 + 1) (x := pull) (by simp) |>.2.1), ((hP_a4.new q4.1).at (p := w.heap.size + 1 + 1) (x := pull) (by simp) |>.2.2.1)⟩ | exact ⟨(hP_a4.new0.at (p := w2.heap.size + 1) (x := s) (by simp) |>.2.1), (hP_a4.new0.at (p := w2.heap.size + 1) (x := s) (by simp) |>.2.2.1), (hP_a4.new0.at (p := w.heap.size) (x := v) (by simp) |>.2.1), (hP_a4.new0.at (p := w.heap.size) (x := v) (by simp) |>.2.2.1), (hP_a4.new0.at (p := w.heap.size + 1) (x := push) (by simp) |>.2.1), (hP_a4.new0.at (p := w.heap.size + 1) (x := push) (by simp) |>.2.2.1), (hP_a4.new0.at (p := w.heap.size + 1 + 1) (x := pull) (by simp) |>.2.1), (hP_a4.new0.at (p := w.heap.size + 1 + 1) (x := pull) (by simp) |>.2.2.1)⟩ | exact ⟨(hP_a4.at (p := w2.heap.size + 1) (x := s) (by simp) |>.2.1), (hP_a4.at (p := w2.heap.size + 1) (x := s) (by simp) |>.2.2.1), (hP_a4.at (p := w.heap.size) (x := v) (by simp) |>.2.1), (hP_a4.at (p := w.heap.size) (x := v) (by simp) |>.2.2.1), (hP_a4.at (p := w.heap.size + 1) (x := push) (by simp) |>.2.1), (hP_a4.at (p := w.heap.size + 1) (x := push) (by simp) |>.2.2.1), (hP_a4.at (p := w.heap.size + 1 + 1) (x := pull) (by simp) |>.2.1), (hP_a4.at (p := w.heap.size + 1 + 1) (x := pull) (by simp) |>.2.2.1)⟩ | exact ⟨(hP_a3.new0.at (p := w2.heap.size + 1) (x := s) (by simp) |>.2.1), (hP_a3.new0.at (p := w2.heap.size + 1) (x := s) (by simp) |>.2.2.1), (hP_a3.new0.at (p := w.heap.size) (x := v) (by simp) |>.2.1), (hP_a3.new0.at (p := w.heap.size) (x := v) (by simp) |>.2.2.1), (hP_a3.new0.at (p := w.heap.size + 1) (x := push) (by simp) |>.2.1), (hP_a3.new0.at (p := w.heap.size + 1) (x := push) (by simp) |>.2.2.1), (hP_a3.new0.at (p := w.heap.size + 1 + 1) (x := pull) (by simp) |>.2.1), (hP_a3.new0.at (p := w.heap.size + 1 + 1) (x := pull) (by simp) |>.2.2.1)⟩ | exact ⟨(hP_a3.at (p := w2.heap.size + 1) (x := s) (by simp) |>.2.1), (hP_a3.at (p := w2.heap.size + 1) (x := s) (by simp) |>.2.2.1), (hP_a3.at (p := w.heap.size) (x := v) (by simp) |>.2.1), (hP_a3.at (p := w.heap.size) (x := v) (by simp) |>.2.2.1), (hP_a3.at (p := w.heap.size + 1) (x := push) (by simp) |>.2.1), (hP_a3.at (p := w.heap.size + 1) (x := push) (by simp) |>.2.2.1), (hP_a3.at (p := w.heap.size + 1 + 1) (x := pull) (by simp) |>.2.1), (hP_a3.at (p := w.heap.size + 1 + 1) (x := pull) (by simp) |>.2.2.1)⟩ | exact ⟨(hP_a2.new0.at (p := w2.heap.size + 1) (x := s) (by simp) |>.2.1), (hP_a2.new0.at (p := w2.heap.size + 1) (x := s) (by simp) |>.2.2.1), (hP_a2.new0.at (p := w.heap.size) (x := v) (by simp) |>.2.1), (hP_a2.new0.at (p := w.heap.size) (x := v) (by simp) |>.2.2.1), (hP_a2.new0.at (p := w.heap.size + 1) (x := push) (by simp) |>.2.1), (hP_a2.new0.at (p := w.heap.size + 1) (x := push) (by simp) |>.2.2.1), (hP_a2.new0.at (p := w.heap.size + 1 + 1) (x := pull) (by simp) |>.2.1), (hP_a2.new0.at (p := w.heap.size + 1 + 1) (x := pull) (by simp) |>.2.2.1)⟩ | exact ⟨(hP_a2.at (p := w2.heap.size + 1) (x := s) (by simp) |>.2.1), (hP_a2.at (p := w2.heap.size + 1) (x := s) (by simp) |>.2.2.1), (hP_a2.at (p := w.heap.size) (x := v) (by simp) |>.2.1), (hP_a2.at (p := w.heap.size) (x := v) (by simp) |>.2.2.1), (hP_a2.at (p := w.heap.size + 1) (x := push) (by simp) |>.2.1), (hP_a2.at (p := w.heap.size + 1) (x := push) (by simp) |>.2.2.1), (hP_a2.at (p := w.heap.size + 1 + 1) (x := pull) (by simp) |>.2.1), (hP_a2.at (p := w.heap.size + 1 + 1) (x := pull) (by simp) |>.2.2.1)⟩ | exact ⟨(hP_a1.new0.at (p := w2.heap.size + 1) (x := s) (by simp) |>.2.1), (hP_a1.new0.at (p := w2.heap.size + 1) (x := s) (by simp) |>.2.2.1), (hP_a1.new0.at (p := w.heap.size) (x := v) (by simp) |>.2.1), (hP_a1.new0.at (p := w.heap.size) (x := v) (by simp) |>.2.2.1), (hP_a1.new0.at (p := w.heap.size + 1) (x := push) (by simp) |>.2.1), (hP_a1.new0.at (p := w.heap.size + 1) (x := push) (by simp) |>.2.2.1), (hP_a1.new0.at (p := w.heap.size + 1 + 1) (x := pull) (by simp) |>.2.1), (hP_a1.new0.at (p := w.heap.size + 1 + 1) (x := pull) (by simp) |>.2.2.1)⟩ | exact ⟨(hP_a1.at (p := w2.heap.size + 1) (x := s) (by simp) |>.2.1), (hP_a1.at (p := w2.heap.size + 1) (x := s) (by simp) |>.2.2.1), (hP_a1.at (p := w.heap.size) (x := v) (by simp) |>.2.1), (hP_a1.at (p := w.heap.size) (x := v) (by simp) |>.2.2.1), (hP_a1.at (p := w.heap.size + 1) (x := push) (by simp) |>.2.1), (hP_a1.at (p := w.heap.size + 1) (x := push) (by simp) |>.2.2.1), (hP_a1.at (p := w.heap.size + 1 + 1) (x := pull) (by simp) |>.2.1), (hP_a1.at (p := w.heap.size + 1 + 1) (x := pull) (by simp) |>.2.2.1)⟩ | exact ⟨(hP_a0.new0.at (p := w2.heap.size + 1) (x := s) (by simp) |>.2.1), (hP_a0.new0.at (p := w2.heap.size + 1) (x := s) (by simp) |>.2.2.1), (hP_a0.new0.at (p := w.heap.size) (x := v) (by simp) |>.2.1), (hP_a0.new0.at (p := w.heap.size) (x := v) (by simp) |>.2.2.1), (hP_a0.new0.at (p := w.heap.size + 1) (x := push) (by simp) |>.2.1), (hP_a0.new0.at (p := w.heap.size + 1) (x := push) (by simp) |>.2.2.1), (hP_a0.new0.at (p := w.heap.size + 1 + 1) (x := pull) (by simp) |>.2.1), (hP_a0.new0.at (p := w.heap.size + 1 + 1) (x := pull) (by simp) |>.2.2.1)⟩ | exact ⟨(hP_a0.at (p := w2.heap.size + 1) (x := s) (by simp) |>.2.1), (hP_a0.at (p := w2.heap.size + 1) (x := s) (by simp) |>.2.2.1), (hP_a0.at (p := w.heap.size) (x := v) (by simp) |>.2.1), (hP_a0.at (p := w.heap.size) (x := v) (by simp) |>.2.2.1), (hP_a0.at (p := w.heap.size + 1) (x := push) (by simp) |>.2.1), (hP_a0.at (p := w.heap.size + 1) (x := push) (by simp) |>.2.2.1), (hP_a0.at (p := w.heap.size + 1 + 1) (x := pull) (by simp) |>.2.1), (hP_a0.at (p := w.heap.size + 1 + 1) (x := pull) (by simp) |>.2.2.1)⟩ | exact ⟨(hP_a.new0.at (p := w2.heap.size + 1) (x := s) (by simp) |>.2.1), (hP_a.new0.at (p := w2.heap.size + 1) (x := s) (by simp) |>.2.2.1), (hP_a.new0.at (p := w.heap.size) (x := v) (by simp) |>.2.1), (hP_a.new0.at (p := w.heap.size) (x := v) (by simp) |>.2.2.1), (hP_a.new0.at (p := w.heap.size + 1) (x := push) (by simp) |>.2.1), (hP_a.new0.at (p := w.heap.size + 1) (x := push) (by simp) |>.2.2.1), (hP_a.new0.at (p := w.heap.size + 1 + 1) (x := pull) (by simp) |>.2.1), (hP_a.new0.at (p := w.heap.size + 1 + 1) (x := pull) (by simp) |>.2.2.1)⟩ | exact ⟨(hP_a.at (p := w2.heap.size + 1) (x := s) (by simp) |>.2.1), (hP_a.at (p := w2.heap.size + 1) (x := s) (by simp) |>.2.2.1), (hP_a.at (p := w.heap.size) (x := v) (by simp) |>.2.1), (hP_a.at (p := w.heap.size) (x := v) (by simp) |>.2.2.1), (hP_a.at (p := w.heap.size + 1) (x := push) (by simp) |>.2.1), (hP_a.at (p := w.heap.size + 1) (x := push) (by simp) |>.2.2.1), (hP_a.at (p := w.heap.size + 1 + 1) (x := pull) (by simp) |>.2.1), (hP_a.at (p := w.heap.size + 1 + 1) (x := pull) (by simp) |>.2.2.1)⟩)
   (first | (go_at_call 22; (first | with_reducible refine (F4.out _ _ _ hP_a3).mono ?_ | with_reducible refine (F4.out _ _ _ (hP_a3.new0)).mono ?_); rintro r w_hP_a4 ⟨rfl, hP_a4⟩; obtain ⟨x0_hP_a4, x1_hP_a4, x2_hP_a4, x3_hP_a4, x4_hP_a4⟩ := hP_a4.head) | (go_at_call 23; (first | with_reducible refine (F3.out _ _ _ hP_a2).mono ?_ | with_reducible refine (F3.out _ _ _ (hP_a2.new0)).mono ?_); rintro r w_hP_a3 ⟨rfl, hP_a3⟩; obtain ⟨x0_hP_a3, x1_hP_a3, x2_hP_a3, x3_hP_a3, x4_hP_a3⟩ := hP_a3.head) | (go_at_call 25; (first | with_reducible refine (PT.out _ _ _ _ hP_a1).mono ?_ | with_reducible refine (PT.out _ _ _ _ (hP_a1.new0)).mono ?_); rintro r w_hP_a2 ⟨rfl, hP_a2⟩; obtain ⟨x0_hP_a2, x1_hP_a2, x2_hP_a2, x3_hP_a2, x4_hP_a2⟩ := hP_a2.head) | (go_at_call 24; (first | with_reducible refine (F2.out _ _ _ hP_a0).mono ?_ | with_reducible refine (F2.out _ _ _ (hP_a0.new0)).mono ?_); rintro r w_hP_a1 ⟨rfl, hP_a1⟩; obtain ⟨x0_hP_a1, x1_hP_a1, x2_hP_a1, x3_hP_a1, x4_hP_a1⟩ := hP_a1.head) | (go_at_call 23; (first | with_reducible refine (F1.out _ _ _ hP_a).mono ?_ | with_reducible refine (F1.out _ _ _ (hQ_a)).mono ?_); rintro r w_hP_a0 ⟨rfl, hP_a0⟩; obtain ⟨x0_hP_a0, x1_hP_a0, x2_hP_a0, x3_hP_a0, x4_hP_a0⟩ := hP_a0.head))
  all_goals go_wp2_with fail
  all_goals go_meet
  all_goals (refine ⟨_, rfl, ?_⟩; first | exact hP_a4.sethead q4.1 | exact hP_a4.new q4.1)
 case rest =>
  obtain ⟨p, rfl, hE2⟩ := hcut
  clear F1 F2 F3 F4 PT hE
  obtain ⟨l0, p0, p1, pf0, pf1⟩ := hE2.head
  obtain ⟨lb, b0, b1, fb0, fb1⟩ := hE2.at (p := w.heap.size + 1 + 1 + 1 + 1) (x := .zero) (by simp)
  have hW := hE2.below
  have z0 := hE2.z0
  have lz := hE2.lz
  have zb : ¬ w.heap.size + 1 + 1 + 1 + 1 = w2.heap.size + 1 + 1 := by omega
  have zb' : ¬ w2.heap.size + 1 + 1 = w.heap.size + 1 + 1 + 1 + 1 := by omega
  by_cases he : q4.2 = 0
  ·have hrr : rr = (q4.1, 0) := by rw [← hr]; unfold res1; rw [if_pos he, he]
   subst hrr
   rw [he] at z0
   go_wp2
   refine bodyPost_ret (v := .tuple #[.agg #[.int .i64 (q4.1.lo), .int .i64 (q4.1.hi)], .int .i64 0]) (by simp only [results, Try.results7]; go_simp) rfl ⟨rfl, blw_⟩
  ·have hrr : rr = (.zero, q4.2) := by rw [← hr]; unfold res1; rw [if_neg he]
   subst hrr
   have he' : (q4.2 == 0) = false := by simpa using he
   go_wp2_with fail
   go_region
   all_goals (go_wp2; refine bodyPost_ret (v := (.tuple #[.agg #[.int .i64 (0), .int .i64 (0)], .int .i64 q4.2])) (by simp only [results, Try.results7]; go_simp) rfl ⟨rfl, blw_⟩)
theorem rLift_any (v push pull tm t : FD.Sp) (time : Int) (t0 : tm.lo = time) (t1 : tm.hi = time) (w : World) :
  Calls Try.prog 7 #[FD.spv v, FD.spv push, FD.spv pull, .int .i64 time, FD.spv t] w fun e w' => e = .returned (.tuple #[FD.spv (lfV v push pull tm t time).1, .int .i64 (lfV v push pull tm t time).2]) ∧ Below w.heap.size w w' := by
 unfold lfV
 cases hk : okC v push pull time
 ·exact rLift_bad v push pull tm t time hk w
 ·simp only [if_true]
  unfold lfQ
  by_cases h : (stT t).2 = 0
  ·rw [if_pos h]
   exact rLift_good v push pull tm t time t0 t1 hk h w
  ·rw [if_neg h]
   exact rLift_turn v push pull tm t time hk h w

end Sw
end
section
set_option maxRecDepth 100000
open Go.RowKit
open FP
namespace Sw
def pt (x : Int) (h : FD.In64 x) : FD.Sp := ⟨x, x, h, h⟩
theorem sL_w (x y : Int) : sL x y 4294967296 = x * y / 4294967296 := by unfold sL sN ab; simp
theorem sH_w (x y : Int) : sH x y 4294967296 = cdiv (x * y) 4294967296 := by unfold sH sN ab; simp
theorem fit_of {lo hi : Int} (h1 : -9223372036854775807 ≤ lo) (h2 : lo ≤ hi) (h3 : hi ≤ 9223372036854775807) : fits lo hi = true := decide_eq_true ⟨h1, by omega, by omega, h3⟩
theorem fit_at {lo hi : Int} (h : fits lo hi = true) : -9223372036854775807 ≤ lo ∧ hi ≤ 9223372036854775807 := ⟨(of_decide_eq_true h).1, (of_decide_eq_true h).2.2.2⟩
theorem oE_fits2 {lo hi : Int} (h : oE lo hi = 0) : fits lo hi = true := by
 unfold oE at h
 split at h
 ·assumption
 ·exact absurd h (by decide)
theorem ckB {e : Int} {x : FD.Sp × Int} (h : ¬ e = 0) : ck e x = (.zero, e) := if_neg h
theorem ckG (x : FD.Sp × Int) : ck 0 x = x := if_pos rfl
theorem opOf {x : FD.Sp × Int} {v : Bool} {lo hi : Int} (hx : x.1.lo = okI v (oLo lo hi) ∧ x.1.hi = okI v (oHi lo hi) ∧ x.2 = errE v (oE lo hi)) (h : x.2 = 0) : v = true ∧ fits lo hi = true ∧ x.1.lo = lo ∧ x.1.hi = hi := by
 obtain ⟨h1, h2, h3⟩ := hx
 rw [h3] at h
 cases v
 ·exact absurd h (by simp [errE])
 ·have hf := oE_fits2 (by simpa [errE] using h)
  exact ⟨rfl, hf, by rw [h1]; simp [okI, oLo, hf], by rw [h2]; simp [okI, oHi, hf]⟩
theorem opTo {x : FD.Sp × Int} {v : Bool} {lo hi : Int} (hx : x.1.lo = okI v (oLo lo hi) ∧ x.1.hi = okI v (oHi lo hi) ∧ x.2 = errE v (oE lo hi)) (hv : v = true) (hf : fits lo hi = true) : x.2 = 0 ∧ x.1.lo = lo ∧ x.1.hi = hi := by
 obtain ⟨h1, h2, h3⟩ := hx
 subst hv
 exact ⟨by rw [h3]; simp [errE, oE, hf], by rw [h1]; simp [okI, oLo, hf], by rw [h2]; simp [okI, oHi, hf]⟩
theorem vv_of {a b : FD.Sp} (h1 : vB a.lo a.hi = true) (h2 : vB b.lo b.hi = true) : vv a b = true := by unfold vv; rw [h1, h2]; rfl
theorem chL_steps {v push pull tm s : FD.Sp} (h : (chL v push pull tm s).2 = 0) : (stM push s).2 = 0 ∧ (stS (stM push s).1 pull).2 = 0 ∧ (stM (stS (stM push s).1 pull).1 tm).2 = 0 ∧ (stepA v (stM (stS (stM push s).1 pull).1 tm).1).2 = 0 := by
 unfold chL at h
 dsimp only at h
 rw [ckG] at h
 by_cases h1 : (stM push s).2 = 0
 ·rw [h1, ckG] at h
  by_cases h2 : (stS (stM push s).1 pull).2 = 0
  ·rw [h2, ckG] at h
   by_cases h3 : (stM (stS (stM push s).1 pull).1 tm).2 = 0
   ·rw [h3, ckG] at h
    exact ⟨h1, h2, h3, h⟩
   ·rw [ckB h3] at h; exact absurd h h3
  ·simp only [ckB h2] at h; exact absurd h h2
 ·simp only [ckB h1] at h; exact absurd h h1
theorem chL_good {v push pull tm s : FD.Sp} (h1 : (stM push s).2 = 0) (h2 : (stS (stM push s).1 pull).2 = 0) (h3 : (stM (stS (stM push s).1 pull).1 tm).2 = 0) : chL v push pull tm s = stepA v (stM (stS (stM push s).1 pull).1 tm).1 := by
 unfold chL
 dsimp only
 rw [ckG, h1, ckG, h2, ckG, h3, ckG]
theorem mulb {p s : Int} (hp : 0 ≤ p) (h1 : -4294967296 ≤ s) (h2 : s ≤ 4294967296) : -(p * 4294967296) ≤ p * s ∧ p * s ≤ p * 4294967296 := by
 have a := Int.mul_le_mul_of_nonneg_left h1 hp
 have b := Int.mul_le_mul_of_nonneg_left h2 hp
 exact ⟨by rw [← Int.mul_neg]; exact a, b⟩
theorem mulm {x y t : Int} (h : x ≤ y) (ht : 0 ≤ t) : x * t / 4294967296 ≤ y * t / 4294967296 ∧ cdiv (x * t) 4294967296 ≤ cdiv (y * t) 4294967296 := by
 have a := Int.mul_le_mul_of_nonneg_right h ht
 unfold cdiv
 exact ⟨by omega, by omega⟩
theorem push_mid {pl ph sl sh : Int} (h0 : 0 ≤ pl) (h1 : pl ≤ ph) (a1 : -4294967296 ≤ sl) (a2 : sl ≤ sh) (a3 : sh ≤ 4294967296) :
  -ph ≤ mi (mL pl sl sh) (mL ph sl sh) ∧ mx (mH pl sl sh) (mH ph sl sh) ≤ ph := by
 obtain ⟨c1, c2⟩ := mulb (p := pl) (s := sl) h0 a1 (by omega)
 obtain ⟨c3, c4⟩ := mulb (p := pl) (s := sh) h0 (by omega) a3
 obtain ⟨c5, c6⟩ := mulb (p := ph) (s := sl) (by omega) a1 (by omega)
 obtain ⟨c7, c8⟩ := mulb (p := ph) (s := sh) (by omega) (by omega) a3
 unfold mL mH
 simp only [sL_w, sH_w]
 unfold cdiv
 generalize pl * sl = x1 at *
 generalize pl * sh = x2 at *
 generalize ph * sl = x3 at *
 generalize ph * sh = x4 at *
 constructor
 ·unfold mi; (repeat' split) <;> omega
 ·unfold mx; (repeat' split) <;> omega
theorem mul_bounds {al ah bl bh : Int} : mi (mL al bl bh) (mL ah bl bh) ≤ mx (mH al bl bh) (mH ah bl bh) :=
 mm_le (mm_le (share_le _ _ _ (by decide)) (share_le _ _ _ (by decide))) (mm_le (share_le _ _ _ (by decide)) (share_le _ _ _ (by decide)))
theorem push_one {pl ph : Int} (h0 : 0 ≤ pl) (h1 : pl ≤ ph) : mx (mH pl 4294967296 4294967296) (mH ph 4294967296 4294967296) = ph ∧ mi (mL pl (-4294967296) (-4294967296)) (mL ph (-4294967296) (-4294967296)) = -ph := by
 unfold mL mH
 simp only [sL_w, sH_w]
 unfold cdiv mx mi
 constructor <;> ((repeat' split) <;> omega)
theorem time_mid {xl xh bl bh cl ch t : Int} (ht : 0 ≤ t) (h1 : bl ≤ xl) (h2 : xl ≤ xh) (h3 : xh ≤ ch) (h4 : bl ≤ bh) (h5 : cl ≤ ch) :
  mi (mL bl t t) (mL bh t t) ≤ mi (mL xl t t) (mL xh t t) ∧ mx (mH xl t t) (mH xh t t) ≤ mx (mH cl t t) (mH ch t t) := by
 have a1 := (mulm h1 ht).1
 have a2 := (mulm h2 ht)
 have a3 := (mulm h3 ht).2
 have a4 := (mulm h4 ht).1
 have a5 := (mulm h5 ht).2
 unfold mL mH
 simp only [sL_w, sH_w]
 generalize xl * t / 4294967296 = x1 at *
 generalize xh * t / 4294967296 = x2 at *
 generalize bl * t / 4294967296 = x3 at *
 generalize bh * t / 4294967296 = x4 at *
 generalize cdiv (xl * t) 4294967296 = x5 at *
 generalize cdiv (xh * t) 4294967296 = x6 at *
 generalize cdiv (cl * t) 4294967296 = x7 at *
 generalize cdiv (ch * t) 4294967296 = x8 at *
 constructor
 ·unfold mi; (repeat' split) <;> omega
 ·unfold mx; (repeat' split) <;> omega
theorem stT_pt {m : Int} (h : FD.In64 m) (u : Unit1 m) : (stT (pt m h)).2 = 0 ∧ (stT (pt m h)).1.lo = tuL m m ∧ (stT (pt m h)).1.hi = tuH m m := by
 obtain ⟨u1, u2⟩ := u
 have hv : vB m m = true := vB_t (by omega) (Int.le_refl _)
 have hb : tnB m m = true := by unfold tnB; rw [hv, decide_eq_true ⟨u1, u2⟩]; rfl
 unfold stT pt
 dsimp only
 refine ⟨?_, by simp [okI, hb], by simp [okI, hb]⟩
 unfold tnE
 rw [if_pos hv, if_pos ⟨u1, u2⟩]
theorem tu_one : tuL 4294967296 4294967296 = 4294967296 ∧ tuH 4294967296 4294967296 = 4294967296 ∧ tuL (-4294967296) (-4294967296) = -4294967296 ∧ tuH (-4294967296) (-4294967296) = -4294967296 := by decide
theorem tu_in {m : Int} (u : Unit1 m) : -4294967296 ≤ tuL m m ∧ tuL m m ≤ tuH m m ∧ tuH m m ≤ 4294967296 := by
 have u1 : Unit1 4294967296 := ⟨by decide, by decide⟩
 have u2 : Unit1 (-4294967296) := ⟨by decide, by decide⟩
 have a := sin_mono u2 u u.1
 have b := sin_mono u u1 u.2
 have c := tu_bd u u
 obtain ⟨k1, k2, k3, k4⟩ := tu_one
 rw [k3] at a
 rw [k2] at b
 exact ⟨a.1, c.2.1, b.2⟩
theorem lift_ok {v push pull tm : FD.Sp} {time : Int} (hv : vB v.lo v.hi = true) (hq : vB pull.lo pull.hi = true) (hp : vB push.lo push.hi = true) (hp0 : 0 ≤ push.lo) (t0 : tm.lo = time) (t1 : tm.hi = time) (ht : 0 ≤ time)
  (i1 : FD.In64 4294967296) (i2 : FD.In64 (-4294967296)) (top : (lfQ v push pull tm (pt 4294967296 i1)).2 = 0) (bot : (lfQ v push pull tm (pt (-4294967296) i2)).2 = 0) {m : Int} (hm : FD.In64 m) (u : Unit1 m) :
  (lfQ v push pull tm (pt m hm)).2 = 0 ∧ vB (lfQ v push pull tm (pt m hm)).1.lo (lfQ v push pull tm (pt m hm)).1.hi = true := by
 obtain ⟨k1, k2, k3, k4⟩ := tu_one
 obtain ⟨s1, s2, s3⟩ := stT_pt i1 ⟨by decide, by decide⟩
 obtain ⟨b1, b2, b3⟩ := stT_pt i2 ⟨by decide, by decide⟩
 obtain ⟨m1, m2, m3⟩ := stT_pt hm u
 obtain ⟨r1, r2, r3⟩ := tu_in u
 rw [k1] at s2
 rw [k2] at s3
 rw [k3] at b2
 rw [k4] at b3
 unfold lfQ at top bot ⊢
 rw [if_pos s1] at top
 rw [if_pos b1] at bot
 rw [if_pos m1]
 have top' : (chL v push pull tm (stT (pt 4294967296 i1)).1).2 = 0 := top
 have bot' : (chL v push pull tm (stT (pt (-4294967296) i2)).1).2 = 0 := bot
 clear top bot
 generalize (stT (pt 4294967296 i1)).1 = st at *
 generalize (stT (pt (-4294967296) i2)).1 = sb at *
 generalize (stT (pt m hm)).1 = sm at *
 obtain ⟨T1, T2, T3, T4⟩ := chL_steps top'
 obtain ⟨B1, B2, B3, B4⟩ := chL_steps bot'
 have vp := vB_tt hp
 have vq := vB_tt hq
 have vv0 := vB_tt hv
 -- the push
 obtain ⟨_, _, tl1, th1⟩ := opOf (x := stM push st) ⟨rfl, rfl, rfl⟩ T1
 obtain ⟨_, _, bl1, bh1⟩ := opOf (x := stM push sb) ⟨rfl, rfl, rfl⟩ B1
 have pm := push_mid (pl := push.lo) (ph := push.hi) (sl := sm.lo) (sh := sm.hi) hp0 vp.2 (by omega) (by omega) (by omega)
 have p1 := push_one hp0 vp.2
 have mb := mul_bounds (al := push.lo) (ah := push.hi) (bl := sm.lo) (bh := sm.hi)
 have ph63 := push.ok.2.2
 obtain ⟨M1, ml1, mh1⟩ := opTo (x := stM push sm) ⟨rfl, rfl, rfl⟩ (vv_of hp (vB_t (show -9223372036854775807 ≤ sm.lo by omega) (show sm.lo ≤ sm.hi by omega))) (fit_of (by omega) mb (by omega))
 have tlh1 : (stM push st).1.lo ≤ (stM push st).1.hi := by rw [tl1, th1]; exact mul_bounds
 have blh1 : (stM push sb).1.lo ≤ (stM push sb).1.hi := by rw [bl1, bh1]; exact mul_bounds
 rw [s2, s3, p1.1] at th1
 rw [b2, b3, p1.2] at bl1
 have x1l : -push.hi ≤ (stM push sm).1.lo := by rw [ml1]; exact pm.1
 have x1h : (stM push sm).1.hi ≤ push.hi := by rw [mh1]; exact pm.2
 have x1lh : (stM push sm).1.lo ≤ (stM push sm).1.hi := by rw [ml1, mh1]; exact mb
 rw [chL_good T1 T2 T3] at top'
 rw [chL_good B1 B2 B3] at bot'
 have hC : (stS (stM push sm).1 pull).2 = 0 → (stM (stS (stM push sm).1 pull).1 tm).2 = 0 → chL v push pull tm sm = stepA v (stM (stS (stM push sm).1 pull).1 tm).1 := chL_good M1
 clear pm p1 mb tl1 bh1 ml1 mh1
 generalize stM push st = y1 at *
 generalize stM push sb = z1 at *
 generalize stM push sm = x1 at *
 -- less the pull
 obtain ⟨_, tf2, tl2, th2⟩ := opOf (x := stS y1.1 pull) ⟨rfl, rfl, rfl⟩ T2
 obtain ⟨_, bf2, bl2, bh2⟩ := opOf (x := stS z1.1 pull) ⟨rfl, rfl, rfl⟩ B2
 have ft2 := fit_at tf2
 have fb2 := fit_at bf2
 obtain ⟨M2, ml2, mh2⟩ := opTo (x := stS x1.1 pull) ⟨rfl, rfl, rfl⟩ (vv_of (vB_t (show -9223372036854775807 ≤ x1.1.lo by omega) x1lh) hq) (fit_of (by omega) (by omega) (by omega))
 have hC2 := hC M2
 clear hC tf2 bf2
 have x2l : (stS z1.1 pull).1.lo ≤ (stS x1.1 pull).1.lo := by omega
 have x2h : (stS x1.1 pull).1.hi ≤ (stS y1.1 pull).1.hi := by omega
 have x2lh : (stS x1.1 pull).1.lo ≤ (stS x1.1 pull).1.hi := by omega
 have y2lh : (stS y1.1 pull).1.lo ≤ (stS y1.1 pull).1.hi := by omega
 have z2lh : (stS z1.1 pull).1.lo ≤ (stS z1.1 pull).1.hi := by omega
 have x2v : -9223372036854775807 ≤ (stS x1.1 pull).1.lo := by omega
 generalize stS y1.1 pull = y2 at *
 generalize stS z1.1 pull = z2 at *
 generalize stS x1.1 pull = x2 at *
 clear ml2 mh2 tl2 th2 bl2 bh2 ft2 fb2 x1l x1h x1lh th1 bl1 tlh1 blh1
 -- times the time
 obtain ⟨_, tf3, tl3, th3⟩ := opOf (x := stM y2.1 tm) ⟨rfl, rfl, rfl⟩ T3
 obtain ⟨_, bf3, bl3, bh3⟩ := opOf (x := stM z2.1 tm) ⟨rfl, rfl, rfl⟩ B3
 have tmid := time_mid (xl := x2.1.lo) (xh := x2.1.hi) (bl := z2.1.lo) (bh := z2.1.hi) (cl := y2.1.lo) (ch := y2.1.hi) ht x2l x2lh x2h z2lh y2lh
 have mbt := mul_bounds (al := y2.1.lo) (ah := y2.1.hi) (bl := time) (bh := time)
 have mbb := mul_bounds (al := z2.1.lo) (ah := z2.1.hi) (bl := time) (bh := time)
 have mbx := mul_bounds (al := x2.1.lo) (ah := x2.1.hi) (bl := time) (bh := time)
 rw [t0, t1] at tf3 tl3 th3 bf3 bl3 bh3
 have ft3 := fit_at tf3
 have fb3 := fit_at bf3
 have hf3 : fits (mi (mL x2.1.lo tm.lo tm.hi) (mL x2.1.hi tm.lo tm.hi)) (mx (mH x2.1.lo tm.lo tm.hi) (mH x2.1.hi tm.lo tm.hi)) = true := by
  rw [t0, t1]
  exact fit_of (by omega) mbx (by omega)
 obtain ⟨M3, ml3, mh3⟩ := opTo (x := stM x2.1 tm) ⟨rfl, rfl, rfl⟩ (vv_of (vB_t x2v x2lh) (by rw [t0, t1]; exact vB_t (by omega) (Int.le_refl _))) hf3
 rw [t0, t1] at ml3 mh3
 have hC3 := hC2 M3
 have x3l : (stM z2.1 tm).1.lo ≤ (stM x2.1 tm).1.lo := by rw [bl3, ml3]; exact tmid.1
 have x3h : (stM x2.1 tm).1.hi ≤ (stM y2.1 tm).1.hi := by rw [th3, mh3]; exact tmid.2
 have x3lh : (stM x2.1 tm).1.lo ≤ (stM x2.1 tm).1.hi := by rw [ml3, mh3]; exact mbx
 have x3v : -9223372036854775807 ≤ (stM x2.1 tm).1.lo := by rw [ml3]; omega
 clear hf3 mbt mbb mbx tmid hC2 tf3 bf3 tl3 th3 bl3 bh3 ml3 mh3 ft3 fb3
 generalize stM y2.1 tm = y3 at *
 generalize stM z2.1 tm = z3 at *
 generalize stM x2.1 tm = x3 at *
 -- and the speed
 obtain ⟨_, tf4, tl4, th4⟩ := opOf (x := stepA v y3.1) ⟨rfl, rfl, rfl⟩ T4
 obtain ⟨_, bf4, bl4, bh4⟩ := opOf (x := stepA v z3.1) ⟨rfl, rfl, rfl⟩ B4
 have ft4 := fit_at tf4
 have fb4 := fit_at bf4
 obtain ⟨M4, ml4, mh4⟩ := opTo (x := stepA v x3.1) ⟨rfl, rfl, rfl⟩ (vv_of hv (vB_t x3v x3lh)) (fit_of (by omega) (by omega) (by omega))
 unfold res1
 rw [hC3, if_pos M4]
 exact ⟨M4, by dsimp only; rw [ml4, mh4]; exact vB_t (by omega) (by omega)⟩
end Sw
end
end Go.Proofs.Ytacpahebbnnckaa
