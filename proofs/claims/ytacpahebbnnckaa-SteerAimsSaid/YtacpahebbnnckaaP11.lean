/- Packed: SwB SwH SwI SwC SwD SwE SwF SwG. -/
import Derived.OwnWalk
import Derived.Laws.AppendOwn
import Derived.Laws.OwnMore
import Derived.Test.YtacpahebbnnckaaP10
set_option linter.unusedVariables false
set_option linter.unusedSimpArgs false
namespace Go.Proofs.Ytacpahebbnnckaa
section
set_option maxRecDepth 1000000
namespace Sw
end Sw
end
section
namespace Sw
end Sw
end
section
namespace Sw
end Sw
end
section
set_option maxRecDepth 100000
open Go.RowKit
open FP
namespace Sw
theorem pointU_any (x : Int) (w : World) : Calls Try.prog 49 #[.int .i64 x] w fun e w' => e = .returned (.agg #[.int .i64 (x), .int .i64 (x)]) ∧ Below w.heap.size w w' := by
 go_enter Try.func49, Try.ntmps49
 go_wp2
 refine bodyPost_ret (v := (.agg #[.int .i64 (x), .int .i64 (x)])) (by simp only [results, Try.results49]; go_simp) rfl ⟨rfl, blw_⟩
theorem dot1_any (x : Int) (w : World) : Calls Try.prog 25 #[.int .i64 x] w fun e w' => e = .returned (.agg #[.int .i64 (x), .int .i64 (x)]) ∧ Below w.heap.size w w' := by
 go_enter Try.func25, Try.ntmps25
 go_wp2
 refine bodyPost_ret (v := (.agg #[.int .i64 (x), .int .i64 (x)])) (by simp only [results, Try.results25]; go_simp) rfl ⟨rfl, blw_⟩
def numB (x : Int) : Bool := decide (-9223372036854775807 ≤ x)
theorem number_any (x : Int) (w : World) : Calls Try.prog 29 #[.int .i64 x] w fun e w' => e = .returned (.bool (numB x)) ∧ Below w.heap.size w w' := by
 unfold numB
 go_enter Try.func29, Try.ntmps29
 go_wp2
 go_ret
 exact ⟨rfl, Below.refl _ _⟩
theorem isNumber_any (x : Int) (h : FD.In64 x) (w : World) : Calls Try.prog 26 #[.int .i64 x] w fun e w' => e = .returned (.bool (numB x)) ∧ Below w.heap.size w w' := by
 have PO := hide (pointU_any x)
 have VO := hide (fun W b hb => valid_one b x x h h W hb)
 have e : vB x x = numB x := by unfold vB numB; by_cases c : -9223372036854775807 ≤ x <;> simp [c] <;> omega
 rw [e] at VO
 generalize numB x = r at *
 clear e h
 go_enter Try.func26, Try.ntmps26
 go_wp2_with fail
 refine (PO.out _).mono ?_
 rintro e w1 ⟨rfl, hb1⟩
 obtain ⟨hc1, hf1⟩ := bcell hb1
 have hz1 := hb1.size
 try simp only [World.size_alloc, World.size_setCell] at hz1
 clear hc1 hf1
 go_wp2_with fail
 refine (VO.out _ _ (by simp) (by go_simp) (by go_simp)).mono ?_
 rintro e w2 ⟨rfl, hb2⟩
 obtain ⟨hc2, hf2⟩ := bcell hb2
 have hz2 := hb2.size
 try simp only [World.size_alloc, World.size_setCell] at hz2
 try have : w1.heap.size < w2.heap.size := by omega
 try have : w1.heap.size ≤ w2.heap.size := by omega
 have c2_0_0 := zci w2 w1.heap.size 0 (x) (by go_simp)
 have c2_0_1 := zci w2 w1.heap.size 1 (x) (by go_simp)
 clear hc2 hf2
 go_wp2
 go_ret
 exact ⟨rfl, blw_⟩
end Sw
end
section
set_option maxRecDepth 100000
open Go.RowKit
open FP
namespace Sw
theorem row_self {c : Array Value} {v : Value} (h : c[0]? = some v) : c.setIfInBounds 0 v = c := by
 apply Array.ext
 ·simp
 ·intro i h1 h2
  rw [Array.getElem_setIfInBounds]
  split
  ·rename_i e
   subst e
   rw [Array.getElem?_eq_getElem h2] at h
   exact (Option.some.inj h).symm
  ·rfl
theorem set_self {w : World} {b : Nat} {v : Value} (h : w.cell? ⟨b, 0, none⟩ = some v) : w.setCell ⟨b, 0, none⟩ v = w := by
 unfold World.cell? at h
 cases hg : w.heap[b]? with
 | none => simp [hg] at h
 | some o =>
  cases o with
  | cells c t fr =>
   simp only [hg, Option.isSome_none, Bool.false_eq_true, if_false] at h
   obtain ⟨hlt, hv⟩ := Array.getElem?_eq_some_iff.1 hg
   have e : (w.setCell ⟨b, 0, none⟩ v).heap = w.heap := by
    unfold World.setCell
    apply Array.ext
    ·simp
    ·intro i h1 h2
     simp only [Array.getElem_modify]
     split
     ·rename_i q
      subst q
      rw [hv]
      simp only [Option.isSome_none, Bool.false_eq_true, if_false, row_self h]
     ·rfl
   calc w.setCell ⟨b, 0, none⟩ v = { w with heap := (w.setCell ⟨b, 0, none⟩ v).heap } := rfl
    _ = w := by rw [e]
  | _ => simp [hg] at h
def kpE (e0 e : Int) : Int := if e0 = 0 then e else e0
def kpV (e0 e x : Int) : Int := if e0 = 0 ∧ e = 0 then x else 0
set_option maxHeartbeats 1000000 in
theorem keep_any (b : Nat) (e0 x y e : Int) (w : World) (hc : w.cell? ⟨b, 0, none⟩ = some (.int .i64 e0)) (hf : w.frozen? ⟨b, 0, none⟩ = false) (hb : b < w.heap.size) :
  Calls Try.prog 95 #[.pointer (some ⟨b, 0, none⟩), .agg #[.int .i64 (x), .int .i64 (y)], .int .i64 e] w fun r w' => r = .returned (.agg #[.int .i64 (kpV e0 e x), .int .i64 (kpV e0 e y)]) ∧ Below (w.setCell ⟨b, 0, none⟩ (.int .i64 (kpE e0 e))).heap.size (w.setCell ⟨b, 0, none⟩ (.int .i64 (kpE e0 e))) w' := by
 by_cases h0 : e0 = 0
 ·subst h0
  have ek : kpE 0 e = e := rfl
  rw [ek]
  by_cases h1 : e = 0
  ·subst h1
   rw [show kpV 0 0 x = x from rfl, show kpV 0 0 y = y from rfl]
   clear ek
   go_enter Try.func95, Try.ntmps95
   go_wp2
   refine bodyPost_ret (v := (.agg #[.int .i64 (x), .int .i64 (y)])) (by simp only [results, Try.results95]; go_simp) rfl ⟨rfl, blw_⟩
  ·rw [show kpV 0 e x = 0 by simp [kpV, h1], show kpV 0 e y = 0 by simp [kpV, h1]]
   have h1' : (e == 0) = false := by simpa using h1
   clear ek
   go_enter Try.func95, Try.ntmps95
   go_wp2
   refine bodyPost_ret (v := (.agg #[.int .i64 (0), .int .i64 (0)])) (by simp only [results, Try.results95]; go_simp) rfl ⟨rfl, blw_⟩
 ·rw [show kpV e0 e x = 0 by simp [kpV, h0], show kpV e0 e y = 0 by simp [kpV, h0], show kpE e0 e = e0 by simp [kpE, h0], set_self hc]
  have h0' : (e0 == 0) = false := by simpa using h0
  go_enter Try.func95, Try.ntmps95
  go_wp2
  refine bodyPost_ret (v := (.agg #[.int .i64 (0), .int .i64 (0)])) (by simp only [results, Try.results95]; go_simp) rfl ⟨rfl, blw_⟩
def ckE (e0 e : Int) : Int := if e0 = 0 then e else e0
def ckV (e0 x : Int) : Int := if e0 = 0 then x else 0
set_option maxHeartbeats 1000000 in
theorem rkeep_any (b : Nat) (e0 x y e : Int) (w : World) (hc : w.cell? ⟨b, 0, none⟩ = some (.int .i64 e0)) (hf : w.frozen? ⟨b, 0, none⟩ = false) (hb : b < w.heap.size) :
  Calls Try.prog 72 #[.pointer (some ⟨b, 0, none⟩), .agg #[.int .i64 (x), .int .i64 (y)], .int .i64 e] w fun r w' => r = .returned (.agg #[.int .i64 (ckV e0 x), .int .i64 (ckV e0 y)]) ∧ Below (w.setCell ⟨b, 0, none⟩ (.int .i64 (ckE e0 e))).heap.size (w.setCell ⟨b, 0, none⟩ (.int .i64 (ckE e0 e))) w' := by
 by_cases h0 : e0 = 0
 ·subst h0
  rw [show ckE 0 e = e from rfl, show ckV 0 x = x from rfl, show ckV 0 y = y from rfl]
  go_enter Try.func72, Try.ntmps72
  go_wp2
  refine bodyPost_ret (v := (.agg #[.int .i64 (x), .int .i64 (y)])) (by simp only [results, Try.results72]; go_simp) rfl ⟨rfl, blw_⟩
 ·rw [show ckV e0 x = 0 by simp [ckV, h0], show ckV e0 y = 0 by simp [ckV, h0], show ckE e0 e = e0 by simp [ckE, h0], set_self hc]
  have h0' : (e0 == 0) = false := by simpa using h0
  go_enter Try.func72, Try.ntmps72
  go_wp2
  refine bodyPost_ret (v := (.agg #[.int .i64 (0), .int .i64 (0)])) (by simp only [results, Try.results72]; go_simp) rfl ⟨rfl, blw_⟩
end Sw
end
section
set_option maxRecDepth 100000
open Go.RowKit
open FP
namespace Sw
theorem below_set2 {n : Nat} {w w' : World} (h : Below n w w') (p : Addr) (v : Value) : Below n (w.setCell p v) (w'.setCell p v) :=
 ⟨h.os, h.tape, h.output, by simp only [World.setCell, Array.size_modify]; exact h.size, fun k hk => by simp only [World.setCell, Array.getElem?_modify, h.block k hk]⟩
set_option maxHeartbeats 1000000 in
theorem fmul_any (b : Nat) (e0 al ah bl bh rl rh e : Int) (OP : ∀ W, Calls Try.prog 100 #[.agg #[.int .i64 (al), .int .i64 (ah)], .agg #[.int .i64 (bl), .int .i64 (bh)]] W fun r W' => r = .returned (.tuple #[.agg #[.int .i64 (rl), .int .i64 (rh)], .int .i64 e]) ∧ Below W.heap.size W W') (w : World) (hc : w.cell? ⟨b, 0, none⟩ = some (.int .i64 e0)) (hf : w.frozen? ⟨b, 0, none⟩ = false) (hb : b < w.heap.size) :
  Calls Try.prog 54 #[.pointer (some ⟨b, 0, none⟩), .agg #[.int .i64 (al), .int .i64 (ah)], .agg #[.int .i64 (bl), .int .i64 (bh)]] w fun r w' => r = .returned (.agg #[.int .i64 (kpV e0 e rl), .int .i64 (kpV e0 e rh)]) ∧ Below (w.setCell ⟨b, 0, none⟩ (.int .i64 (kpE e0 e))).heap.size (w.setCell ⟨b, 0, none⟩ (.int .i64 (kpE e0 e))) w' := by
 have OP := hide OP
 have KP := hide (fun W => keep_any b e0 rl rh e W)
 generalize kpV e0 e rl = x at *
 generalize kpV e0 e rh = y at *
 generalize kpE e0 e = e1 at *
 go_enter Try.func54, Try.ntmps54
 go_wp2_with fail
 refine (OP.out _).mono ?_
 rintro r w1 ⟨rfl, hb1⟩
 obtain ⟨hc1, hf1⟩ := bcell hb1
 have hz1 := hb1.size
 simp only [World.size_alloc] at hz1
 have hbb : Below w.heap.size w w1 := blw_
 have c1 : w1.cell? ⟨b, 0, none⟩ = some (.int .i64 e0) := (hbb.cell (p := ⟨b, 0, none⟩) hb).trans hc
 have f1 : w1.frozen? ⟨b, 0, none⟩ = false := (hbb.frozen (p := ⟨b, 0, none⟩) hb).trans hf
 have l1 : b < w1.heap.size := by omega
 have g0 := zci w1 (w.heap.size + 2) 0 0 (by go_simp)
 have g1 := zci w1 (w.heap.size + 2) 1 0 (by go_simp)
 have g2 := zfe w1 (w.heap.size + 2) 0 (by go_simp)
 have g3 := zfe w1 (w.heap.size + 2) 1 (by go_simp)
 have g4 : w.heap.size + 2 < w1.heap.size := by omega
 have hne : ¬ b = w.heap.size + 2 := by omega
 have hne' : ¬ w.heap.size + 2 = b := by omega
 clear hc1 hf1
 go_wp2_with fail
 refine (KP.out _ c1 f1 l1).mono ?_
 rintro r w2 ⟨rfl, hb2⟩
 obtain ⟨hc2, hf2⟩ := bcell hb2
 have hz2 := hb2.size
 simp only [World.size_setCell] at hz2 hc2 hf2
 have k0 : w2.cell? ⟨w.heap.size + 2, 0, none⟩ = some (.int .i64 0) := by rw [hc2 _ _ g4]; go_simp
 have k1 : w2.cell? ⟨w.heap.size + 2, 1, none⟩ = some (.int .i64 0) := by rw [hc2 _ _ g4]; go_simp
 have k2 : w2.frozen? ⟨w.heap.size + 2, 0, none⟩ = false := by rw [hf2 _ _ g4]; go_simp
 have k3 : w2.frozen? ⟨w.heap.size + 2, 1, none⟩ = false := by rw [hf2 _ _ g4]; go_simp
 have k4 : w.heap.size + 2 < w2.heap.size := by omega
 have hbf : Below (w.setCell ⟨b, 0, none⟩ (.int .i64 e1)).heap.size (w.setCell ⟨b, 0, none⟩ (.int .i64 e1)) w2 := by
  refine (below_set2 (n := (w.setCell ⟨b, 0, none⟩ (.int .i64 e1)).heap.size) (by simpa using hbb) _ _).trans (hb2.mono ?_)
  simp only [World.size_setCell]; omega
 have hq : (w.setCell ⟨b, 0, none⟩ (.int .i64 e1)).heap.size ≤ w.heap.size + 2 := by simp
 have HBF := hide hbf
 clear hc2 hf2 hb2 hb1 hbf
 go_wp2
 refine bodyPost_ret (v := (.agg #[.int .i64 (x), .int .i64 (y)])) (by simp only [results, Try.results54]; go_simp) rfl ⟨rfl, by have hbf := HBF.out; exact blw_⟩
set_option maxHeartbeats 1000000 in
theorem fsub_any (b : Nat) (e0 al ah bl bh rl rh e : Int) (OP : ∀ W, Calls Try.prog 99 #[.agg #[.int .i64 (al), .int .i64 (ah)], .agg #[.int .i64 (bl), .int .i64 (bh)]] W fun r W' => r = .returned (.tuple #[.agg #[.int .i64 (rl), .int .i64 (rh)], .int .i64 e]) ∧ Below W.heap.size W W') (w : World) (hc : w.cell? ⟨b, 0, none⟩ = some (.int .i64 e0)) (hf : w.frozen? ⟨b, 0, none⟩ = false) (hb : b < w.heap.size) :
  Calls Try.prog 53 #[.pointer (some ⟨b, 0, none⟩), .agg #[.int .i64 (al), .int .i64 (ah)], .agg #[.int .i64 (bl), .int .i64 (bh)]] w fun r w' => r = .returned (.agg #[.int .i64 (kpV e0 e rl), .int .i64 (kpV e0 e rh)]) ∧ Below (w.setCell ⟨b, 0, none⟩ (.int .i64 (kpE e0 e))).heap.size (w.setCell ⟨b, 0, none⟩ (.int .i64 (kpE e0 e))) w' := by
 have OP := hide OP
 have KP := hide (fun W => keep_any b e0 rl rh e W)
 generalize kpV e0 e rl = x at *
 generalize kpV e0 e rh = y at *
 generalize kpE e0 e = e1 at *
 go_enter Try.func53, Try.ntmps53
 go_wp2_with fail
 refine (OP.out _).mono ?_
 rintro r w1 ⟨rfl, hb1⟩
 obtain ⟨hc1, hf1⟩ := bcell hb1
 have hz1 := hb1.size
 simp only [World.size_alloc] at hz1
 have hbb : Below w.heap.size w w1 := blw_
 have c1 : w1.cell? ⟨b, 0, none⟩ = some (.int .i64 e0) := (hbb.cell (p := ⟨b, 0, none⟩) hb).trans hc
 have f1 : w1.frozen? ⟨b, 0, none⟩ = false := (hbb.frozen (p := ⟨b, 0, none⟩) hb).trans hf
 have l1 : b < w1.heap.size := by omega
 have g0 := zci w1 (w.heap.size + 2) 0 0 (by go_simp)
 have g1 := zci w1 (w.heap.size + 2) 1 0 (by go_simp)
 have g2 := zfe w1 (w.heap.size + 2) 0 (by go_simp)
 have g3 := zfe w1 (w.heap.size + 2) 1 (by go_simp)
 have g4 : w.heap.size + 2 < w1.heap.size := by omega
 have hne : ¬ b = w.heap.size + 2 := by omega
 have hne' : ¬ w.heap.size + 2 = b := by omega
 clear hc1 hf1
 go_wp2_with fail
 refine (KP.out _ c1 f1 l1).mono ?_
 rintro r w2 ⟨rfl, hb2⟩
 obtain ⟨hc2, hf2⟩ := bcell hb2
 have hz2 := hb2.size
 simp only [World.size_setCell] at hz2 hc2 hf2
 have k0 : w2.cell? ⟨w.heap.size + 2, 0, none⟩ = some (.int .i64 0) := by rw [hc2 _ _ g4]; go_simp
 have k1 : w2.cell? ⟨w.heap.size + 2, 1, none⟩ = some (.int .i64 0) := by rw [hc2 _ _ g4]; go_simp
 have k2 : w2.frozen? ⟨w.heap.size + 2, 0, none⟩ = false := by rw [hf2 _ _ g4]; go_simp
 have k3 : w2.frozen? ⟨w.heap.size + 2, 1, none⟩ = false := by rw [hf2 _ _ g4]; go_simp
 have k4 : w.heap.size + 2 < w2.heap.size := by omega
 have hbf : Below (w.setCell ⟨b, 0, none⟩ (.int .i64 e1)).heap.size (w.setCell ⟨b, 0, none⟩ (.int .i64 e1)) w2 := by
  refine (below_set2 (n := (w.setCell ⟨b, 0, none⟩ (.int .i64 e1)).heap.size) (by simpa using hbb) _ _).trans (hb2.mono ?_)
  simp only [World.size_setCell]; omega
 have hq : (w.setCell ⟨b, 0, none⟩ (.int .i64 e1)).heap.size ≤ w.heap.size + 2 := by simp
 have HBF := hide hbf
 clear hc2 hf2 hb2 hb1 hbf
 go_wp2
 refine bodyPost_ret (v := (.agg #[.int .i64 (x), .int .i64 (y)])) (by simp only [results, Try.results53]; go_simp) rfl ⟨rfl, by have hbf := HBF.out; exact blw_⟩
end Sw
end
section
set_option maxRecDepth 100000
open Go.RowKit
open FP
namespace Sw
set_option maxHeartbeats 1000000 in
theorem cAdd_any (b : Nat) (e0 al ah bl bh rl rh e : Int) (OP : ∀ W, Calls Try.prog 71 #[.agg #[.int .i64 (al), .int .i64 (ah)], .agg #[.int .i64 (bl), .int .i64 (bh)]] W fun r W' => r = .returned (.tuple #[.agg #[.int .i64 (rl), .int .i64 (rh)], .int .i64 e]) ∧ Below W.heap.size W W') (w : World) (hc : w.cell? ⟨b, 0, none⟩ = some (.int .i64 e0)) (hf : w.frozen? ⟨b, 0, none⟩ = false) (hb : b < w.heap.size) :
  Calls Try.prog 22 #[.pointer (some ⟨b, 0, none⟩), .agg #[.int .i64 (al), .int .i64 (ah)], .agg #[.int .i64 (bl), .int .i64 (bh)]] w fun r w' => r = .returned (.agg #[.int .i64 (ckV e0 rl), .int .i64 (ckV e0 rh)]) ∧ Below (w.setCell ⟨b, 0, none⟩ (.int .i64 (ckE e0 e))).heap.size (w.setCell ⟨b, 0, none⟩ (.int .i64 (ckE e0 e))) w' := by
 have OP := hide OP
 have KP := hide (fun W => rkeep_any b e0 rl rh e W)
 generalize ckV e0 rl = x at *
 generalize ckV e0 rh = y at *
 generalize ckE e0 e = e1 at *
 go_enter Try.func22, Try.ntmps22
 go_wp2_with fail
 refine (OP.out _).mono ?_
 rintro r w1 ⟨rfl, hb1⟩
 obtain ⟨hc1, hf1⟩ := bcell hb1
 have hz1 := hb1.size
 simp only [World.size_alloc] at hz1
 have hbb : Below w.heap.size w w1 := blw_
 have c1 : w1.cell? ⟨b, 0, none⟩ = some (.int .i64 e0) := (hbb.cell (p := ⟨b, 0, none⟩) hb).trans hc
 have f1 : w1.frozen? ⟨b, 0, none⟩ = false := (hbb.frozen (p := ⟨b, 0, none⟩) hb).trans hf
 have l1 : b < w1.heap.size := by omega
 have g0 := zci w1 (w.heap.size + 2) 0 0 (by go_simp)
 have g1 := zci w1 (w.heap.size + 2) 1 0 (by go_simp)
 have g2 := zfe w1 (w.heap.size + 2) 0 (by go_simp)
 have g3 := zfe w1 (w.heap.size + 2) 1 (by go_simp)
 have g4 : w.heap.size + 2 < w1.heap.size := by omega
 have hne : ¬ b = w.heap.size + 2 := by omega
 have hne' : ¬ w.heap.size + 2 = b := by omega
 clear hc1 hf1
 go_wp2_with fail
 have hb8 : Below w.heap.size w (w1.alloc (.cells #[.int .i64 rl, .int .i64 rh] 24)) := hbb.alloc (by omega) _
 have c2 : (w1.alloc (.cells #[.int .i64 rl, .int .i64 rh] 24)).cell? ⟨b, 0, none⟩ = some (.int .i64 e0) := (hb8.cell (p := ⟨b, 0, none⟩) hb).trans hc
 have f2 : (w1.alloc (.cells #[.int .i64 rl, .int .i64 rh] 24)).frozen? ⟨b, 0, none⟩ = false := (hb8.frozen (p := ⟨b, 0, none⟩) hb).trans hf
 have g5 : (w1.alloc (.cells #[.int .i64 rl, .int .i64 rh] 24)).cell? ⟨w.heap.size + 2, 0, none⟩ = some (.int .i64 0) := by go_simp
 have g6 : (w1.alloc (.cells #[.int .i64 rl, .int .i64 rh] 24)).cell? ⟨w.heap.size + 2, 1, none⟩ = some (.int .i64 0) := by go_simp
 have g7 : (w1.alloc (.cells #[.int .i64 rl, .int .i64 rh] 24)).frozen? ⟨w.heap.size + 2, 0, none⟩ = false := by go_simp
 have g8 : (w1.alloc (.cells #[.int .i64 rl, .int .i64 rh] 24)).frozen? ⟨w.heap.size + 2, 1, none⟩ = false := by go_simp
 have l2 : b < (w1.alloc (.cells #[.int .i64 rl, .int .i64 rh] 24)).heap.size := by simp; omega
 have l3 : w.heap.size + 2 < (w1.alloc (.cells #[.int .i64 rl, .int .i64 rh] 24)).heap.size := by simp; omega
 have hz3 : w.heap.size + 3 ≤ (w1.alloc (.cells #[.int .i64 rl, .int .i64 rh] 24)).heap.size := by simp; omega
 clear g0 g1 g2 g3 g4 c1 f1 l1 hb1 hbb hz1
 generalize w1.alloc (.cells #[.int .i64 rl, .int .i64 rh] 24) = w3 at *
 refine (KP.out _ c2 f2 l2).mono ?_
 rintro r w2 ⟨rfl, hb2⟩
 obtain ⟨hc2, hf2⟩ := bcell hb2
 have hz2 := hb2.size
 simp only [World.size_setCell] at hz2 hc2 hf2
 have k0 : w2.cell? ⟨w.heap.size + 2, 0, none⟩ = some (.int .i64 0) := by rw [hc2 _ _ l3]; go_simp
 have k1 : w2.cell? ⟨w.heap.size + 2, 1, none⟩ = some (.int .i64 0) := by rw [hc2 _ _ l3]; go_simp
 have k2 : w2.frozen? ⟨w.heap.size + 2, 0, none⟩ = false := by rw [hf2 _ _ l3]; go_simp
 have k3 : w2.frozen? ⟨w.heap.size + 2, 1, none⟩ = false := by rw [hf2 _ _ l3]; go_simp
 have k4 : w.heap.size + 2 < w2.heap.size := by omega
 have hbf : Below (w.setCell ⟨b, 0, none⟩ (.int .i64 e1)).heap.size (w.setCell ⟨b, 0, none⟩ (.int .i64 e1)) w2 := by
  refine (below_set2 (n := (w.setCell ⟨b, 0, none⟩ (.int .i64 e1)).heap.size) (by simpa using hb8) _ _).trans (hb2.mono ?_)
  simp only [World.size_setCell]; omega
 have HBF := hide hbf
 clear hc2 hf2 hb2 hbf hb8
 go_wp2
 refine bodyPost_ret (v := (.agg #[.int .i64 (x), .int .i64 (y)])) (by simp only [results, Try.results22]; go_simp) rfl ⟨rfl, by have hbf := HBF.out; exact blw_⟩
set_option maxHeartbeats 1000000 in
theorem cSub_any (b : Nat) (e0 al ah bl bh rl rh e : Int) (OP : ∀ W, Calls Try.prog 74 #[.agg #[.int .i64 (al), .int .i64 (ah)], .agg #[.int .i64 (bl), .int .i64 (bh)]] W fun r W' => r = .returned (.tuple #[.agg #[.int .i64 (rl), .int .i64 (rh)], .int .i64 e]) ∧ Below W.heap.size W W') (w : World) (hc : w.cell? ⟨b, 0, none⟩ = some (.int .i64 e0)) (hf : w.frozen? ⟨b, 0, none⟩ = false) (hb : b < w.heap.size) :
  Calls Try.prog 24 #[.pointer (some ⟨b, 0, none⟩), .agg #[.int .i64 (al), .int .i64 (ah)], .agg #[.int .i64 (bl), .int .i64 (bh)]] w fun r w' => r = .returned (.agg #[.int .i64 (ckV e0 rl), .int .i64 (ckV e0 rh)]) ∧ Below (w.setCell ⟨b, 0, none⟩ (.int .i64 (ckE e0 e))).heap.size (w.setCell ⟨b, 0, none⟩ (.int .i64 (ckE e0 e))) w' := by
 have OP := hide OP
 have KP := hide (fun W => rkeep_any b e0 rl rh e W)
 generalize ckV e0 rl = x at *
 generalize ckV e0 rh = y at *
 generalize ckE e0 e = e1 at *
 go_enter Try.func24, Try.ntmps24
 go_wp2_with fail
 refine (OP.out _).mono ?_
 rintro r w1 ⟨rfl, hb1⟩
 obtain ⟨hc1, hf1⟩ := bcell hb1
 have hz1 := hb1.size
 simp only [World.size_alloc] at hz1
 have hbb : Below w.heap.size w w1 := blw_
 have c1 : w1.cell? ⟨b, 0, none⟩ = some (.int .i64 e0) := (hbb.cell (p := ⟨b, 0, none⟩) hb).trans hc
 have f1 : w1.frozen? ⟨b, 0, none⟩ = false := (hbb.frozen (p := ⟨b, 0, none⟩) hb).trans hf
 have l1 : b < w1.heap.size := by omega
 have g0 := zci w1 (w.heap.size + 2) 0 0 (by go_simp)
 have g1 := zci w1 (w.heap.size + 2) 1 0 (by go_simp)
 have g2 := zfe w1 (w.heap.size + 2) 0 (by go_simp)
 have g3 := zfe w1 (w.heap.size + 2) 1 (by go_simp)
 have g4 : w.heap.size + 2 < w1.heap.size := by omega
 have hne : ¬ b = w.heap.size + 2 := by omega
 have hne' : ¬ w.heap.size + 2 = b := by omega
 clear hc1 hf1
 go_wp2_with fail
 have hb8 : Below w.heap.size w (w1.alloc (.cells #[.int .i64 rl, .int .i64 rh] 24)) := hbb.alloc (by omega) _
 have c2 : (w1.alloc (.cells #[.int .i64 rl, .int .i64 rh] 24)).cell? ⟨b, 0, none⟩ = some (.int .i64 e0) := (hb8.cell (p := ⟨b, 0, none⟩) hb).trans hc
 have f2 : (w1.alloc (.cells #[.int .i64 rl, .int .i64 rh] 24)).frozen? ⟨b, 0, none⟩ = false := (hb8.frozen (p := ⟨b, 0, none⟩) hb).trans hf
 have g5 : (w1.alloc (.cells #[.int .i64 rl, .int .i64 rh] 24)).cell? ⟨w.heap.size + 2, 0, none⟩ = some (.int .i64 0) := by go_simp
 have g6 : (w1.alloc (.cells #[.int .i64 rl, .int .i64 rh] 24)).cell? ⟨w.heap.size + 2, 1, none⟩ = some (.int .i64 0) := by go_simp
 have g7 : (w1.alloc (.cells #[.int .i64 rl, .int .i64 rh] 24)).frozen? ⟨w.heap.size + 2, 0, none⟩ = false := by go_simp
 have g8 : (w1.alloc (.cells #[.int .i64 rl, .int .i64 rh] 24)).frozen? ⟨w.heap.size + 2, 1, none⟩ = false := by go_simp
 have l2 : b < (w1.alloc (.cells #[.int .i64 rl, .int .i64 rh] 24)).heap.size := by simp; omega
 have l3 : w.heap.size + 2 < (w1.alloc (.cells #[.int .i64 rl, .int .i64 rh] 24)).heap.size := by simp; omega
 have hz3 : w.heap.size + 3 ≤ (w1.alloc (.cells #[.int .i64 rl, .int .i64 rh] 24)).heap.size := by simp; omega
 clear g0 g1 g2 g3 g4 c1 f1 l1 hb1 hbb hz1
 generalize w1.alloc (.cells #[.int .i64 rl, .int .i64 rh] 24) = w3 at *
 refine (KP.out _ c2 f2 l2).mono ?_
 rintro r w2 ⟨rfl, hb2⟩
 obtain ⟨hc2, hf2⟩ := bcell hb2
 have hz2 := hb2.size
 simp only [World.size_setCell] at hz2 hc2 hf2
 have k0 : w2.cell? ⟨w.heap.size + 2, 0, none⟩ = some (.int .i64 0) := by rw [hc2 _ _ l3]; go_simp
 have k1 : w2.cell? ⟨w.heap.size + 2, 1, none⟩ = some (.int .i64 0) := by rw [hc2 _ _ l3]; go_simp
 have k2 : w2.frozen? ⟨w.heap.size + 2, 0, none⟩ = false := by rw [hf2 _ _ l3]; go_simp
 have k3 : w2.frozen? ⟨w.heap.size + 2, 1, none⟩ = false := by rw [hf2 _ _ l3]; go_simp
 have k4 : w.heap.size + 2 < w2.heap.size := by omega
 have hbf : Below (w.setCell ⟨b, 0, none⟩ (.int .i64 e1)).heap.size (w.setCell ⟨b, 0, none⟩ (.int .i64 e1)) w2 := by
  refine (below_set2 (n := (w.setCell ⟨b, 0, none⟩ (.int .i64 e1)).heap.size) (by simpa using hb8) _ _).trans (hb2.mono ?_)
  simp only [World.size_setCell]; omega
 have HBF := hide hbf
 clear hc2 hf2 hb2 hbf hb8
 go_wp2
 refine bodyPost_ret (v := (.agg #[.int .i64 (x), .int .i64 (y)])) (by simp only [results, Try.results24]; go_simp) rfl ⟨rfl, by have hbf := HBF.out; exact blw_⟩
set_option maxHeartbeats 1000000 in
theorem cMul_any (b : Nat) (e0 al ah bl bh rl rh e : Int) (OP : ∀ W, Calls Try.prog 73 #[.agg #[.int .i64 (al), .int .i64 (ah)], .agg #[.int .i64 (bl), .int .i64 (bh)]] W fun r W' => r = .returned (.tuple #[.agg #[.int .i64 (rl), .int .i64 (rh)], .int .i64 e]) ∧ Below W.heap.size W W') (w : World) (hc : w.cell? ⟨b, 0, none⟩ = some (.int .i64 e0)) (hf : w.frozen? ⟨b, 0, none⟩ = false) (hb : b < w.heap.size) :
  Calls Try.prog 23 #[.pointer (some ⟨b, 0, none⟩), .agg #[.int .i64 (al), .int .i64 (ah)], .agg #[.int .i64 (bl), .int .i64 (bh)]] w fun r w' => r = .returned (.agg #[.int .i64 (ckV e0 rl), .int .i64 (ckV e0 rh)]) ∧ Below (w.setCell ⟨b, 0, none⟩ (.int .i64 (ckE e0 e))).heap.size (w.setCell ⟨b, 0, none⟩ (.int .i64 (ckE e0 e))) w' := by
 have OP := hide OP
 have KP := hide (fun W => rkeep_any b e0 rl rh e W)
 generalize ckV e0 rl = x at *
 generalize ckV e0 rh = y at *
 generalize ckE e0 e = e1 at *
 go_enter Try.func23, Try.ntmps23
 go_wp2_with fail
 refine (OP.out _).mono ?_
 rintro r w1 ⟨rfl, hb1⟩
 obtain ⟨hc1, hf1⟩ := bcell hb1
 have hz1 := hb1.size
 simp only [World.size_alloc] at hz1
 have hbb : Below w.heap.size w w1 := blw_
 have c1 : w1.cell? ⟨b, 0, none⟩ = some (.int .i64 e0) := (hbb.cell (p := ⟨b, 0, none⟩) hb).trans hc
 have f1 : w1.frozen? ⟨b, 0, none⟩ = false := (hbb.frozen (p := ⟨b, 0, none⟩) hb).trans hf
 have l1 : b < w1.heap.size := by omega
 have g0 := zci w1 (w.heap.size + 2) 0 0 (by go_simp)
 have g1 := zci w1 (w.heap.size + 2) 1 0 (by go_simp)
 have g2 := zfe w1 (w.heap.size + 2) 0 (by go_simp)
 have g3 := zfe w1 (w.heap.size + 2) 1 (by go_simp)
 have g4 : w.heap.size + 2 < w1.heap.size := by omega
 have hne : ¬ b = w.heap.size + 2 := by omega
 have hne' : ¬ w.heap.size + 2 = b := by omega
 clear hc1 hf1
 go_wp2_with fail
 have hb8 : Below w.heap.size w (w1.alloc (.cells #[.int .i64 rl, .int .i64 rh] 24)) := hbb.alloc (by omega) _
 have c2 : (w1.alloc (.cells #[.int .i64 rl, .int .i64 rh] 24)).cell? ⟨b, 0, none⟩ = some (.int .i64 e0) := (hb8.cell (p := ⟨b, 0, none⟩) hb).trans hc
 have f2 : (w1.alloc (.cells #[.int .i64 rl, .int .i64 rh] 24)).frozen? ⟨b, 0, none⟩ = false := (hb8.frozen (p := ⟨b, 0, none⟩) hb).trans hf
 have g5 : (w1.alloc (.cells #[.int .i64 rl, .int .i64 rh] 24)).cell? ⟨w.heap.size + 2, 0, none⟩ = some (.int .i64 0) := by go_simp
 have g6 : (w1.alloc (.cells #[.int .i64 rl, .int .i64 rh] 24)).cell? ⟨w.heap.size + 2, 1, none⟩ = some (.int .i64 0) := by go_simp
 have g7 : (w1.alloc (.cells #[.int .i64 rl, .int .i64 rh] 24)).frozen? ⟨w.heap.size + 2, 0, none⟩ = false := by go_simp
 have g8 : (w1.alloc (.cells #[.int .i64 rl, .int .i64 rh] 24)).frozen? ⟨w.heap.size + 2, 1, none⟩ = false := by go_simp
 have l2 : b < (w1.alloc (.cells #[.int .i64 rl, .int .i64 rh] 24)).heap.size := by simp; omega
 have l3 : w.heap.size + 2 < (w1.alloc (.cells #[.int .i64 rl, .int .i64 rh] 24)).heap.size := by simp; omega
 have hz3 : w.heap.size + 3 ≤ (w1.alloc (.cells #[.int .i64 rl, .int .i64 rh] 24)).heap.size := by simp; omega
 clear g0 g1 g2 g3 g4 c1 f1 l1 hb1 hbb hz1
 generalize w1.alloc (.cells #[.int .i64 rl, .int .i64 rh] 24) = w3 at *
 refine (KP.out _ c2 f2 l2).mono ?_
 rintro r w2 ⟨rfl, hb2⟩
 obtain ⟨hc2, hf2⟩ := bcell hb2
 have hz2 := hb2.size
 simp only [World.size_setCell] at hz2 hc2 hf2
 have k0 : w2.cell? ⟨w.heap.size + 2, 0, none⟩ = some (.int .i64 0) := by rw [hc2 _ _ l3]; go_simp
 have k1 : w2.cell? ⟨w.heap.size + 2, 1, none⟩ = some (.int .i64 0) := by rw [hc2 _ _ l3]; go_simp
 have k2 : w2.frozen? ⟨w.heap.size + 2, 0, none⟩ = false := by rw [hf2 _ _ l3]; go_simp
 have k3 : w2.frozen? ⟨w.heap.size + 2, 1, none⟩ = false := by rw [hf2 _ _ l3]; go_simp
 have k4 : w.heap.size + 2 < w2.heap.size := by omega
 have hbf : Below (w.setCell ⟨b, 0, none⟩ (.int .i64 e1)).heap.size (w.setCell ⟨b, 0, none⟩ (.int .i64 e1)) w2 := by
  refine (below_set2 (n := (w.setCell ⟨b, 0, none⟩ (.int .i64 e1)).heap.size) (by simpa using hb8) _ _).trans (hb2.mono ?_)
  simp only [World.size_setCell]; omega
 have HBF := hide hbf
 clear hc2 hf2 hb2 hbf hb8
 go_wp2
 refine bodyPost_ret (v := (.agg #[.int .i64 (x), .int .i64 (y)])) (by simp only [results, Try.results23]; go_simp) rfl ⟨rfl, by have hbf := HBF.out; exact blw_⟩
end Sw
end
section
set_option maxRecDepth 100000
namespace Sw
end Sw
end
end Go.Proofs.Ytacpahebbnnckaa
