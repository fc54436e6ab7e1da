/- Packed: RDivAny. -/
import Derived.ProofKit
import Derived.Lib.SmallJoins
import Derived.Test.YtacpahebbnnckaaP19
import Derived.Test.YtacpahebbnnckaaP22
set_option linter.unusedVariables false
set_option linter.unusedSimpArgs false
namespace Go.Proofs.Ytacpahebbnnckaa
section
open Go.RowKit
theorem rdiv_any (al ah bl bh : Int) (i0 : I64 al) (j0 : I64 ah) (i1 : I64 bl) (j1 : I64 bh) (w : World) :
  Calls Try.prog 101 #[.agg #[.int .i64 (al), .int .i64 (ah)], .agg #[.int .i64 (bl), .int .i64 (bh)]] w fun e w' => e = .returned (.tuple #[.agg #[.int .i64 (okI (vB al ah && vB bl bh) (zI (zB bl bh) (oLo (mi (dL al bl bh) (dL ah bl bh)) (mx (dH al bl bh) (dH ah bl bh))))), .int .i64 (okI (vB al ah && vB bl bh) (zI (zB bl bh) (oHi (mi (dL al bl bh) (dL ah bl bh)) (mx (dH al bl bh) (dH ah bl bh)))))], .int .i64 (errE (vB al ah && vB bl bh) (zE (zB bl bh) (oE (mi (dL al bl bh) (dL ah bl bh)) (mx (dH al bl bh) (dH ah bl bh)))))]) ∧ Below w.heap.size w w' := by
 cases hv : (vB al ah && vB bl bh)
 ·rw [ok_f, ok_f, err_f]
  have HV := hide (rboth al ah bl bh 2 (by rw [hv]; rfl))
  clear hv i0 i1 j0 j1
  go_enter Try.func101, Try.ntmps101
  go_wp2_with fail
  refine (HV.out _).mono ?_
  rintro e w1 ⟨rfl, hb1⟩
  obtain ⟨hc1, hf1⟩ := bcell hb1
  have hz1 := hb1.size
  try simp only [World.size_alloc, World.size_setCell] at hz1
  try refine zw3 w w1 (by omega) fun _ _ _ _ _ _ => ?_
  have c1_0_0 := zci w1 w.heap.size 0 (al) (by go_simp)
  have c1_0_1 := zci w1 w.heap.size 1 (ah) (by go_simp)
  have c1_1_0 := zci w1 (w.heap.size + 1) 0 (bl) (by go_simp)
  have c1_1_1 := zci w1 (w.heap.size + 1) 1 (bh) (by go_simp)
  have c1_2_0 := zci w1 (w.heap.size + 1 + 1) 0 (0) (by go_simp)
  have g1_2_0 := zfe w1 (w.heap.size + 1 + 1) 0 (by go_simp)
  have c1_2_1 := zci w1 (w.heap.size + 1 + 1) 1 (0) (by go_simp)
  have g1_2_1 := zfe w1 (w.heap.size + 1 + 1) 1 (by go_simp)
  clear hc1 hf1
  go_wp2
  refine bodyPost_ret (v := .tuple #[.agg #[.int .i64 (0), .int .i64 (0)], .int .i64 2]) (by simp only [results, Try.results101]; go_simp) rfl ⟨rfl, blw_⟩
 ·rw [ok_t, ok_t, err_t]
  cases hz : zB bl bh
  ·have vb : vB bl bh = true := by cases h : vB bl bh <;> simp [h] at hv ⊢
   obtain ⟨n0, n1⟩ := z_ff hz vb
   have hv' : (vB al ah && vB bl bh) = true := hv
   have hzz := of_decide_eq_false hz
   rw [(z_f _).1, (z_f _).1, (z_f _).2]
   have fin : oLo (mi (mi (mi (sL al 4294967296 bl) (sL al 4294967296 bh)) (sL ah 4294967296 bl)) (sL ah 4294967296 bh)) (mx (mx (mx (sH al 4294967296 bl) (sH al 4294967296 bh)) (sH ah 4294967296 bl)) (sH ah 4294967296 bh)) = oLo (mi (dL al bl bh) (dL ah bl bh)) (mx (dH al bl bh) (dH ah bl bh)) ∧ oHi (mi (mi (mi (sL al 4294967296 bl) (sL al 4294967296 bh)) (sL ah 4294967296 bl)) (sL ah 4294967296 bh)) (mx (mx (mx (sH al 4294967296 bl) (sH al 4294967296 bh)) (sH ah 4294967296 bl)) (sH ah 4294967296 bh)) = oHi (mi (dL al bl bh) (dL ah bl bh)) (mx (dH al bl bh) (dH ah bl bh)) ∧ oE (mi (mi (mi (sL al 4294967296 bl) (sL al 4294967296 bh)) (sL ah 4294967296 bl)) (sL ah 4294967296 bh)) (mx (mx (mx (sH al 4294967296 bl) (sH al 4294967296 bh)) (sH ah 4294967296 bl)) (sH ah 4294967296 bh)) = oE (mi (dL al bl bh) (dL ah bl bh)) (mx (dH al bl bh) (dH ah bl bh)) := by
    rw [mi_asc, mx_asc]
    exact ⟨rfl, rfl, rfl⟩
   by_cases c : bl ≤ 0
   ·exact rdiv_loop_NP al ah bl bh _ _ _ _ _ _ _ _ hv' (.inl ⟨c, fun h => hzz ⟨c, h⟩⟩) i0 j0 i1 j1 (rover al bl i0 i1 n0) (rover al bh i0 j1 n1) (rover ah bl j0 i1 n0) (rover ah bh j0 j1 n1) _ _ _ fin w
   ·exact rdiv_loop_NP al ah bl bh _ _ _ _ _ _ _ _ hv' (.inr c) i0 j0 i1 j1 (rover al bl i0 i1 n0) (rover al bh i0 j1 n1) (rover ah bl j0 i1 n0) (rover ah bh j0 j1 n1) _ _ _ fin w
  ·rw [(z_t _).1, (z_t _).1, (z_t _).2]
   have HV := hide (rboth al ah bl bh 0 (by rw [hv]; rfl))
   obtain ⟨c1, c2⟩ := of_decide_eq_true hz
   clear hv hz i0 i1 j0 j1
   go_enter Try.func101, Try.ntmps101
   go_wp2_with fail
   refine (HV.out _).mono ?_
   rintro e w1 ⟨rfl, hb1⟩
   obtain ⟨hc1, hf1⟩ := bcell hb1
   have hz1 := hb1.size
   try simp only [World.size_alloc, World.size_setCell] at hz1
   try refine zw3 w w1 (by omega) fun _ _ _ _ _ _ => ?_
   have c1_0_0 := zci w1 w.heap.size 0 (al) (by go_simp)
   have c1_0_1 := zci w1 w.heap.size 1 (ah) (by go_simp)
   have c1_1_0 := zci w1 (w.heap.size + 1) 0 (bl) (by go_simp)
   have c1_1_1 := zci w1 (w.heap.size + 1) 1 (bh) (by go_simp)
   have c1_2_0 := zci w1 (w.heap.size + 1 + 1) 0 (0) (by go_simp)
   have g1_2_0 := zfe w1 (w.heap.size + 1 + 1) 0 (by go_simp)
   have c1_2_1 := zci w1 (w.heap.size + 1 + 1) 1 (0) (by go_simp)
   have g1_2_1 := zfe w1 (w.heap.size + 1 + 1) 1 (by go_simp)
   clear hc1 hf1
   go_wp2
   refine bodyPost_ret (v := .tuple #[.agg #[.int .i64 (0), .int .i64 (0)], .int .i64 10]) (by simp only [results, Try.results101]; go_simp) rfl ⟨rfl, blw_⟩
namespace lawSpanProducts
open Go.ChangeShapes Go.WideShapes Go.ChangeAt Go.Joins
end lawSpanProducts
end
end Go.Proofs.Ytacpahebbnnckaa
