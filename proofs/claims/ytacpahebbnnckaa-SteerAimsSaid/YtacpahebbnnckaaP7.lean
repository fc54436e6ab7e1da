/- Packed: Abs QG Pair. -/
import Derived.Test.YtacpahebbnnckaaP5
import Derived.Test.YtacpahebbnnckaaP6
set_option linter.unusedVariables false
set_option linter.unusedSimpArgs false
namespace Go.Proofs.Ytacpahebbnnckaa
section
open Go.RowKit
def absL (al ah : Int) : Int := if 0 ≤ al then al else if ah ≤ 0 then -ah else 0
def absH (al ah : Int) : Int := if 0 ≤ al then ah else if ah ≤ 0 then -al else mx (-al) ah
theorem abs_any (al ah : Int) (i0 : I64 al) (i1 : I64 ah) (w : World) :
  Calls Try.prog 104 #[.agg #[.int .i64 (al), .int .i64 (ah)]] w fun e w' => e = .returned (.tuple #[.agg #[.int .i64 (okI (vB al ah) (absL al ah)), .int .i64 (okI (vB al ah) (absH al ah))], .int .i64 (errE (vB al ah) 0)]) ∧ Below w.heap.size w w' := by
 have h0 := i0.1
 have b1 := i1.2
 cases hv : vB al ah
 ·rw [ok_f, ok_f, err_f]
  have HV := hide hv
  clear hv i0 i1
  go_enter Try.func104, Try.ntmps104
  go_wp2_with fail
  go_at_call 116
  refine (invalid1 al ah _ _ _ h0 (by go_simp) (by go_simp) (by go_simp) true (by simpa using HV.out)).mono ?_
  rintro e w1 ⟨rfl, hb1⟩
  obtain ⟨hc1, hf1⟩ := bcell hb1
  have hz1 := hb1.size
  try simp only [World.size_alloc, World.size_setCell] at hz1
  try refine zw2 w w1 (by omega) fun _ _ _ _ => ?_
  go_wp2
  refine bodyPost_ret (v := .tuple #[.agg #[.int .i64 (0), .int .i64 (0)], .int .i64 2]) (by simp only [results, Try.results104]; go_simp) rfl ⟨rfl, blw_⟩
 ·rw [ok_t, ok_t, err_t]
  have HV := hide hv
  obtain ⟨v1, v2⟩ := vB_tt hv
  by_cases c : 0 ≤ al
  ·have E := hide (show absL al ah = al ∧ absH al ah = ah by simp [absL, absH, c])
   clear hv i0 i1
   rw [E.out.1, E.out.2]
   go_enter Try.func104, Try.ntmps104
   go_wp2_with fail
   go_at_call 116
   refine (invalid1 al ah _ _ _ h0 (by go_simp) (by go_simp) (by go_simp) false (by simpa using HV.out)).mono ?_
   rintro e w1 ⟨rfl, hb1⟩
   obtain ⟨hc1, hf1⟩ := bcell hb1
   have hz1 := hb1.size
   try simp only [World.size_alloc, World.size_setCell] at hz1
   try refine zw2 w w1 (by omega) fun _ _ _ _ => ?_
   go_wp2
   refine bodyPost_ret (v := .tuple #[.agg #[.int .i64 (al), .int .i64 (ah)], .int .i64 0]) (by simp only [results, Try.results104]; go_simp) rfl ⟨rfl, blw_⟩
  ·by_cases c2 : ah ≤ 0
   ·have E := hide (show absL al ah = -ah ∧ absH al ah = -al by simp [absL, absH, c, c2])
    have NG := neg_any al ah i0 i1
    rw [hv, ok_t, ok_t, err_t] at NG
    have NG' := hide NG
    clear hv i0 i1 NG
    rw [E.out.1, E.out.2]
    go_enter Try.func104, Try.ntmps104
    go_wp2_with fail
    go_at_call 116
    refine (invalid1 al ah _ _ _ h0 (by go_simp) (by go_simp) (by go_simp) false (by simpa using HV.out)).mono ?_
    rintro e w1 ⟨rfl, hb1⟩
    obtain ⟨hc1, hf1⟩ := bcell hb1
    have hz1 := hb1.size
    try simp only [World.size_alloc, World.size_setCell] at hz1
    try refine zw2 w w1 (by omega) fun _ _ _ _ => ?_
    have c1_0_0 := zci w1 w.heap.size 0 (al) (by go_simp)
    have c1_0_1 := zci w1 w.heap.size 1 (ah) (by go_simp)
    have c1_1_0 := zci w1 (w.heap.size + 1) 0 (0) (by go_simp)
    have g1_1_0 := zfe w1 (w.heap.size + 1) 0 (by go_simp)
    have c1_1_1 := zci w1 (w.heap.size + 1) 1 (0) (by go_simp)
    have g1_1_1 := zfe w1 (w.heap.size + 1) 1 (by go_simp)
    clear hc1 hf1
    go_wp2_with fail
    refine (NG'.out _).mono ?_
    rintro e w2 ⟨rfl, hb2⟩
    obtain ⟨hc2, hf2⟩ := bcell hb2
    have hz2 := hb2.size
    try simp only [World.size_alloc, World.size_setCell] at hz2
    try refine zw2 w w2 (by omega) fun _ _ _ _ => ?_
    have c2_0_0 := zci w2 w.heap.size 0 (al) (by go_simp)
    have c2_0_1 := zci w2 w.heap.size 1 (ah) (by go_simp)
    have c2_1_0 := zci w2 (w.heap.size + 1) 0 (0) (by go_simp)
    have g2_1_0 := zfe w2 (w.heap.size + 1) 0 (by go_simp)
    have c2_1_1 := zci w2 (w.heap.size + 1) 1 (0) (by go_simp)
    have g2_1_1 := zfe w2 (w.heap.size + 1) 1 (by go_simp)
    clear hc2 hf2 c1_0_0 c1_0_1 c1_1_0 g1_1_0 c1_1_1 g1_1_1
    go_wp2
    refine bodyPost_ret (v := .tuple #[.agg #[.int .i64 (-ah), .int .i64 (-al)], .int .i64 0]) (by simp only [results, Try.results104]; go_simp) rfl ⟨rfl, blw_⟩
   ·have E := hide (show absL al ah = 0 ∧ absH al ah = mx (-al) ah by simp [absL, absH, c, c2])
    have m1 := mx_eq (-al) ah
    clear hv i0 i1
    rw [E.out.1, E.out.2]
    go_enter Try.func104, Try.ntmps104
    go_wp2_with fail
    go_at_call 116
    refine (invalid1 al ah _ _ _ h0 (by go_simp) (by go_simp) (by go_simp) false (by simpa using HV.out)).mono ?_
    rintro e w1 ⟨rfl, hb1⟩
    obtain ⟨hc1, hf1⟩ := bcell hb1
    have hz1 := hb1.size
    try simp only [World.size_alloc, World.size_setCell] at hz1
    try refine zw2 w w1 (by omega) fun _ _ _ _ => ?_
    go_wp2
    refine bodyPost_ret (v := .tuple #[.agg #[.int .i64 (0), .int .i64 (mx (-al) ah)], .int .i64 0]) (by simp only [results, Try.results104]; go_simp) rfl ⟨rfl, blw_⟩
theorem rabs_any (al ah : Int) (i0 : I64 al) (i1 : I64 ah) (w : World) :
  Calls Try.prog 68 #[.agg #[.int .i64 (al), .int .i64 (ah)]] w fun e w' => e = .returned (.tuple #[.agg #[.int .i64 (okI (vB al ah) (absL al ah)), .int .i64 (okI (vB al ah) (absH al ah))], .int .i64 (errE (vB al ah) 0)]) ∧ Below w.heap.size w w' := by
 have h0 := i0.1
 have b1 := i1.2
 cases hv : vB al ah
 ·rw [ok_f, ok_f, err_f]
  have HV := hide (show chkI al ah = 2 by simp [chkI, hv])
  clear hv i0 i1
  go_enter Try.func68, Try.ntmps68
  go_wp2_with fail
  refine (rcheck al ah 2 HV.out _).mono ?_
  rintro e w1 ⟨rfl, hb1⟩
  obtain ⟨hc1, hf1⟩ := bcell hb1
  have hz1 := hb1.size
  try simp only [World.size_alloc, World.size_setCell] at hz1
  try refine zw2 w w1 (by omega) fun _ _ _ _ => ?_
  go_wp2
  refine bodyPost_ret (v := .tuple #[.agg #[.int .i64 (0), .int .i64 (0)], .int .i64 2]) (by simp only [results, Try.results68]; go_simp) rfl ⟨rfl, blw_⟩
 ·rw [ok_t, ok_t, err_t]
  have HV := hide (show chkI al ah = 0 by simp [chkI, hv])
  obtain ⟨v1, v2⟩ := vB_tt hv
  by_cases c : 0 ≤ al
  ·have E := hide (show absL al ah = al ∧ absH al ah = ah by simp [absL, absH, c])
   clear hv i0 i1
   rw [E.out.1, E.out.2]
   go_enter Try.func68, Try.ntmps68
   go_wp2_with fail
   refine (rcheck al ah 0 HV.out _).mono ?_
   rintro e w1 ⟨rfl, hb1⟩
   obtain ⟨hc1, hf1⟩ := bcell hb1
   have hz1 := hb1.size
   try simp only [World.size_alloc, World.size_setCell] at hz1
   try refine zw2 w w1 (by omega) fun _ _ _ _ => ?_
   go_wp2
   refine bodyPost_ret (v := .tuple #[.agg #[.int .i64 (al), .int .i64 (ah)], .int .i64 0]) (by simp only [results, Try.results68]; go_simp) rfl ⟨rfl, blw_⟩
  ·by_cases c2 : ah ≤ 0
   ·have E := hide (show absL al ah = -ah ∧ absH al ah = -al by simp [absL, absH, c, c2])
    have NG := rneg_any al ah i0 i1
    rw [hv, ok_t, ok_t, err_t] at NG
    have NG' := hide NG
    clear hv i0 i1 NG
    rw [E.out.1, E.out.2]
    go_enter Try.func68, Try.ntmps68
    go_wp2_with fail
    refine (rcheck al ah 0 HV.out _).mono ?_
    rintro e w1 ⟨rfl, hb1⟩
    obtain ⟨hc1, hf1⟩ := bcell hb1
    have hz1 := hb1.size
    try simp only [World.size_alloc, World.size_setCell] at hz1
    try refine zw2 w w1 (by omega) fun _ _ _ _ => ?_
    have c1_0_0 := zci w1 w.heap.size 0 (al) (by go_simp)
    have c1_0_1 := zci w1 w.heap.size 1 (ah) (by go_simp)
    have c1_1_0 := zci w1 (w.heap.size + 1) 0 (0) (by go_simp)
    have g1_1_0 := zfe w1 (w.heap.size + 1) 0 (by go_simp)
    have c1_1_1 := zci w1 (w.heap.size + 1) 1 (0) (by go_simp)
    have g1_1_1 := zfe w1 (w.heap.size + 1) 1 (by go_simp)
    clear hc1 hf1
    go_wp2_with fail
    refine (NG'.out _).mono ?_
    rintro e w2 ⟨rfl, hb2⟩
    obtain ⟨hc2, hf2⟩ := bcell hb2
    have hz2 := hb2.size
    try simp only [World.size_alloc, World.size_setCell] at hz2
    try refine zw2 w w2 (by omega) fun _ _ _ _ => ?_
    have c2_0_0 := zci w2 w.heap.size 0 (al) (by go_simp)
    have c2_0_1 := zci w2 w.heap.size 1 (ah) (by go_simp)
    have c2_1_0 := zci w2 (w.heap.size + 1) 0 (0) (by go_simp)
    have g2_1_0 := zfe w2 (w.heap.size + 1) 0 (by go_simp)
    have c2_1_1 := zci w2 (w.heap.size + 1) 1 (0) (by go_simp)
    have g2_1_1 := zfe w2 (w.heap.size + 1) 1 (by go_simp)
    clear hc2 hf2 c1_0_0 c1_0_1 c1_1_0 g1_1_0 c1_1_1 g1_1_1
    go_wp2
    refine bodyPost_ret (v := .tuple #[.agg #[.int .i64 (-ah), .int .i64 (-al)], .int .i64 0]) (by simp only [results, Try.results68]; go_simp) rfl ⟨rfl, blw_⟩
   ·have E := hide (show absL al ah = 0 ∧ absH al ah = mx (-al) ah by simp [absL, absH, c, c2])
    have m1 := mx_eq (-al) ah
    clear hv i0 i1
    rw [E.out.1, E.out.2]
    go_enter Try.func68, Try.ntmps68
    go_wp2_with fail
    refine (rcheck al ah 0 HV.out _).mono ?_
    rintro e w1 ⟨rfl, hb1⟩
    obtain ⟨hc1, hf1⟩ := bcell hb1
    have hz1 := hb1.size
    try simp only [World.size_alloc, World.size_setCell] at hz1
    try refine zw2 w w1 (by omega) fun _ _ _ _ => ?_
    go_wp2
    refine bodyPost_ret (v := .tuple #[.agg #[.int .i64 (0), .int .i64 (mx (-al) ah)], .int .i64 0]) (by simp only [results, Try.results68]; go_simp) rfl ⟨rfl, blw_⟩
end
section

end
section
open Go.RowKit
structure Pair (w : World) (b1 b2 : Nat) (r1 r2 r3 r4 : Int) (w' : World) : Prop where
 below : Below w.heap.size w w'
 c1 : w'.cell? ⟨b1, 0, none⟩ = some (.int .i64 r1)
 c2 : w'.cell? ⟨b1, 1, none⟩ = some (.int .i64 r2)
 c3 : w'.cell? ⟨b2, 0, none⟩ = some (.int .i64 r3)
 c4 : w'.cell? ⟨b2, 1, none⟩ = some (.int .i64 r4)
 f1 : w'.frozen? ⟨b1, 0, none⟩ = false
 f2 : w'.frozen? ⟨b1, 1, none⟩ = false
 f3 : w'.frozen? ⟨b2, 0, none⟩ = false
 f4 : w'.frozen? ⟨b2, 1, none⟩ = false
theorem Pair.stored {w w' : World} {b1 b2 : Nat} {r1 r2 r3 r4 : Int} (hn : ¬ b1 = b2) (hb : w.heap.size ≤ b1) (h : Pair w b1 b2 r1 r2 r3 r4 w') : Pair w b1 b2 r1 r2 r3 r4 ((w'.setCell ⟨b1, 0, none⟩ (.int .i64 r1)).setCell ⟨b1, 1, none⟩ (.int .i64 r2)) := by
 obtain ⟨h0, c1, c2, c3, c4, f1, f2, f3, f4⟩ := h
 have hn' : ¬ b2 = b1 := fun e => hn e.symm
 exact ⟨(h0.setCell (p := ⟨b1, 0, none⟩) hb _).setCell (p := ⟨b1, 1, none⟩) hb _, by go_simp, by go_simp, by go_simp, by go_simp, by go_simp, by go_simp, by go_simp, by go_simp⟩
theorem Pair.stored2 {w w' : World} {b1 b2 : Nat} {r1 r2 r3 r4 : Int} (hn : ¬ b1 = b2) (hb : w.heap.size ≤ b2) (h : Pair w b1 b2 r1 r2 r3 r4 w') : Pair w b1 b2 r1 r2 r3 r4 ((w'.setCell ⟨b2, 0, none⟩ (.int .i64 r3)).setCell ⟨b2, 1, none⟩ (.int .i64 r4)) := by
 obtain ⟨h0, c1, c2, c3, c4, f1, f2, f3, f4⟩ := h
 have hn' : ¬ b2 = b1 := fun e => hn e.symm
 exact ⟨(h0.setCell (p := ⟨b2, 0, none⟩) hb _).setCell (p := ⟨b2, 1, none⟩) hb _, by go_simp, by go_simp, by go_simp, by go_simp, by go_simp, by go_simp, by go_simp, by go_simp⟩
structure Pair4 (w : World) (b1 b2 b3 b4 : Nat) (r1 r2 r3 r4 x1 x2 : Int) (w' : World) : Prop where
 below : Below w.heap.size w w'
 c1 : w'.cell? ⟨b1, 0, none⟩ = some (.int .i64 x1)
 c2 : w'.cell? ⟨b1, 1, none⟩ = some (.int .i64 x2)
 c3 : w'.cell? ⟨b2, 0, none⟩ = some (.int .i64 0)
 c4 : w'.cell? ⟨b2, 1, none⟩ = some (.int .i64 0)
 c5 : w'.cell? ⟨b3, 0, none⟩ = some (.int .i64 r1)
 c6 : w'.cell? ⟨b3, 1, none⟩ = some (.int .i64 r2)
 c7 : w'.cell? ⟨b4, 0, none⟩ = some (.int .i64 r3)
 c8 : w'.cell? ⟨b4, 1, none⟩ = some (.int .i64 r4)
 f1 : w'.frozen? ⟨b1, 0, none⟩ = false
 f2 : w'.frozen? ⟨b1, 1, none⟩ = false
 f3 : w'.frozen? ⟨b2, 0, none⟩ = false
 f4 : w'.frozen? ⟨b2, 1, none⟩ = false
def px (j : Option Value) (r : Int) : Int := match j with
 | none => 0
 | some _ => r
theorem Pair4.stored {w w' : World} {b1 b2 b3 b4 : Nat} {r1 r2 r3 r4 x1 x2 : Int} (hn : ¬ b1 = b2) (h3 : ¬ b1 = b3) (h4 : ¬ b1 = b4) (hb : w.heap.size ≤ b1) (h : Pair4 w b1 b2 b3 b4 r1 r2 r3 r4 x1 x2 w') : Pair4 w b1 b2 b3 b4 r1 r2 r3 r4 r1 r2 ((w'.setCell ⟨b1, 0, none⟩ (.int .i64 r1)).setCell ⟨b1, 1, none⟩ (.int .i64 r2)) := by
 obtain ⟨h0, c1, c2, c3, c4, c5, c6, c7, c8, f1, f2, f3, f4⟩ := h
 have hn' : ¬ b2 = b1 := fun e => hn e.symm
 have h3' : ¬ b3 = b1 := fun e => h3 e.symm
 have h4' : ¬ b4 = b1 := fun e => h4 e.symm
 exact ⟨(h0.setCell (p := ⟨b1, 0, none⟩) hb _).setCell (p := ⟨b1, 1, none⟩) hb _, by go_simp, by go_simp, by go_simp, by go_simp, by go_simp, by go_simp, by go_simp, by go_simp, by go_simp, by go_simp, by go_simp, by go_simp⟩
end
end Go.Proofs.Ytacpahebbnnckaa
