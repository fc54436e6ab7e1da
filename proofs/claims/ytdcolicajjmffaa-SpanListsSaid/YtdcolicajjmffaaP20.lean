/- Packed: Root2. -/
import Derived.Test.YtdcolicajjmffaaP18
import Derived.Test.YtdcolicajjmffaaP19
set_option linter.unusedVariables false
set_option linter.unusedSimpArgs false
namespace Go.Proofs.Ytdcolicajjmffaa
section
open Go.RowKit
def sqc : Nat → Nat → Nat
 | 0, _ => 0
 | f + 1, n => if n = 0 then 0 else if (2 * sqc f (n / 4) + 1) * (2 * sqc f (n / 4) + 1) ≤ n then 2 * sqc f (n / 4) + 1 else 2 * sqc f (n / 4)
theorem sqc_spec : ∀ (f n : Nat), n ≤ f → sqc f n * sqc f n ≤ n ∧ n < (sqc f n + 1) * (sqc f n + 1)
 | 0, n, h => by obtain rfl : n = 0 := by omega
                 simp [sqc]
 | f + 1, n, h => by
  unfold sqc
  by_cases h0 : n = 0
  ·subst h0; simp
  ·rw [if_neg h0]
   obtain ⟨h1, h2⟩ := sqc_spec f (n / 4) (by omega)
   generalize sqc f (n / 4) = r at h1 h2
   have e1 : (r + 1) * (r + 1) = r * r + 2 * r + 1 := by grind
   have e2 : (2 * r + 1) * (2 * r + 1) = 4 * (r * r) + 4 * r + 1 := by grind
   have e3 : (2 * r + 1 + 1) * (2 * r + 1 + 1) = 4 * (r * r) + 8 * r + 4 := by grind
   have e4 : (2 * r) * (2 * r) = 4 * (r * r) := by grind
   split
   ·rename_i h3
    rw [e3]; omega
   ·rename_i h3
    rw [e4, e2]; rw [e2] at h3; omega
def isq (a : Int) : Int := ((sqc a.toNat a.toNat : Nat) : Int)
theorem isq_spec {a : Int} (h : 0 ≤ a) : 0 ≤ isq a ∧ isq a * isq a ≤ a ∧ a < (isq a + 1) * (isq a + 1) := by
 have s := sqc_spec a.toNat a.toNat (Nat.le_refl _)
 unfold isq
 generalize sqc a.toNat a.toNat = n at *
 obtain ⟨s1, s2⟩ := s
 refine ⟨by omega, ?_, ?_⟩
 ·have : ((n * n : Nat) : Int) ≤ (a.toNat : Int) := by exact_mod_cast s1
  rw [Int.natCast_mul] at this
  omega
 ·have : (a.toNat : Int) < (((n + 1) * (n + 1) : Nat) : Int) := by exact_mod_cast s2
  rw [Int.natCast_mul, Int.natCast_add] at this
  have e : ((1 : Nat) : Int) = 1 := rfl
  rw [e] at this
  omega
theorem isq_mono {a b : Int} (h0 : 0 ≤ a) (h : a ≤ b) : isq a ≤ isq b := by
 obtain ⟨a0, a1, a2⟩ := isq_spec h0
 obtain ⟨b0, b1, b2⟩ := isq_spec (a := b) (by omega)
 have := root_lt (a := isq a) (b := isq b + 1) (by omega) (by omega)
 omega
noncomputable def rtL (x : Int) : Int := isq (x * 4294967296)
noncomputable def rtR (x : Int) : Bool := !(rtL x * rtL x == x * 4294967296)
noncomputable def rtH (x : Int) : Int := rtL x + bI (rtR x)
theorem rt_spec {x : Int} (h : 0 ≤ x) : 0 ≤ rtL x ∧ rtL x * rtL x ≤ x * 4294967296 ∧ x * 4294967296 < (rtL x + 1) * (rtL x + 1) := isq_spec (by omega)
theorem rt_bd {x : Int} (h : 0 ≤ x) (k : x ≤ 9223372036854775807) : rtL x < 281474976710656 := by
 obtain ⟨a0, a1, a2⟩ := rt_spec h
 exact root_lt (by omega) (by omega)
theorem bI_bd (b : Bool) : 0 ≤ bI b ∧ bI b ≤ 1 := by cases b <;> simp [bI]
theorem rt_monoL {x y : Int} (h0 : 0 ≤ x) (h : x ≤ y) : rtL x ≤ rtL y := isq_mono (by omega) (by omega)
theorem rt_monoH {x y : Int} (h0 : 0 ≤ x) (h : x ≤ y) : rtH x ≤ rtH y := by
 have m := rt_monoL h0 h
 obtain ⟨a0, a1, a2⟩ := rt_spec h0
 obtain ⟨b0, b1, b2⟩ := rt_spec (x := y) (by omega)
 have k1 := bI_bd (rtR x)
 have k2 := bI_bd (rtR y)
 by_cases c : rtL x = rtL y
 ·unfold rtH
  cases hy : rtR y
  ·have hx : rtR x = false := by
    unfold rtR at hy ⊢
    simp at hy ⊢
    rw [c] at a1 ⊢
    omega
   rw [hx, c]
   simp [bI]
  ·have : bI true = 1 := rfl
   omega
 ·unfold rtH; omega
def HasU (b c : Nat) (x y : Int) (w : World) : Prop := (w.cell? ⟨b, 0, none⟩ = some (.int .u64 x) ∧ b < w.heap.size) ∧ w.cell? ⟨c, 0, none⟩ = some (.int .u64 y) ∧ c < w.heap.size
theorem HasU.kept (b c : Nat) (x y : Int) : Kept (HasU b c x y) := ⟨fun h hb => ⟨⟨by rw [(bcell hb).1 b 0 h.1.2]; exact h.1.1, Nat.lt_of_lt_of_le h.1.2 hb.size⟩, by rw [(bcell hb).1 c 0 h.2.2]; exact h.2.1, Nat.lt_of_lt_of_le h.2.2 hb.size⟩⟩
theorem small_at (b c : Nat) (H L a r n : Int) (hH : a = H * 18446744073709551616 + L) (hL : 0 ≤ L ∧ L < 18446744073709551616) (hr : 0 ≤ r) (r1 : r * r ≤ a) (r2 : a < (r + 1) * (r + 1)) (n0 : 0 ≤ n) (n1 : n < 562949953421312) :
  AnswersB (HasU b c H L) 59 #[.pointer (some ⟨b, 0, none⟩), .pointer (some ⟨c, 0, none⟩)] n (decide (n ≤ r)) := by
 intro w hw
 obtain ⟨⟨hc, hb⟩, hc', hb'⟩ := hw
 have e : decide (n ≤ r) = decide (n * n ≤ a) := by
  apply decide_eq_decide.2
  constructor
  ·intro h; have := sq_le n0 h; omega
  ·intro h; have := root_lt (a := n) (b := r + 1) (by omega) (by omega); omega
 rw [e]
 have MU := hide (mul64 n n ⟨n0, by omega⟩ ⟨n0, by omega⟩)
 change Calls Try.prog 59 #[.int .u64 n, .pointer (some ⟨b, 0, none⟩), .pointer (some ⟨c, 0, none⟩)] w _
 generalize n * n = m at *
 clear e r1 r2 n0 n1 hr
 by_cases k1 : m / 18446744073709551616 < H
 ·rw [show decide (m ≤ a) = true from decide_eq_true (by omega)]
  clear hH hL
  go_enter Try.func59, Try.ntmps59
  go_wp2_with fail
  refine (MU.out _).mono ?_
  rintro e w ⟨rfl, rfl⟩
  go_wp2
  go_ret
  exact ⟨rfl, blw_⟩
 ·by_cases k2 : m / 18446744073709551616 = H
  ·by_cases k3 : m % 18446744073709551616 ≤ L
   ·rw [show decide (m ≤ a) = true from decide_eq_true (by omega)]
    clear hH hL
    go_enter Try.func59, Try.ntmps59
    go_wp2_with fail
    refine (MU.out _).mono ?_
    rintro e w ⟨rfl, rfl⟩
    go_wp2
    go_ret
    exact ⟨by first | rfl | exact congrArg (fun b => Ending.returned (.bool b)) (decide_eq_true k3), blw_⟩
   ·rw [show decide (m ≤ a) = false from decide_eq_false (by omega)]
    clear hH hL
    go_enter Try.func59, Try.ntmps59
    go_wp2_with fail
    refine (MU.out _).mono ?_
    rintro e w ⟨rfl, rfl⟩
    go_wp2
    go_ret
    exact ⟨congrArg (fun b => Ending.returned (.bool b)) (decide_eq_false (by omega)), blw_⟩
  ·rw [show decide (m ≤ a) = false from decide_eq_false (by omega)]
   clear hH hL
   go_enter Try.func59, Try.ntmps59
   go_wp2_with fail
   refine (MU.out _).mono ?_
   rintro e w ⟨rfl, rfl⟩
   go_wp2
   go_ret
   exact ⟨congrArg (fun b => Ending.returned (.bool b)) (decide_eq_false (by omega)), blw_⟩
theorem root_any (x : Int) (h0 : 0 ≤ x) (h1 : x ≤ 9223372036854775807) (w : World) :
  Calls Try.prog 47 #[.int .i64 x] w fun e w' => e = .returned (.tuple #[.agg #[.int .i64 (rtL x), .int .i64 (rtH x)], .int .i64 0]) ∧ Below w.heap.size w w' := by
 obtain ⟨a0, a1, a2⟩ := rt_spec h0
 have ab := rt_bd h0 h1
 have kb := bI_bd (rtR x)
 have hent : ∀ args w, (callFunc 59 args).run Try.prog w = .ok (.enter 59 args) w := enters_of Try.func59 (by kernel_rfl) rfl
 have wx : IntKind.u64.wrap x = x := by rw [IntKind.wrap_u64]; omega
 have wl : IntKind.u64.wrap (x * 4294967296) = x % 4294967296 * 4294967296 := by rw [IntKind.wrap_u64]; omega
 have GR := hide (fun b c w hw => great48 (HasU b c (x / 4294967296) (x % 4294967296 * 4294967296)) (HasU.kept b c _ _) 59 (.pointer (some ⟨b, 0, none⟩)) (.pointer (some ⟨c, 0, none⟩)) hent (rtL x) ⟨a0, ab⟩ (fun n n0 n1 => small_at b c _ _ (x * 4294967296) (rtL x) n (by omega) ⟨by omega, by omega⟩ a0 a1 a2 n0 n1) w hw)
 have MU := hide (mul64 (rtL x) (rtL x) ⟨a0, by omega⟩ ⟨a0, by omega⟩)
 have OW := outward_any false (rtR x) (rtL x) (rtL x) (rtH x) ⟨a0, by omega⟩ rfl rfl
 have ft := out_t (lo := rtL x) (hi := rtH x) (decide_eq_true (by unfold rtH; omega))
 rw [ft.1, ft.2.1, ft.2.2] at OW
 have hR : rtR x = !(rtL x * rtL x == x * 4294967296) := rfl
 have m0 : 0 ≤ rtL x * rtL x := Int.mul_nonneg a0 a0
 generalize rtH x = HI at *
 generalize hr : rtR x = RR at *
 generalize rtL x = r at *
 generalize r * r = m at *
 have hcase : (RR = false ∧ m / 18446744073709551616 = x / 4294967296 ∧ m % 18446744073709551616 = x % 4294967296 * 4294967296) ∨ (RR = true ∧ ¬ m / 18446744073709551616 = x / 4294967296) ∨ (RR = true ∧ m / 18446744073709551616 = x / 4294967296 ∧ ¬ m % 18446744073709551616 = x % 4294967296 * 4294967296) := by
  by_cases c : m = x * 4294967296
  ·left
   exact ⟨by rw [hR]; simp [c], by omega, by omega⟩
  ·have : RR = true := by rw [hR]; simp [c]
   by_cases c2 : m / 18446744073709551616 = x / 4294967296
   ·right; right; exact ⟨this, c2, by omega⟩
   ·right; left; exact ⟨this, c2⟩
 clear a0 a1 a2 ab kb hent ft m0 h0 h1 hr hR
 rcases hcase with ⟨rfl, k1, k2⟩ | ⟨rfl, k1⟩ | ⟨rfl, k1, k2⟩
 all_goals have OW' := hide OW
 all_goals clear OW
 ·go_enter Try.func47, Try.ntmps47
  go_wp2_with fail
  refine (GR.out (w.heap.size + 1) (w.heap.size + 1 + 1) _ ⟨⟨by go_simp, by simp <;> omega⟩, by go_simp, by simp <;> omega⟩).mono ?_
  rintro e w1 ⟨rfl, hb1⟩
  obtain ⟨hc1, hf1⟩ := bcell hb1
  have hz1 := hb1.size
  try simp only [World.size_alloc, World.size_setCell] at hz1
  try refine zw3 w w1 (by omega) fun _ _ _ _ _ _ => ?_
  have c1_0_0 := zci w1 w.heap.size 0 (0) (by go_simp)
  have g1_0_0 := zfe w1 w.heap.size 0 (by go_simp)
  have c1_0_1 := zci w1 w.heap.size 1 (0) (by go_simp)
  have g1_0_1 := zfe w1 w.heap.size 1 (by go_simp)
  have c1_1_0 := zcu w1 (w.heap.size + 1) 0 (x / 4294967296) (by go_simp)
  have c1_2_0 := zcu w1 (w.heap.size + 1 + 1) 0 (x % 4294967296 * 4294967296) (by go_simp)
  clear hc1 hf1
  go_wp2_with fail
  refine (MU.out _).mono ?_
  rintro e w1 ⟨rfl, rfl⟩
  go_wp2_with fail
  refine (OW'.out _).mono ?_
  rintro e w2 ⟨rfl, hb2⟩
  obtain ⟨hc2, hf2⟩ := bcell hb2
  have hz2 := hb2.size
  try simp only [World.size_alloc, World.size_setCell] at hz2
  try refine zw3 w w2 (by omega) fun _ _ _ _ _ _ => ?_
  have c2_0_0 := zci w2 w.heap.size 0 (0) (by go_simp)
  have g2_0_0 := zfe w2 w.heap.size 0 (by go_simp)
  have c2_0_1 := zci w2 w.heap.size 1 (0) (by go_simp)
  have g2_0_1 := zfe w2 w.heap.size 1 (by go_simp)
  clear hc2 hf2
  go_wp2
  refine bodyPost_ret (v := .tuple #[.agg #[.int .i64 (r), .int .i64 (HI)], .int .i64 0]) (by simp only [results, Try.results47]; go_simp) rfl ⟨rfl, blw_⟩
 ·go_enter Try.func47, Try.ntmps47
  go_wp2_with fail
  refine (GR.out (w.heap.size + 1) (w.heap.size + 1 + 1) _ ⟨⟨by go_simp, by simp <;> omega⟩, by go_simp, by simp <;> omega⟩).mono ?_
  rintro e w1 ⟨rfl, hb1⟩
  obtain ⟨hc1, hf1⟩ := bcell hb1
  have hz1 := hb1.size
  try simp only [World.size_alloc, World.size_setCell] at hz1
  try refine zw3 w w1 (by omega) fun _ _ _ _ _ _ => ?_
  have c1_0_0 := zci w1 w.heap.size 0 (0) (by go_simp)
  have g1_0_0 := zfe w1 w.heap.size 0 (by go_simp)
  have c1_0_1 := zci w1 w.heap.size 1 (0) (by go_simp)
  have g1_0_1 := zfe w1 w.heap.size 1 (by go_simp)
  have c1_1_0 := zcu w1 (w.heap.size + 1) 0 (x / 4294967296) (by go_simp)
  have c1_2_0 := zcu w1 (w.heap.size + 1 + 1) 0 (x % 4294967296 * 4294967296) (by go_simp)
  clear hc1 hf1
  go_wp2_with fail
  refine (MU.out _).mono ?_
  rintro e w1 ⟨rfl, rfl⟩
  go_wp2_with fail
  refine (OW'.out _).mono ?_
  rintro e w2 ⟨rfl, hb2⟩
  obtain ⟨hc2, hf2⟩ := bcell hb2
  have hz2 := hb2.size
  try simp only [World.size_alloc, World.size_setCell] at hz2
  try refine zw3 w w2 (by omega) fun _ _ _ _ _ _ => ?_
  have c2_0_0 := zci w2 w.heap.size 0 (0) (by go_simp)
  have g2_0_0 := zfe w2 w.heap.size 0 (by go_simp)
  have c2_0_1 := zci w2 w.heap.size 1 (0) (by go_simp)
  have g2_0_1 := zfe w2 w.heap.size 1 (by go_simp)
  clear hc2 hf2
  go_wp2
  refine bodyPost_ret (v := .tuple #[.agg #[.int .i64 (r), .int .i64 (HI)], .int .i64 0]) (by simp only [results, Try.results47]; go_simp) rfl ⟨rfl, blw_⟩
 ·have k3 : (m % 18446744073709551616 != x % 4294967296 * 4294967296) = true := bne_iff_ne.2 k2
  go_enter Try.func47, Try.ntmps47
  go_wp2_with fail
  refine (GR.out (w.heap.size + 1) (w.heap.size + 1 + 1) _ ⟨⟨by go_simp, by simp <;> omega⟩, by go_simp, by simp <;> omega⟩).mono ?_
  rintro e w1 ⟨rfl, hb1⟩
  obtain ⟨hc1, hf1⟩ := bcell hb1
  have hz1 := hb1.size
  try simp only [World.size_alloc, World.size_setCell] at hz1
  try refine zw3 w w1 (by omega) fun _ _ _ _ _ _ => ?_
  have c1_0_0 := zci w1 w.heap.size 0 (0) (by go_simp)
  have g1_0_0 := zfe w1 w.heap.size 0 (by go_simp)
  have c1_0_1 := zci w1 w.heap.size 1 (0) (by go_simp)
  have g1_0_1 := zfe w1 w.heap.size 1 (by go_simp)
  have c1_1_0 := zcu w1 (w.heap.size + 1) 0 (x / 4294967296) (by go_simp)
  have c1_2_0 := zcu w1 (w.heap.size + 1 + 1) 0 (x % 4294967296 * 4294967296) (by go_simp)
  clear hc1 hf1
  go_wp2_with fail
  refine (MU.out _).mono ?_
  rintro e w1 ⟨rfl, rfl⟩
  go_wp2_with fail
  refine (OW'.out _).mono ?_
  rintro e w2 ⟨rfl, hb2⟩
  obtain ⟨hc2, hf2⟩ := bcell hb2
  have hz2 := hb2.size
  try simp only [World.size_alloc, World.size_setCell] at hz2
  try refine zw3 w w2 (by omega) fun _ _ _ _ _ _ => ?_
  have c2_0_0 := zci w2 w.heap.size 0 (0) (by go_simp)
  have g2_0_0 := zfe w2 w.heap.size 0 (by go_simp)
  have c2_0_1 := zci w2 w.heap.size 1 (0) (by go_simp)
  have g2_0_1 := zfe w2 w.heap.size 1 (by go_simp)
  clear hc2 hf2
  go_wp2
  refine bodyPost_ret (v := .tuple #[.agg #[.int .i64 (r), .int .i64 (HI)], .int .i64 0]) (by simp only [results, Try.results47]; go_simp) rfl ⟨rfl, blw_⟩
noncomputable def roL (al ah : Int) : Int := if ah < 0 then 0 else rtL (mx al 0)
noncomputable def roH (ah : Int) : Int := if ah < 0 then 0 else rtH ah
def roE (ah : Int) : Int := if ah < 0 then 4 else 0
theorem ro_t {al ah : Int} (h : ah < 0) : roL al ah = 0 ∧ roH ah = 0 ∧ roE ah = 4 := by simp [roL, roH, roE, h]
theorem ro_f {al ah : Int} (h : ¬ ah < 0) : roL al ah = rtL (mx al 0) ∧ roH ah = rtH ah ∧ roE ah = 0 := by simp [roL, roH, roE, h]
theorem root_at (x : Int) (h0 : 0 ≤ x) (h1 : x ≤ 9223372036854775807) : Answers (fun _ => True) 47 #[] x (rtL x) (rtH x) 0 := fun w _ => root_any x h0 h1 w
theorem sroot_any (al ah : Int) (i0 : I64 al) (i1 : I64 ah) (w : World) :
  Calls Try.prog 24 #[.agg #[.int .i64 (al), .int .i64 (ah)]] w fun e w' => e = .returned (.tuple #[.agg #[.int .i64 (okI (vB al ah) (roL al ah)), .int .i64 (okI (vB al ah) (roH ah))], .int .i64 (errE (vB al ah) (roE ah))]) ∧ Below w.heap.size w w' := by
 have h0 := i0.1
 have b1 := i1.2
 cases hv : vB al ah
 ·rw [ok_f, ok_f, err_f]
  have HV := hide hv
  clear hv i0 i1
  go_enter Try.func24, Try.ntmps24
  go_wp2_with fail
  go_at_call 27
  refine (invalid1 al ah _ _ _ h0 (by go_simp) (by go_simp) (by go_simp) true (by simpa using HV.out)).mono ?_
  rintro e w1 ⟨rfl, hb1⟩
  obtain ⟨hc1, hf1⟩ := bcell hb1
  have hz1 := hb1.size
  try simp only [World.size_alloc, World.size_setCell] at hz1
  try refine zw3 w w1 (by omega) fun _ _ _ _ _ _ => ?_
  go_wp2
  refine bodyPost_ret (v := .tuple #[.agg #[.int .i64 (0), .int .i64 (0)], .int .i64 2]) (by simp only [results, Try.results24]; go_simp) rfl ⟨rfl, blw_⟩
 ·rw [ok_t, ok_t, err_t]
  have HV := hide hv
  obtain ⟨v1, v2⟩ := vB_tt hv
  by_cases c : ah < 0
  ·obtain ⟨e1, e2, e3⟩ := ro_t (al := al) c
   rw [e1, e2, e3]
   clear hv i0 i1 e1 e2 e3
   go_enter Try.func24, Try.ntmps24
   go_wp2_with fail
   go_at_call 27
   refine (invalid1 al ah _ _ _ h0 (by go_simp) (by go_simp) (by go_simp) false (by simpa using HV.out)).mono ?_
   rintro e w1 ⟨rfl, hb1⟩
   obtain ⟨hc1, hf1⟩ := bcell hb1
   have hz1 := hb1.size
   try simp only [World.size_alloc, World.size_setCell] at hz1
   try refine zw3 w w1 (by omega) fun _ _ _ _ _ _ => ?_
   go_wp2
   refine bodyPost_ret (v := .tuple #[.agg #[.int .i64 (0), .int .i64 (0)], .int .i64 4]) (by simp only [results, Try.results24]; go_simp) rfl ⟨rfl, blw_⟩
  ·obtain ⟨e1, e2, e3⟩ := ro_f (al := al) c
   rw [e1, e2, e3]
   have m1 : max al 0 = mx al 0 := by unfold mx; split <;> omega
   have mb : 0 ≤ mx al 0 ∧ mx al 0 ≤ ah := by unfold mx; split <;> omega
   obtain ⟨m, hm⟩ : ∃ v, mx al 0 = v := ⟨_, rfl⟩
   rw [hm] at m1 mb ⊢
   have hent : ∀ args w, (callFunc 47 args).run Try.prog w = .ok (.enter 47 args) w := enters_of Try.func47 (by kernel_rfl) rfl
   have EN := fun w => ends_0 (fun _ => True) ⟨fun _ _ => trivial⟩ 47 hent m ah _ _ _ _ _ _ (root_at m mb.1 (by omega)) (root_at ah (by omega) b1) w trivial
   have hE : enL (rtL m) 0 (rtL ah) 0 (m == ah) = rtL m ∧ enH (rtH m) 0 (rtH ah) 0 (m == ah) = rtH ah ∧ enE 0 0 (m == ah) = 0 := by
    have k1 := rt_monoL mb.1 mb.2
    have k2 := rt_monoH mb.1 mb.2
    by_cases q : m = ah
    ·subst q; simp [enL, enH, enE]
    ·have q' : (m == ah) = false := by simp [q]
     rw [q']
     have z1 : mi (rtL m) (rtL ah) = rtL m := by unfold mi; split <;> omega
     have z2 : mx (rtH m) (rtH ah) = rtH ah := by unfold mx; split <;> omega
     simp [enL, enH, enE, z1, z2]
   rw [hE.1, hE.2.1, hE.2.2] at EN
   have EN' := hide EN
   clear hv i0 i1 e1 e2 e3 EN hE hent mb hm
   generalize rtL m = rl at *
   generalize rtH ah = rh at *
   go_enter Try.func24, Try.ntmps24
   go_wp2_with fail
   go_at_call 27
   refine (invalid1 al ah _ _ _ h0 (by go_simp) (by go_simp) (by go_simp) false (by simpa using HV.out)).mono ?_
   rintro e w1 ⟨rfl, hb1⟩
   obtain ⟨hc1, hf1⟩ := bcell hb1
   have hz1 := hb1.size
   try simp only [World.size_alloc, World.size_setCell] at hz1
   try refine zw2 w w1 (by omega) fun _ _ _ _ => ?_
   have c1_0_0 := zci w1 w.heap.size 0 (al) (by go_simp)
   have c1_0_1 := zci w1 w.heap.size 1 (ah) (by go_simp)
   have c1_1_0 := zci w1 (w.heap.size + 1) 0 (0) (by go_simp)
   have g1_1_0 := zfe w1 (w.heap.size + 1) 0 (by go_simp)
   have c1_1_1 := zci w1 (w.heap.size + 1) 1 (0) (by go_simp)
   have g1_1_1 := zfe w1 (w.heap.size + 1) 1 (by go_simp)
   clear hc1 hf1
   go_wp2_with fail
   refine (EN'.out _).mono ?_
   rintro e w2 ⟨rfl, hb2⟩
   obtain ⟨hc2, hf2⟩ := bcell hb2
   have hz2 := hb2.size
   try simp only [World.size_alloc, World.size_setCell] at hz2
   try refine zw2 w w2 (by omega) fun _ _ _ _ => ?_
   have c2_0_0 := zci w2 w.heap.size 0 (al) (by go_simp)
   have c2_0_1 := zci w2 w.heap.size 1 (ah) (by go_simp)
   have c2_1_0 := zci w2 (w.heap.size + 1) 0 (0) (by go_simp)
   have g2_1_0 := zfe w2 (w.heap.size + 1) 0 (by go_simp)
   have c2_1_1 := zci w2 (w.heap.size + 1) 1 (0) (by go_simp)
   have g2_1_1 := zfe w2 (w.heap.size + 1) 1 (by go_simp)
   clear hc2 hf2 c1_0_0 c1_0_1 c1_1_0 g1_1_0 c1_1_1 g1_1_1
   go_wp2
   refine bodyPost_ret (v := .tuple #[.agg #[.int .i64 (rl), .int .i64 (rh)], .int .i64 0]) (by simp only [results, Try.results24]; go_simp) rfl ⟨rfl, blw_⟩
theorem rroot_x (x : Int) (h0 : 0 ≤ x) (h1 : x ≤ 9223372036854775807) (w : World) :
  Calls Try.prog 50 #[.agg #[.int .i64 (wH (x * 4294967296)), .int .u64 (wL (x * 4294967296))]] w fun e w' => e = .returned (.int .i64 (rtL x)) ∧ Below w.heap.size w w' := by
 obtain ⟨a0, a1, a2⟩ := rt_spec h0
 exact rroot (x * 4294967296) (rtL x) ⟨by omega, by omega⟩ a0 a1 a2 w
theorem rsroot_any (al ah : Int) (i0 : I64 al) (i1 : I64 ah) (w : World) :
  Calls Try.prog 26 #[.agg #[.int .i64 (al), .int .i64 (ah)]] w fun e w' => e = .returned (.tuple #[.agg #[.int .i64 (okI (vB al ah) (roL al ah)), .int .i64 (okI (vB al ah) (roH ah))], .int .i64 (errE (vB al ah) (roE ah))]) ∧ Below w.heap.size w w' := by
 have b1 := i1.2
 cases hv : vB al ah
 ·rw [ok_f, ok_f, err_f]
  have HV := hide (show chkI al ah = 2 by simp [chkI, hv])
  clear hv i0 i1
  go_enter Try.func26, Try.ntmps26
  go_wp2_with fail
  refine (rcheck al ah 2 HV.out _).mono ?_
  rintro e w1 ⟨rfl, hb1⟩
  obtain ⟨hc1, hf1⟩ := bcell hb1
  have hz1 := hb1.size
  try simp only [World.size_alloc, World.size_setCell] at hz1
  try refine zw2 w w1 (by omega) fun _ _ _ _ => ?_
  go_wp2
  refine bodyPost_ret (v := .tuple #[.agg #[.int .i64 (0), .int .i64 (0)], .int .i64 2]) (by simp only [results, Try.results26]; go_simp) rfl ⟨rfl, blw_⟩
 ·rw [ok_t, ok_t, err_t]
  have HV := hide (show chkI al ah = 0 by simp [chkI, hv])
  obtain ⟨v1, v2⟩ := vB_tt hv
  by_cases c : ah < 0
  ·obtain ⟨e1, e2, e3⟩ := ro_t (al := al) c
   rw [e1, e2, e3]
   clear hv i0 i1 e1 e2 e3
   go_enter Try.func26, Try.ntmps26
   go_wp2_with fail
   refine (rcheck al ah 0 HV.out _).mono ?_
   rintro e w1 ⟨rfl, hb1⟩
   obtain ⟨hc1, hf1⟩ := bcell hb1
   have hz1 := hb1.size
   try simp only [World.size_alloc, World.size_setCell] at hz1
   try refine zw2 w w1 (by omega) fun _ _ _ _ => ?_
   go_wp2
   refine bodyPost_ret (v := .tuple #[.agg #[.int .i64 (0), .int .i64 (0)], .int .i64 4]) (by simp only [results, Try.results26]; go_simp) rfl ⟨rfl, blw_⟩
  ·obtain ⟨e1, e2, e3⟩ := ro_f (al := al) c
   rw [e1, e2, e3]
   have m1 : max al 0 = mx al 0 := by unfold mx; split <;> omega
   have mb : 0 ≤ mx al 0 ∧ mx al 0 ≤ ah := by unfold mx; split <;> omega
   obtain ⟨m, hm⟩ : ∃ v, mx al 0 = v := ⟨_, rfl⟩
   rw [hm] at m1 mb ⊢
   have c0 : 0 ≤ ah := by omega
   obtain ⟨a0, a1, a2⟩ := rt_spec c0
   have ab := rt_bd c0 b1
   have RL := hide (rroot_x m mb.1 (by omega))
   have RH := hide (rroot_x ah c0 b1)
   have WM := hide (rwide m ⟨by omega, by omega⟩)
   have WH' := hide (rwide ah i1)
   have UM := hide (rup32 m ⟨by omega, by omega⟩)
   have UH := hide (rup32 ah ⟨by omega, by omega⟩)
   have TT := hide (rtimes (rtL ah) (rtL ah) ⟨by omega, by omega⟩ ⟨by omega, by omega⟩)
   have w1' : wrap64 (rtL ah + 1) = rtL ah + 1 := by unfold wrap64; omega
   have hH : rtH ah = rtL ah + bI (rtR ah) := rfl
   have hR : rtR ah = !(rtL ah * rtL ah == ah * 4294967296) := rfl
   clear hv i0 i1 e1 e2 e3 mb hm
   generalize rtL m = rl at *
   generalize rtH ah = rh at *
   generalize rtR ah = rr at *
   generalize rtL ah = r at *
   generalize m * 4294967296 = M at *
   generalize ah * 4294967296 = AH at *
   by_cases cc : r * r < AH
   ·have LS := hide (rless_r (r * r) AH true (decide_eq_true cc))
    have hx : rr = true := by rw [hR]; simp; omega
    have e1 : Hid (rh = r + 1) := hide (by rw [hH, hx]; simp [bI])
    rw [e1.out]
    clear cc hx hH hR a0 a1 a2 ab
    go_enter Try.func26, Try.ntmps26
    go_wp2_with fail
    refine (rcheck al ah 0 HV.out _).mono ?_
    rintro e w1 ⟨rfl, hb1⟩
    obtain ⟨hc1, hf1⟩ := bcell hb1
    have hz1 := hb1.size
    try simp only [World.size_alloc, World.size_setCell] at hz1
    try refine zw2 w w1 (by omega) fun _ _ _ _ => ?_
    have c1_0_0 := zci w1 w.heap.size 0 (al) (by go_simp)
    have c1_0_1 := zci w1 w.heap.size 1 (ah) (by go_simp)
    have c1_1_0 := zci w1 (w.heap.size + 1) 0 (0) (by go_simp)
    have g1_1_0 := zfe w1 (w.heap.size + 1) 0 (by go_simp)
    have c1_1_1 := zci w1 (w.heap.size + 1) 1 (0) (by go_simp)
    have g1_1_1 := zfe w1 (w.heap.size + 1) 1 (by go_simp)
    clear hc1 hf1
    go_wp2_with fail
    refine (WM.out _).mono ?_
    rintro e w2 ⟨rfl, hb2⟩
    obtain ⟨hc2, hf2⟩ := bcell hb2
    have hz2 := hb2.size
    try simp only [World.size_alloc, World.size_setCell] at hz2
    try refine zw2 w w2 (by omega) fun _ _ _ _ => ?_
    have c2_0_0 := zci w2 w.heap.size 0 (al) (by go_simp)
    have c2_0_1 := zci w2 w.heap.size 1 (ah) (by go_simp)
    have c2_1_0 := zci w2 (w.heap.size + 1) 0 (0) (by go_simp)
    have g2_1_0 := zfe w2 (w.heap.size + 1) 0 (by go_simp)
    have c2_1_1 := zci w2 (w.heap.size + 1) 1 (0) (by go_simp)
    have g2_1_1 := zfe w2 (w.heap.size + 1) 1 (by go_simp)
    clear hc2 hf2 c1_0_0 c1_0_1 c1_1_0 g1_1_0 c1_1_1 g1_1_1
    go_wp2_with fail
    refine (UM.out _).mono ?_
    rintro e w3 ⟨rfl, hb3⟩
    obtain ⟨hc3, hf3⟩ := bcell hb3
    have hz3 := hb3.size
    try simp only [World.size_alloc, World.size_setCell] at hz3
    try have : w.heap.size < w3.heap.size := by omega
    try have : w.heap.size < w3.heap.size + 1 := by omega
    try have : w.heap.size ≤ w3.heap.size := by omega
    try have : w.heap.size + 1 < w3.heap.size := by omega
    try have : w.heap.size + 1 < w3.heap.size + 1 := by omega
    try have : w.heap.size + 1 ≤ w3.heap.size := by omega
    have c3_0_0 := zci w3 w.heap.size 0 (al) (by go_simp)
    have c3_0_1 := zci w3 w.heap.size 1 (ah) (by go_simp)
    have c3_1_0 := zci w3 (w.heap.size + 1) 0 (0) (by go_simp)
    have g3_1_0 := zfe w3 (w.heap.size + 1) 0 (by go_simp)
    have c3_1_1 := zci w3 (w.heap.size + 1) 1 (0) (by go_simp)
    have g3_1_1 := zfe w3 (w.heap.size + 1) 1 (by go_simp)
    clear hc3 hf3 c2_0_0 c2_0_1 c2_1_0 g2_1_0 c2_1_1 g2_1_1
    go_wp2_with fail
    refine (WH'.out _).mono ?_
    rintro e w4 ⟨rfl, hb4⟩
    obtain ⟨hc4, hf4⟩ := bcell hb4
    have hz4 := hb4.size
    try simp only [World.size_alloc, World.size_setCell] at hz4
    try refine zw2 w w4 (by omega) fun _ _ _ _ => ?_
    try have : w3.heap.size < w4.heap.size := by omega
    try have : w3.heap.size ≤ w4.heap.size := by omega
    have c4_0_0 := zci w4 w.heap.size 0 (al) (by go_simp)
    have c4_0_1 := zci w4 w.heap.size 1 (ah) (by go_simp)
    have c4_1_0 := zci w4 (w.heap.size + 1) 0 (0) (by go_simp)
    have g4_1_0 := zfe w4 (w.heap.size + 1) 0 (by go_simp)
    have c4_1_1 := zci w4 (w.heap.size + 1) 1 (0) (by go_simp)
    have g4_1_1 := zfe w4 (w.heap.size + 1) 1 (by go_simp)
    have c4_2_0 := zci w4 w3.heap.size 0 (wH (M)) (by go_simp)
    have c4_2_1 := zcu w4 w3.heap.size 1 (wL (M)) (by go_simp)
    clear hc4 hf4 c3_0_0 c3_0_1 c3_1_0 g3_1_0 c3_1_1 g3_1_1
    go_wp2_with fail
    refine (UH.out _).mono ?_
    rintro e w5 ⟨rfl, hb5⟩
    obtain ⟨hc5, hf5⟩ := bcell hb5
    have hz5 := hb5.size
    try simp only [World.size_alloc, World.size_setCell] at hz5
    try have : w.heap.size < w5.heap.size := by omega
    try have : w.heap.size < w5.heap.size + 1 := by omega
    try have : w.heap.size ≤ w5.heap.size := by omega
    try have : w.heap.size + 1 < w5.heap.size := by omega
    try have : w.heap.size + 1 < w5.heap.size + 1 := by omega
    try have : w.heap.size + 1 ≤ w5.heap.size := by omega
    try have : w3.heap.size < w5.heap.size := by omega
    try have : w3.heap.size < w5.heap.size + 1 := by omega
    try have : w3.heap.size ≤ w5.heap.size := by omega
    have c5_0_0 := zci w5 w.heap.size 0 (al) (by go_simp)
    have c5_0_1 := zci w5 w.heap.size 1 (ah) (by go_simp)
    have c5_1_0 := zci w5 (w.heap.size + 1) 0 (0) (by go_simp)
    have g5_1_0 := zfe w5 (w.heap.size + 1) 0 (by go_simp)
    have c5_1_1 := zci w5 (w.heap.size + 1) 1 (0) (by go_simp)
    have g5_1_1 := zfe w5 (w.heap.size + 1) 1 (by go_simp)
    have c5_2_0 := zci w5 w3.heap.size 0 (wH (M)) (by go_simp)
    have c5_2_1 := zcu w5 w3.heap.size 1 (wL (M)) (by go_simp)
    clear hc5 hf5 c4_0_0 c4_0_1 c4_1_0 g4_1_0 c4_1_1 g4_1_1 c4_2_0 c4_2_1
    go_wp2_with fail
    refine (RH.out _).mono ?_
    rintro e w6 ⟨rfl, hb6⟩
    obtain ⟨hc6, hf6⟩ := bcell hb6
    have hz6 := hb6.size
    try simp only [World.size_alloc, World.size_setCell] at hz6
    try refine zw2 w w6 (by omega) fun _ _ _ _ => ?_
    try have : w3.heap.size < w6.heap.size := by omega
    try have : w3.heap.size ≤ w6.heap.size := by omega
    try have : w5.heap.size < w6.heap.size := by omega
    try have : w5.heap.size ≤ w6.heap.size := by omega
    have c6_0_0 := zci w6 w.heap.size 0 (al) (by go_simp)
    have c6_0_1 := zci w6 w.heap.size 1 (ah) (by go_simp)
    have c6_1_0 := zci w6 (w.heap.size + 1) 0 (0) (by go_simp)
    have g6_1_0 := zfe w6 (w.heap.size + 1) 0 (by go_simp)
    have c6_1_1 := zci w6 (w.heap.size + 1) 1 (0) (by go_simp)
    have g6_1_1 := zfe w6 (w.heap.size + 1) 1 (by go_simp)
    have c6_2_0 := zci w6 w3.heap.size 0 (wH (M)) (by go_simp)
    have c6_2_1 := zcu w6 w3.heap.size 1 (wL (M)) (by go_simp)
    have c6_3_0 := zci w6 w5.heap.size 0 (wH (AH)) (by go_simp)
    have c6_3_1 := zcu w6 w5.heap.size 1 (wL (AH)) (by go_simp)
    clear hc6 hf6 c5_0_0 c5_0_1 c5_1_0 g5_1_0 c5_1_1 g5_1_1 c5_2_0 c5_2_1
    go_wp2_with fail
    refine QT.quiet_b (by kernel_rfl) (by kernel_rfl) ?_
    repeat (first
     | go_big_quiet_skip
     | (go_big_quiet_want; go_big_quiet_op; first
      | go_big_quiet_on
      | (apply Exists.intro
         refine ⟨fun _ => ?_, ?_⟩
         ·first
          | rfl
          | (intro hC; obtain ⟨hcq, hfq⟩ := bcellB hC; go_simp; done)
          | (intro hC; obtain ⟨hcq, hfq⟩ := bcellB hC; go_simp; rfl)
          | (intro hC; have hcq := bcellG hC; go_simp; done)
          | (intro hC; have hcq := bcellG hC; go_simp; rfl)
          | (intro hC; go_at_call 41; (first | (with_reducible refine (TT.out _).mono ?_)); (intro e w2 hw; exact ⟨hw.1, qtrans (by simp) hC hw.2⟩))
          | (intro hC; go_at_call 42; (first | (with_reducible refine (LS.out _).mono ?_)); (intro e w2 hw; exact ⟨hw.1, qtrans (by simp) hC hw.2⟩))
         go_big_quiet_on)))
    refine wpQuiet_nil ?_
    intro w9 hC9
    obtain ⟨hc9, hf9⟩ := bcellB hC9
    have hz9 := hC9.size
    have q1 : w.heap.size < w9.heap.size ∧ w.heap.size + 1 < w9.heap.size ∧ w3.heap.size < w9.heap.size ∧ w5.heap.size < w9.heap.size := by omega
    obtain ⟨q1, q2, q3, q4⟩ := q1
    have c9_0 := zci w9 (w.heap.size + 1) 0 0 (by go_simp)
    have c9_1 := zci w9 (w.heap.size + 1) 1 0 (by go_simp)
    have f9_0 := zfe w9 (w.heap.size + 1) 0 (by go_simp)
    have f9_1 := zfe w9 (w.heap.size + 1) 1 (by go_simp)
    have d9_0 := zci w9 w3.heap.size 0 (wH M) (by go_simp)
    have d9_1 := zcu w9 w3.heap.size 1 (wL M) (by go_simp)
    clear hc9 hf9
    go_wp2_with fail
    refine (RL.out _).mono ?_
    rintro e w20 ⟨rfl, hb20⟩
    obtain ⟨hc20, hf20⟩ := bcell hb20
    have hz20 := hb20.size
    try simp only [World.size_alloc, World.size_setCell] at hz20
    try refine zw2 w w20 (by omega) fun _ _ _ _ => ?_
    try have : w3.heap.size < w20.heap.size := by omega
    try have : w3.heap.size ≤ w20.heap.size := by omega
    try have : w5.heap.size < w20.heap.size := by omega
    try have : w5.heap.size ≤ w20.heap.size := by omega
    have c20_0_0 := zci w20 (w.heap.size + 1) 0 (0) (by go_simp)
    have g20_0_0 := zfe w20 (w.heap.size + 1) 0 (by go_simp)
    have c20_0_1 := zci w20 (w.heap.size + 1) 1 (0) (by go_simp)
    have g20_0_1 := zfe w20 (w.heap.size + 1) 1 (by go_simp)
    clear hc20 hf20
    go_wp2
    refine bodyPost_ret (v := .tuple #[.agg #[.int .i64 (rl), .int .i64 (r + 1)], .int .i64 0]) (by simp only [results, Try.results26]; go_simp) rfl ⟨rfl, blw_⟩
   ·have LS := hide (rless_r (r * r) AH false (decide_eq_false cc))
    have hx : rr = false := by rw [hR]; simp; omega
    have e1 : Hid (rh = r) := hide (by rw [hH, hx]; simp [bI])
    rw [e1.out]
    clear cc hx hH hR a0 a1 a2 ab
    go_enter Try.func26, Try.ntmps26
    go_wp2_with fail
    refine (rcheck al ah 0 HV.out _).mono ?_
    rintro e w1 ⟨rfl, hb1⟩
    obtain ⟨hc1, hf1⟩ := bcell hb1
    have hz1 := hb1.size
    try simp only [World.size_alloc, World.size_setCell] at hz1
    try refine zw2 w w1 (by omega) fun _ _ _ _ => ?_
    have c1_0_0 := zci w1 w.heap.size 0 (al) (by go_simp)
    have c1_0_1 := zci w1 w.heap.size 1 (ah) (by go_simp)
    have c1_1_0 := zci w1 (w.heap.size + 1) 0 (0) (by go_simp)
    have g1_1_0 := zfe w1 (w.heap.size + 1) 0 (by go_simp)
    have c1_1_1 := zci w1 (w.heap.size + 1) 1 (0) (by go_simp)
    have g1_1_1 := zfe w1 (w.heap.size + 1) 1 (by go_simp)
    clear hc1 hf1
    go_wp2_with fail
    refine (WM.out _).mono ?_
    rintro e w2 ⟨rfl, hb2⟩
    obtain ⟨hc2, hf2⟩ := bcell hb2
    have hz2 := hb2.size
    try simp only [World.size_alloc, World.size_setCell] at hz2
    try refine zw2 w w2 (by omega) fun _ _ _ _ => ?_
    have c2_0_0 := zci w2 w.heap.size 0 (al) (by go_simp)
    have c2_0_1 := zci w2 w.heap.size 1 (ah) (by go_simp)
    have c2_1_0 := zci w2 (w.heap.size + 1) 0 (0) (by go_simp)
    have g2_1_0 := zfe w2 (w.heap.size + 1) 0 (by go_simp)
    have c2_1_1 := zci w2 (w.heap.size + 1) 1 (0) (by go_simp)
    have g2_1_1 := zfe w2 (w.heap.size + 1) 1 (by go_simp)
    clear hc2 hf2 c1_0_0 c1_0_1 c1_1_0 g1_1_0 c1_1_1 g1_1_1
    go_wp2_with fail
    refine (UM.out _).mono ?_
    rintro e w3 ⟨rfl, hb3⟩
    obtain ⟨hc3, hf3⟩ := bcell hb3
    have hz3 := hb3.size
    try simp only [World.size_alloc, World.size_setCell] at hz3
    try have : w.heap.size < w3.heap.size := by omega
    try have : w.heap.size < w3.heap.size + 1 := by omega
    try have : w.heap.size ≤ w3.heap.size := by omega
    try have : w.heap.size + 1 < w3.heap.size := by omega
    try have : w.heap.size + 1 < w3.heap.size + 1 := by omega
    try have : w.heap.size + 1 ≤ w3.heap.size := by omega
    have c3_0_0 := zci w3 w.heap.size 0 (al) (by go_simp)
    have c3_0_1 := zci w3 w.heap.size 1 (ah) (by go_simp)
    have c3_1_0 := zci w3 (w.heap.size + 1) 0 (0) (by go_simp)
    have g3_1_0 := zfe w3 (w.heap.size + 1) 0 (by go_simp)
    have c3_1_1 := zci w3 (w.heap.size + 1) 1 (0) (by go_simp)
    have g3_1_1 := zfe w3 (w.heap.size + 1) 1 (by go_simp)
    clear hc3 hf3 c2_0_0 c2_0_1 c2_1_0 g2_1_0 c2_1_1 g2_1_1
    go_wp2_with fail
    refine (WH'.out _).mono ?_
    rintro e w4 ⟨rfl, hb4⟩
    obtain ⟨hc4, hf4⟩ := bcell hb4
    have hz4 := hb4.size
    try simp only [World.size_alloc, World.size_setCell] at hz4
    try refine zw2 w w4 (by omega) fun _ _ _ _ => ?_
    try have : w3.heap.size < w4.heap.size := by omega
    try have : w3.heap.size ≤ w4.heap.size := by omega
    have c4_0_0 := zci w4 w.heap.size 0 (al) (by go_simp)
    have c4_0_1 := zci w4 w.heap.size 1 (ah) (by go_simp)
    have c4_1_0 := zci w4 (w.heap.size + 1) 0 (0) (by go_simp)
    have g4_1_0 := zfe w4 (w.heap.size + 1) 0 (by go_simp)
    have c4_1_1 := zci w4 (w.heap.size + 1) 1 (0) (by go_simp)
    have g4_1_1 := zfe w4 (w.heap.size + 1) 1 (by go_simp)
    have c4_2_0 := zci w4 w3.heap.size 0 (wH (M)) (by go_simp)
    have c4_2_1 := zcu w4 w3.heap.size 1 (wL (M)) (by go_simp)
    clear hc4 hf4 c3_0_0 c3_0_1 c3_1_0 g3_1_0 c3_1_1 g3_1_1
    go_wp2_with fail
    refine (UH.out _).mono ?_
    rintro e w5 ⟨rfl, hb5⟩
    obtain ⟨hc5, hf5⟩ := bcell hb5
    have hz5 := hb5.size
    try simp only [World.size_alloc, World.size_setCell] at hz5
    try have : w.heap.size < w5.heap.size := by omega
    try have : w.heap.size < w5.heap.size + 1 := by omega
    try have : w.heap.size ≤ w5.heap.size := by omega
    try have : w.heap.size + 1 < w5.heap.size := by omega
    try have : w.heap.size + 1 < w5.heap.size + 1 := by omega
    try have : w.heap.size + 1 ≤ w5.heap.size := by omega
    try have : w3.heap.size < w5.heap.size := by omega
    try have : w3.heap.size < w5.heap.size + 1 := by omega
    try have : w3.heap.size ≤ w5.heap.size := by omega
    have c5_0_0 := zci w5 w.heap.size 0 (al) (by go_simp)
    have c5_0_1 := zci w5 w.heap.size 1 (ah) (by go_simp)
    have c5_1_0 := zci w5 (w.heap.size + 1) 0 (0) (by go_simp)
    have g5_1_0 := zfe w5 (w.heap.size + 1) 0 (by go_simp)
    have c5_1_1 := zci w5 (w.heap.size + 1) 1 (0) (by go_simp)
    have g5_1_1 := zfe w5 (w.heap.size + 1) 1 (by go_simp)
    have c5_2_0 := zci w5 w3.heap.size 0 (wH (M)) (by go_simp)
    have c5_2_1 := zcu w5 w3.heap.size 1 (wL (M)) (by go_simp)
    clear hc5 hf5 c4_0_0 c4_0_1 c4_1_0 g4_1_0 c4_1_1 g4_1_1 c4_2_0 c4_2_1
    go_wp2_with fail
    refine (RH.out _).mono ?_
    rintro e w6 ⟨rfl, hb6⟩
    obtain ⟨hc6, hf6⟩ := bcell hb6
    have hz6 := hb6.size
    try simp only [World.size_alloc, World.size_setCell] at hz6
    try refine zw2 w w6 (by omega) fun _ _ _ _ => ?_
    try have : w3.heap.size < w6.heap.size := by omega
    try have : w3.heap.size ≤ w6.heap.size := by omega
    try have : w5.heap.size < w6.heap.size := by omega
    try have : w5.heap.size ≤ w6.heap.size := by omega
    have c6_0_0 := zci w6 w.heap.size 0 (al) (by go_simp)
    have c6_0_1 := zci w6 w.heap.size 1 (ah) (by go_simp)
    have c6_1_0 := zci w6 (w.heap.size + 1) 0 (0) (by go_simp)
    have g6_1_0 := zfe w6 (w.heap.size + 1) 0 (by go_simp)
    have c6_1_1 := zci w6 (w.heap.size + 1) 1 (0) (by go_simp)
    have g6_1_1 := zfe w6 (w.heap.size + 1) 1 (by go_simp)
    have c6_2_0 := zci w6 w3.heap.size 0 (wH (M)) (by go_simp)
    have c6_2_1 := zcu w6 w3.heap.size 1 (wL (M)) (by go_simp)
    have c6_3_0 := zci w6 w5.heap.size 0 (wH (AH)) (by go_simp)
    have c6_3_1 := zcu w6 w5.heap.size 1 (wL (AH)) (by go_simp)
    clear hc6 hf6 c5_0_0 c5_0_1 c5_1_0 g5_1_0 c5_1_1 g5_1_1 c5_2_0 c5_2_1
    go_wp2_with fail
    refine QT.quiet_b (by kernel_rfl) (by kernel_rfl) ?_
    repeat (first
     | go_big_quiet_skip
     | (go_big_quiet_want; go_big_quiet_op; first
      | go_big_quiet_on
      | (apply Exists.intro
         refine ⟨fun _ => ?_, ?_⟩
         ·first
          | rfl
          | (intro hC; obtain ⟨hcq, hfq⟩ := bcellB hC; go_simp; done)
          | (intro hC; obtain ⟨hcq, hfq⟩ := bcellB hC; go_simp; rfl)
          | (intro hC; have hcq := bcellG hC; go_simp; done)
          | (intro hC; have hcq := bcellG hC; go_simp; rfl)
          | (intro hC; go_at_call 41; (first | (with_reducible refine (TT.out _).mono ?_)); (intro e w2 hw; exact ⟨hw.1, qtrans (by simp) hC hw.2⟩))
          | (intro hC; go_at_call 42; (first | (with_reducible refine (LS.out _).mono ?_)); (intro e w2 hw; exact ⟨hw.1, qtrans (by simp) hC hw.2⟩))
         go_big_quiet_on)))
    refine wpQuiet_nil ?_
    intro w9 hC9
    obtain ⟨hc9, hf9⟩ := bcellB hC9
    have hz9 := hC9.size
    have q1 : w.heap.size < w9.heap.size ∧ w.heap.size + 1 < w9.heap.size ∧ w3.heap.size < w9.heap.size ∧ w5.heap.size < w9.heap.size := by omega
    obtain ⟨q1, q2, q3, q4⟩ := q1
    have c9_0 := zci w9 (w.heap.size + 1) 0 0 (by go_simp)
    have c9_1 := zci w9 (w.heap.size + 1) 1 0 (by go_simp)
    have f9_0 := zfe w9 (w.heap.size + 1) 0 (by go_simp)
    have f9_1 := zfe w9 (w.heap.size + 1) 1 (by go_simp)
    have d9_0 := zci w9 w3.heap.size 0 (wH M) (by go_simp)
    have d9_1 := zcu w9 w3.heap.size 1 (wL M) (by go_simp)
    clear hc9 hf9
    go_wp2_with fail
    refine (RL.out _).mono ?_
    rintro e w20 ⟨rfl, hb20⟩
    obtain ⟨hc20, hf20⟩ := bcell hb20
    have hz20 := hb20.size
    try simp only [World.size_alloc, World.size_setCell] at hz20
    try refine zw2 w w20 (by omega) fun _ _ _ _ => ?_
    try have : w3.heap.size < w20.heap.size := by omega
    try have : w3.heap.size ≤ w20.heap.size := by omega
    try have : w5.heap.size < w20.heap.size := by omega
    try have : w5.heap.size ≤ w20.heap.size := by omega
    have c20_0_0 := zci w20 (w.heap.size + 1) 0 (0) (by go_simp)
    have g20_0_0 := zfe w20 (w.heap.size + 1) 0 (by go_simp)
    have c20_0_1 := zci w20 (w.heap.size + 1) 1 (0) (by go_simp)
    have g20_0_1 := zfe w20 (w.heap.size + 1) 1 (by go_simp)
    clear hc20 hf20
    go_wp2
    refine bodyPost_ret (v := .tuple #[.agg #[.int .i64 (rl), .int .i64 (r)], .int .i64 0]) (by simp only [results, Try.results26]; go_simp) rfl ⟨rfl, blw_⟩
end
end Go.Proofs.Ytdcolicajjmffaa
