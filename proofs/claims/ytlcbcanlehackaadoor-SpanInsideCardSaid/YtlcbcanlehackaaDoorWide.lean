/- Integers of 128 bits (the document's): Of, Plus, Minus, Less, Twice: what they come to, said of integers. -/
import Derived.Test.YtlcbcanlehackaaDoorBase
set_option linter.unusedVariables false
set_option linter.unusedSimpArgs false
namespace Go.Proofs.YtlcbcanlehackaaDoor
open Go.RowKit
def wH (x : Int) : Int := x / 18446744073709551616
def wL (x : Int) : Int := x % 18446744073709551616
/-- A number of 128 bits. -/
def R127 (x : Int) : Prop := -170141183460469231731687303715884105728 ≤ x ∧ x < 170141183460469231731687303715884105728
theorem R127.of {x : Int} (h1 : -170141183460469231731687303715884105728 ≤ x) (h2 : x < 170141183460469231731687303715884105728) : R127 x := ⟨h1, h2⟩
/-- At most 2^126, without its sign. -/
def R126 (x : Int) : Prop := -85070591730234615865843651857942052864 ≤ x ∧ x ≤ 85070591730234615865843651857942052864

theorem u64w (n : Int) : IntKind.u64.wrap n = n % 18446744073709551616 := IntKind.wrap_u64 n
theorem rof (n : Int) (hn : I64 n) (w : World) :
    Calls Tryd.prog 24 #[.int .i64 n] w fun e w' => e = .returned (.agg #[.int .i64 (wH (n)), .int .u64 (wL (n))]) ∧ Below w.heap.size w w' := by
  obtain ⟨h0, h1⟩ := hn
  by_cases g : n < 0
  · have e1 := hide (show (-1 : Int) = wH n by unfold wH; omega)
    have e2 := hide (show IntKind.u64.wrap n = wL n by rw [u64w]; rfl)
    go_enter Tryd.func24, Tryd.ntmps24
    go_wp2
    refine bodyPost_ret (v := .agg #[.int .i64 (wH (n)), .int .u64 (wL (n))]) ?_ rfl ⟨rfl, (by repeat (first | with_reducible exact Below.refl _ _ | with_reducible refine bdrew ?_ | ((with_reducible first | refine bset ?_ ?_ | refine ball ?_ ?_ | refine bth (by assumption) ?_ ?_); first | omega | (simp <;> omega))))⟩
    rw [← e1.out, ← e2.out]
    simp [results, Tryd.results24, go_sem]
  · have e1 := hide (show (0 : Int) = wH n by unfold wH; omega)
    have e2 := hide (show n = wL n by unfold wL; omega)
    go_enter Tryd.func24, Tryd.ntmps24
    go_wp2
    refine bodyPost_ret (v := .agg #[.int .i64 (wH (n)), .int .u64 (wL (n))]) ?_ rfl ⟨rfl, (by repeat (first | with_reducible exact Below.refl _ _ | with_reducible refine bdrew ?_ | ((with_reducible first | refine bset ?_ ?_ | refine ball ?_ ?_ | refine bth (by assumption) ?_ ?_); first | omega | (simp <;> omega))))⟩
    rw [← e1.out, ← e2.out]
    simp [results, Tryd.results24, go_sem]
theorem wadd_c {x y : Int} (hx : R127 x) (hy : R127 y) (hs : R127 (x + y)) (c : IntKind.u64.wrap (wL x + wL y) < wL x) :
    wrap64 (wrap64 (wH x + wH y) + 1) = wH (x + y) ∧ IntKind.u64.wrap (wL x + wL y) = wL (x + y) := by
  obtain ⟨_, _⟩ := hx; obtain ⟨_, _⟩ := hy; obtain ⟨_, _⟩ := hs
  rw [u64w] at *
  unfold wrap64 wH wL at *
  constructor <;> omega
theorem wadd_n {x y : Int} (hx : R127 x) (hy : R127 y) (hs : R127 (x + y)) (c : ¬ IntKind.u64.wrap (wL x + wL y) < wL x) :
    wrap64 (wH x + wH y) = wH (x + y) ∧ IntKind.u64.wrap (wL x + wL y) = wL (x + y) := by
  obtain ⟨_, _⟩ := hx; obtain ⟨_, _⟩ := hy; obtain ⟨_, _⟩ := hs
  rw [u64w] at *
  unfold wrap64 wH wL at *
  constructor <;> omega
theorem rplus (x y : Int) (hx : R127 x) (hy : R127 y) (hs : R127 (x + y)) (w : World) :
    Calls Tryd.prog 23 #[.agg #[.int .i64 (wH (x)), .int .u64 (wL (x))], .agg #[.int .i64 (wH (y)), .int .u64 (wL (y))]] w fun e w' => e = .returned (.agg #[.int .i64 (wH (x + y)), .int .u64 (wL (x + y))]) ∧ Below w.heap.size w w' := by
  by_cases c : IntKind.u64.wrap (wL x + wL y) < wL x
  · have E := hide (wadd_c hx hy hs c)
    clear hx hy hs
    go_enter Tryd.func23, Tryd.ntmps23
    go_wp2
    refine bodyPost_ret (v := .agg #[.int .i64 (wH (x + y)), .int .u64 (wL (x + y))]) ?_ rfl ⟨rfl, (by repeat (first | with_reducible exact Below.refl _ _ | with_reducible refine bdrew ?_ | ((with_reducible first | refine bset ?_ ?_ | refine ball ?_ ?_ | refine bth (by assumption) ?_ ?_); first | omega | (simp <;> omega))))⟩
    rw [← E.out.1, ← E.out.2]
    simp [results, Tryd.results23, go_sem]
  · have E := hide (wadd_n hx hy hs c)
    clear hx hy hs
    go_enter Tryd.func23, Tryd.ntmps23
    go_wp2
    refine bodyPost_ret (v := .agg #[.int .i64 (wH (x + y)), .int .u64 (wL (x + y))]) ?_ rfl ⟨rfl, (by repeat (first | with_reducible exact Below.refl _ _ | with_reducible refine bdrew ?_ | ((with_reducible first | refine bset ?_ ?_ | refine ball ?_ ?_ | refine bth (by assumption) ?_ ?_); first | omega | (simp <;> omega))))⟩
    rw [← E.out.1, ← E.out.2]
    simp [results, Tryd.results23, go_sem]
theorem rless (x y : Int) (w : World) :
    Calls Tryd.prog 27 #[.agg #[.int .i64 (wH (x)), .int .u64 (wL (x))], .agg #[.int .i64 (wH (y)), .int .u64 (wL (y))]] w fun e w' => e = .returned (.bool (decide (x < y))) ∧ Below w.heap.size w w' := by
  by_cases g1 : wH x < wH y
  · have e1 := hide (show decide (x < y) = true by rw [decide_eq_true_eq]; unfold wH at g1; omega)
    go_enter Tryd.func27, Tryd.ntmps27
    go_wp2
    go_ret
    exact ⟨by rw [e1.out]; rfl, (by repeat (first | with_reducible exact Below.refl _ _ | with_reducible refine bdrew ?_ | ((with_reducible first | refine bset ?_ ?_ | refine ball ?_ ?_ | refine bth (by assumption) ?_ ?_); first | omega | (simp <;> omega))))⟩
  · by_cases g2 : wH x = wH y
    · by_cases g3 : wL x < wL y
      · have e1 := hide (show decide (x < y) = true by rw [decide_eq_true_eq]; unfold wH wL at *; omega)
        have g4 : (wH x == wH y) = true := by simpa using g2
        clear g2
        go_enter Tryd.func27, Tryd.ntmps27
        go_wp2
        go_ret
        exact ⟨by rw [e1.out]; first | rfl | (simp; omega), (by repeat (first | with_reducible exact Below.refl _ _ | with_reducible refine bdrew ?_ | ((with_reducible first | refine bset ?_ ?_ | refine ball ?_ ?_ | refine bth (by assumption) ?_ ?_); first | omega | (simp <;> omega))))⟩
      · have e1 := hide (show decide (x < y) = false by rw [decide_eq_false_iff_not]; unfold wH wL at *; omega)
        have g4 : (wH x == wH y) = true := by simpa using g2
        have g5 := hide g3
        clear g2
        go_enter Tryd.func27, Tryd.ntmps27
        go_wp2
        go_ret
        exact ⟨by rw [e1.out]; have := g5.out; first | rfl | (simp; omega), (by repeat (first | with_reducible exact Below.refl _ _ | with_reducible refine bdrew ?_ | ((with_reducible first | refine bset ?_ ?_ | refine ball ?_ ?_ | refine bth (by assumption) ?_ ?_); first | omega | (simp <;> omega))))⟩
    · have e1 := hide (show decide (x < y) = false by rw [decide_eq_false_iff_not]; unfold wH at *; omega)
      have g4 : (wH x == wH y) = false := by simpa using g2
      have g5 := hide g1
      clear g2
      go_enter Tryd.func27, Tryd.ntmps27
      go_wp2
      go_ret
      exact ⟨by rw [e1.out]; have := g5.out; first | rfl | (simp; omega), (by repeat (first | with_reducible exact Below.refl _ _ | with_reducible refine bdrew ?_ | ((with_reducible first | refine bset ?_ ?_ | refine ball ?_ ?_ | refine bth (by assumption) ?_ ?_); first | omega | (simp <;> omega))))⟩
theorem not64 (n : Int) (h : I64 n) : bits .xor .i64 (-1) n = -n - 1 := by
  obtain ⟨h0, h1⟩ := h
  show IntKind.i64.wrap ((BitVec.ofInt 64 (-1) ^^^ BitVec.ofInt 64 n).toNat : Int) = _
  have e : BitVec.ofInt 64 (-1) = BitVec.allOnes 64 := by decide
  have e2 : (BitVec.allOnes 64 ^^^ BitVec.ofInt 64 n) = ~~~ BitVec.ofInt 64 n := BitVec.allOnes_xor
  rw [e, e2, BitVec.toNat_not, BitVec.toNat_ofInt, IntKind.wrap_i64]
  omega
theorem notu64 (n : Int) (h0 : 0 ≤ n) (h1 : n < 18446744073709551616) : bits .xor .u64 IntKind.u64.max n = 18446744073709551615 - n := by
  show IntKind.u64.wrap ((BitVec.ofInt 64 IntKind.u64.max ^^^ BitVec.ofInt 64 n).toNat : Int) = _
  have e : BitVec.ofInt 64 IntKind.u64.max = BitVec.allOnes 64 := by decide
  have e2 : (BitVec.allOnes 64 ^^^ BitVec.ofInt 64 n) = ~~~ BitVec.ofInt 64 n := BitVec.allOnes_xor
  rw [e, e2, BitVec.toNat_not, BitVec.toNat_ofInt, u64w]
  omega
theorem rminus (x : Int) (hx : R126 x) (w : World) :
    Calls Tryd.prog 46 #[.agg #[.int .i64 (wH (x)), .int .u64 (wL (x))]] w fun e w' => e = .returned (.agg #[.int .i64 (wH (-x)), .int .u64 (wL (-x))]) ∧ Below w.heap.size w w' := by
  have s1 : IntKind.i64.signed = true := rfl
  have s2 : IntKind.u64.signed = false := rfl
  have e1 : bits .xor .i64 (-1) (wH x) = wH (-x - 1) := by
    obtain ⟨_, _⟩ := hx
    rw [not64 _ (by unfold wH I64; omega)]
    unfold wH; omega
  have e2 : bits .xor .u64 IntKind.u64.max (wL x) = wL (-x - 1) := by
    rw [notu64 _ (by unfold wL; omega) (by unfold wL; omega)]
    unfold wL; omega
  have e3 : (0 : Int) = wH 1 := by decide
  have e4 : (1 : Int) = wL 1 := by decide
  have E3 := hide e3
  have E4 := hide e4
  have E5 := hide (show -x - 1 + 1 = -x by omega)
  have HX := hide hx
  clear e3 e4 hx
  go_enter Tryd.func46, Tryd.ntmps46
  go_wp2_with fail
  have hp := rplus (-x - 1) 1 (by obtain ⟨_, _⟩ := HX.out; constructor <;> omega) (by constructor <;> omega) (by obtain ⟨_, _⟩ := HX.out; constructor <;> omega)
  rw [← E3.out, ← E4.out, E5.out] at hp
  refine (hp _).mono ?_
  rintro e w1 ⟨rfl, hb1⟩
  obtain ⟨hc1, hf1⟩ := bcell hb1
  have hz1 := hb1.size
  go_wp2
  refine bodyPost_ret (v := .agg #[.int .i64 (wH (-x)), .int .u64 (wL (-x))]) (by simp only [results, Tryd.results46]; go_simp) rfl ⟨rfl, (by repeat (first | with_reducible exact Below.refl _ _ | with_reducible refine bdrew ?_ | ((with_reducible first | refine bset ?_ ?_ | refine ball ?_ ?_ | refine bth (by assumption) ?_ ?_); first | omega | (simp <;> omega))))⟩
theorem rtwice (x : Int) (hx : R127 x) (hs : R127 (x + x)) (w : World) :
    Calls Tryd.prog 44 #[.agg #[.int .i64 (wH (x)), .int .u64 (wL (x))]] w fun e w' => e = .returned (.agg #[.int .i64 (wH (x + x)), .int .u64 (wL (x + x))]) ∧ Below w.heap.size w w' := by
  go_enter Tryd.func44, Tryd.ntmps44
  go_wp2_with (go_at_call 23; refine (rplus x x hx hx hs _).mono ?_; rintro e w1 ⟨rfl, hb1⟩; obtain ⟨hc1, hf1⟩ := bcell hb1; have hz1 := hb1.size; try simp only [World.size_alloc] at hz1)
  refine bodyPost_ret (v := .agg #[.int .i64 (wH (x + x)), .int .u64 (wL (x + x))]) (by simp only [results, Tryd.results44]; go_simp) rfl ⟨rfl, (by repeat (first | with_reducible exact Below.refl _ _ | with_reducible refine bdrew ?_ | ((with_reducible first | refine bset ?_ ?_ | refine ball ?_ ?_ | refine bth (by assumption) ?_ ?_); first | omega | (simp <;> omega))))⟩
end Go.Proofs.YtlcbcanlehackaaDoor
