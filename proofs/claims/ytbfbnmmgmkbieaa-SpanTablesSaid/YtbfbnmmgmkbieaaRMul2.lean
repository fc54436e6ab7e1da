/- Products of spans: both sides say the same. -/
import Derived.Test.YtbfbnmmgmkbieaaRMul
set_option linter.unusedVariables false
set_option linter.unusedSimpArgs false
namespace Go.Proofs.Ytbfbnmmgmkbieaa
open Go.RowKit
theorem share_b (x y : Int) : sL x y 4294967296 = x * y / 4294967296 ∧ sH x y 4294967296 = cdiv (x * y) 4294967296 := by
  have e : sN x y 4294967296 = x * y := by unfold sN; rw [if_neg (by omega)]
  have e2 : ab 4294967296 = 4294967296 := by unfold ab; rw [if_neg (by omega)]
  unfold sL sH
  rw [e, e2]
  exact ⟨rfl, rfl⟩
theorem mul_bd {x y : Int} (hx : I64 x) (hy : I64 y) : R126 (x * y) := by
  obtain ⟨a0, a1⟩ := ab_bd hx
  obtain ⟨b0, b1⟩ := ab_bd hy
  have h := ab_mul x y
  have m0 := Int.mul_nonneg a0 b0
  have m1 : ab x * ab y ≤ 9223372036854775808 * 9223372036854775808 := Int.mul_le_mul a1 b1 b0 (by omega)
  generalize ab x * ab y = M at *
  cases hs : (decide (x < 0) != decide (y < 0)) <;> rw [hs] at h <;> simp at h <;> exact ⟨by omega, by omega⟩
theorem mi_bd {x y : Int} (hx : R126 x) (hy : R126 y) : R126 (mi x y) := by unfold mi; split <;> assumption
theorem mx_bd {x y : Int} (hx : R126 x) (hy : R126 y) : R126 (mx x y) := by unfold mx; split <;> assumption
theorem mi_div (p q : Int) : mi p q / 4294967296 = mi (p / 4294967296) (q / 4294967296) := by unfold mi; split <;> split <;> omega
theorem mx_cdiv (p q : Int) : cdiv (mx p q) 4294967296 = mx (cdiv p 4294967296) (cdiv q 4294967296) := by unfold mx cdiv; split <;> split <;> omega
theorem mi_asc (a b c d : Int) : mi (mi (mi a b) c) d = mi (mi a b) (mi c d) := by unfold mi; (repeat split) <;> omega
theorem mx_asc (a b c d : Int) : mx (mx (mx a b) c) d = mx (mx a b) (mx c d) := by unfold mx; (repeat split) <;> omega
theorem rmul_any (al ah bl bh : Int) (i0 : I64 al) (j0 : I64 ah) (i1 : I64 bl) (j1 : I64 bh) (w : World) :
    Calls Try.prog 30 #[.agg #[.int .i64 (al), .int .i64 (ah)], .agg #[.int .i64 (bl), .int .i64 (bh)]] w fun e w' => e = .returned (.tuple #[.agg #[.int .i64 (okI (vB al ah && vB bl bh) (oLo (mi (mL al bl bh) (mL ah bl bh)) (mx (mH al bl bh) (mH ah bl bh)))), .int .i64 (okI (vB al ah && vB bl bh) (oHi (mi (mL al bl bh) (mL ah bl bh)) (mx (mH al bl bh) (mH ah bl bh))))], .int .i64 (errE (vB al ah && vB bl bh) (oE (mi (mL al bl bh) (mL ah bl bh)) (mx (mH al bl bh) (mH ah bl bh))))]) ∧ Below w.heap.size w w' := by
  cases hv : (vB al ah && vB bl bh)
  · rw [ok_f, ok_f, err_f]
    have HV := hide (rboth al ah bl bh 2 (by rw [hv]; rfl))
    clear hv i0 i1 j0 j1
    go_enter Try.func30, Try.ntmps30
    go_wp2_with fail
    refine (HV.out _).mono ?_
    rintro e w1 ⟨rfl, hb1⟩
    obtain ⟨hc1, hf1⟩ := bcell hb1
    have hz1 := hb1.size
    try simp only [World.size_alloc, World.size_setCell] at hz1
    try have : w.heap.size < w1.heap.size := by omega
    try have : w.heap.size ≤ w1.heap.size := by omega
    try have : w.heap.size + 1 < w1.heap.size := by omega
    try have : w.heap.size + 1 ≤ w1.heap.size := by omega
    try have : w.heap.size + 1 + 1 < w1.heap.size := by omega
    try have : w.heap.size + 1 + 1 ≤ w1.heap.size := by omega
    have c1_0_0 : w1.cell? ⟨w.heap.size, 0, none⟩ = some (.int .i64 (al)) := by go_simp
    have c1_0_1 : w1.cell? ⟨w.heap.size, 1, none⟩ = some (.int .i64 (ah)) := by go_simp
    have c1_1_0 : w1.cell? ⟨w.heap.size + 1, 0, none⟩ = some (.int .i64 (bl)) := by go_simp
    have c1_1_1 : w1.cell? ⟨w.heap.size + 1, 1, none⟩ = some (.int .i64 (bh)) := by go_simp
    have c1_2_0 : w1.cell? ⟨w.heap.size + 1 + 1, 0, none⟩ = some (.int .i64 (0)) := by go_simp
    have g1_2_0 : w1.frozen? ⟨w.heap.size + 1 + 1, 0, none⟩ = false := by go_simp
    have c1_2_1 : w1.cell? ⟨w.heap.size + 1 + 1, 1, none⟩ = some (.int .i64 (0)) := by go_simp
    have g1_2_1 : w1.frozen? ⟨w.heap.size + 1 + 1, 1, none⟩ = false := by go_simp
    clear hc1 hf1
    go_wp2
    refine bodyPost_ret (v := .tuple #[.agg #[.int .i64 (0), .int .i64 (0)], .int .i64 2]) (by simp only [results, Try.results30]; go_simp) rfl ⟨rfl, (by repeat (first | with_reducible exact Below.refl _ _ | with_reducible refine bdrew ?_ | ((with_reducible first | refine bset ?_ ?_ | refine ball ?_ ?_ | refine bth (by assumption) ?_ ?_); first | omega | (simp <;> omega))))⟩
  · rw [ok_t, ok_t, err_t]
    refine rmul_loop al ah bl bh (al * bl) (al * bh) (ah * bl) (ah * bh) hv (rtimes al bl i0 i1) (rtimes al bh i0 j1) (rtimes ah bl j0 i1) (rtimes ah bh j0 j1) _ _ _ ?_ w
    intro l h hr
    have hb0 := mul_bd i0 i1
    have hb1 := mul_bd i0 j1
    have hb2 := mul_bd j0 i1
    have hb3 := mul_bd j0 j1
    obtain ⟨rfl, rfl⟩ : l = mi (mi (mi (al * bl) (al * bh)) (ah * bl)) (ah * bh) ∧ h = mx (mx (mx (al * bl) (al * bh)) (ah * bl)) (ah * bh) := by
      rcases hr with hr | hr | hr | hr | hr
      · omega
      · omega
      · omega
      · omega
      · exact hr.2
    refine ⟨mi_bd (mi_bd (mi_bd hb0 hb1) hb2) hb3, mx_bd (mx_bd (mx_bd hb0 hb1) hb2) hb3, ?_⟩
    rw [mi_asc, mx_asc, mi_div, mi_div, mi_div, mx_cdiv, mx_cdiv, mx_cdiv]
    unfold mL mH
    rw [(share_b al bl).1, (share_b al bh).1, (share_b ah bl).1, (share_b ah bh).1, (share_b al bl).2, (share_b al bh).2, (share_b ah bl).2, (share_b ah bh).2]
    exact ⟨rfl, rfl, rfl⟩
end Go.Proofs.Ytbfbnmmgmkbieaa
