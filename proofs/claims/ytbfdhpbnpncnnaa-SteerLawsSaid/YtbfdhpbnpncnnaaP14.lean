/- Packed: Mul. -/
import Derived.Test.YtbfdhpbnpncnnaaP13
set_option linter.unusedVariables false
set_option linter.unusedSimpArgs false
section
namespace Go.Proofs.Ytbfdhpbnpncnnaa
open Go.RowKit
theorem en_out2 (l1 h1 l2 h2 : Int) (s : Bool) (o1 : l1 ≤ h1) (o2 : l2 ≤ h2) (h : s = true → l1 = l2 ∧ h1 = h2) :
  enL (oLo l1 h1) (oE l1 h1) (oLo l2 h2) (oE l2 h2) s = oLo (mi l1 l2) (mx h1 h2) ∧ enH (oHi l1 h1) (oE l1 h1) (oHi l2 h2) (oE l2 h2) s = oHi (mi l1 l2) (mx h1 h2) ∧ enE (oE l1 h1) (oE l2 h2) s = oE (mi l1 l2) (mx h1 h2) := by
 have hm : fits (mi l1 l2) (mx h1 h2) = (fits l1 h1 && fits l2 h2) := by
  unfold fits mi mx
  rw [← Bool.decide_and]
  apply decide_eq_decide.2
  split <;> split <;> omega
 cases s
 ·unfold enL enH enE oLo oHi oE
  rw [hm]
  cases fits l1 h1 <;> cases fits l2 h2 <;> simp
 ·obtain ⟨rfl, rfl⟩ := h rfl
  have e1 : mi l1 l1 = l1 := by unfold mi; split <;> rfl
  have e2 : mx h1 h1 = h1 := by unfold mx; split <;> rfl
  rw [e1, e2]
  simp [enL, enH, enE]
theorem ab_pos {d : Int} (h : ¬ d = 0) : 0 < ab d := by unfold ab; split <;> omega
theorem share_le (x y d : Int) (h : ¬ d = 0) : sL x y d ≤ sH x y d := by
 have hp := ab_pos h
 unfold sL sH
 by_cases z : sN x y d % ab d = 0
 ·rw [cdiv_zero z]; omega
 ·rw [cdiv_pos hp z]; omega
def HasS (b : Nat) (lo hi : Int) (w : World) : Prop := w.cell? ⟨b, 0, none⟩ = some (.int .i64 lo) ∧ w.cell? ⟨b, 1, none⟩ = some (.int .i64 hi) ∧ b < w.heap.size
theorem HasS.kept (b : Nat) (lo hi : Int) : Kept (HasS b lo hi) := ⟨fun h hb => ⟨by rw [(bcell hb).1 b 0 h.2.2]; exact h.1, by rw [(bcell hb).1 b 1 h.2.2]; exact h.2.1, Nat.lt_of_lt_of_le h.2.2 hb.size⟩⟩
theorem product_any (x y : Int) (ix : I64 x) (iy : I64 y) (w : World) :
  Calls Try.prog 50 #[.int .i64 x, .int .i64 y] w fun e w' => e = .returned (.tuple #[.agg #[.int .i64 (oLo (sL x y 4294967296) (sH x y 4294967296)), .int .i64 (oHi (sL x y 4294967296) (sH x y 4294967296))], .int .i64 (oE (sL x y 4294967296) (sH x y 4294967296))]) ∧ Below w.heap.size w w' := by
 have SH := hide (share_any x y 4294967296 ix iy ⟨by omega, by omega⟩ (by omega))
 clear ix iy
 generalize sL x y 4294967296 = LO at *
 generalize sH x y 4294967296 = HI at *
 go_enter Try.func50, Try.ntmps50
 go_wp2_with fail
 refine (SH.out _).mono ?_
 rintro e w1 ⟨rfl, hb1⟩
 obtain ⟨hc1, hf1⟩ := bcell hb1
 have hz1 := hb1.size
 try simp only [World.size_alloc, World.size_setCell] at hz1
 try have : w.heap.size < w1.heap.size := by omega
 try have : w.heap.size ≤ w1.heap.size := by omega
 have c1_0_0 : w1.cell? ⟨w.heap.size, 0, none⟩ = some (.int .i64 (0)) := by go_simp
 have g1_0_0 : w1.frozen? ⟨w.heap.size, 0, none⟩ = false := by go_simp
 have c1_0_1 : w1.cell? ⟨w.heap.size, 1, none⟩ = some (.int .i64 (0)) := by go_simp
 have g1_0_1 : w1.frozen? ⟨w.heap.size, 1, none⟩ = false := by go_simp
 clear hc1 hf1
 go_wp2
 refine bodyPost_ret (v := .tuple #[.agg #[.int .i64 (oLo LO HI), .int .i64 (oHi LO HI)], .int .i64 (oE LO HI)]) (by simp only [results, Try.results50]; go_simp) rfl ⟨rfl, blw_⟩
theorem mul_at2 (b : Nat) (x y : Int) (ix : I64 x) (iy : I64 y) : Answers (HasN b x) 49 #[.pointer (some ⟨b, 0, none⟩)] y (oLo (sL x y 4294967296) (sH x y 4294967296)) (oHi (sL x y 4294967296) (sH x y 4294967296)) (oE (sL x y 4294967296) (sH x y 4294967296)) := by
 intro w hw
 obtain ⟨hc, hb⟩ := hw
 have SH := hide (product_any x y ix iy)
 clear ix iy
 have hne : ¬ b = w.heap.size := by omega
 generalize sL x y 4294967296 = LO at *
 generalize sH x y 4294967296 = HI at *
 change Calls Try.prog 49 #[.int .i64 y, .pointer (some ⟨b, 0, none⟩)] w _
 go_enter Try.func49, Try.ntmps49
 go_wp2_with fail
 refine (SH.out _).mono ?_
 rintro e w1 ⟨rfl, hb1⟩
 obtain ⟨hc1, hf1⟩ := bcell hb1
 have hz1 := hb1.size
 try simp only [World.size_alloc, World.size_setCell] at hz1
 try have : w.heap.size < w1.heap.size := by omega
 try have : w.heap.size ≤ w1.heap.size := by omega
 have c1_0_0 : w1.cell? ⟨w.heap.size, 0, none⟩ = some (.int .i64 (0)) := by go_simp
 have g1_0_0 : w1.frozen? ⟨w.heap.size, 0, none⟩ = false := by go_simp
 have c1_0_1 : w1.cell? ⟨w.heap.size, 1, none⟩ = some (.int .i64 (0)) := by go_simp
 have g1_0_1 : w1.frozen? ⟨w.heap.size, 1, none⟩ = false := by go_simp
 clear hc1 hf1
 go_wp2
 refine bodyPost_ret (v := .tuple #[.agg #[.int .i64 (oLo LO HI), .int .i64 (oHi LO HI)], .int .i64 (oE LO HI)]) (by simp only [results, Try.results49]; go_simp) rfl ⟨rfl, blw_⟩
theorem div_at2 (b : Nat) (x y : Int) (ix : I64 x) (iy : I64 y) (hy : ¬ y = 0) : Answers (HasN b x) 45 #[.pointer (some ⟨b, 0, none⟩)] y (oLo (sL x 4294967296 y) (sH x 4294967296 y)) (oHi (sL x 4294967296 y) (sH x 4294967296 y)) (oE (sL x 4294967296 y) (sH x 4294967296 y)) := by
 intro w hw
 obtain ⟨hc, hb⟩ := hw
 have SH := hide (share_any x 4294967296 y ix ⟨by omega, by omega⟩ iy hy)
 clear ix iy hy
 have hne : ¬ b = w.heap.size := by omega
 generalize sL x 4294967296 y = LO at *
 generalize sH x 4294967296 y = HI at *
 change Calls Try.prog 45 #[.int .i64 y, .pointer (some ⟨b, 0, none⟩)] w _
 go_enter Try.func45, Try.ntmps45
 go_wp2_with fail
 refine (SH.out _).mono ?_
 rintro e w1 ⟨rfl, hb1⟩
 obtain ⟨hc1, hf1⟩ := bcell hb1
 have hz1 := hb1.size
 try simp only [World.size_alloc, World.size_setCell] at hz1
 try have : w.heap.size < w1.heap.size := by omega
 try have : w.heap.size ≤ w1.heap.size := by omega
 have c1_0_0 : w1.cell? ⟨w.heap.size, 0, none⟩ = some (.int .i64 (0)) := by go_simp
 have g1_0_0 : w1.frozen? ⟨w.heap.size, 0, none⟩ = false := by go_simp
 have c1_0_1 : w1.cell? ⟨w.heap.size, 1, none⟩ = some (.int .i64 (0)) := by go_simp
 have g1_0_1 : w1.frozen? ⟨w.heap.size, 1, none⟩ = false := by go_simp
 clear hc1 hf1
 go_wp2
 refine bodyPost_ret (v := .tuple #[.agg #[.int .i64 (oLo LO HI), .int .i64 (oHi LO HI)], .int .i64 (oE LO HI)]) (by simp only [results, Try.results45]; go_simp) rfl ⟨rfl, blw_⟩
def mL (x bl bh : Int) : Int := mi (sL x bl 4294967296) (sL x bh 4294967296)
def mH (x bl bh : Int) : Int := mx (sH x bl 4294967296) (sH x bh 4294967296)
def dL (x bl bh : Int) : Int := mi (sL x 4294967296 bl) (sL x 4294967296 bh)
def dH (x bl bh : Int) : Int := mx (sH x 4294967296 bl) (sH x 4294967296 bh)
theorem mm_le {l1 h1 l2 h2 : Int} (o1 : l1 ≤ h1) (o2 : l2 ≤ h2) : mi l1 l2 ≤ mx h1 h2 := by unfold mi mx; split <;> split <;> omega
theorem mul_at1 (b : Nat) (bl bh x : Int) (ix : I64 x) (i0 : I64 bl) (i1 : I64 bh) : Answers (HasS b bl bh) 48 #[.pointer (some ⟨b, 0, none⟩)] x (oLo (mL x bl bh) (mH x bl bh)) (oHi (mL x bl bh) (mH x bl bh)) (oE (mL x bl bh) (mH x bl bh)) := by
 intro w hw
 obtain ⟨hc, hc', hb⟩ := hw
 have E := hide (en_out2 (sL x bl 4294967296) (sH x bl 4294967296) (sL x bh 4294967296) (sH x bh 4294967296) (bl == bh) (share_le _ _ _ (by omega)) (share_le _ _ _ (by omega)) (fun h => by rw [eq_of_beq h]; exact ⟨rfl, rfl⟩))
 have hent : ∀ args w, (callFunc 49 args).run Try.prog w = .ok (.enter 49 args) w := enters_of Try.func49 (by kernel_rfl) rfl
 have EN := hide (fun k w hw => ends_1 (HasN k x) (HasN.kept k x) 49 (.pointer (some ⟨k, 0, none⟩)) hent bl bh _ _ _ _ _ _ (mul_at2 k x bl ix i0) (mul_at2 k x bh ix i1) w hw)
 change Calls Try.prog 48 #[.int .i64 x, .pointer (some ⟨b, 0, none⟩)] w _
 unfold mL mH
 rw [← E.out.1, ← E.out.2.1, ← E.out.2.2]
 clear ix i0 i1 hent E
 have hne : ¬ b = w.heap.size := by omega
 have hne2 : ¬ b = w.heap.size + 1 := by omega
 generalize enL (oLo (sL x bl 4294967296) (sH x bl 4294967296)) (oE (sL x bl 4294967296) (sH x bl 4294967296)) (oLo (sL x bh 4294967296) (sH x bh 4294967296)) (oE (sL x bh 4294967296) (sH x bh 4294967296)) (bl == bh) = rl at *
 generalize enH (oHi (sL x bl 4294967296) (sH x bl 4294967296)) (oE (sL x bl 4294967296) (sH x bl 4294967296)) (oHi (sL x bh 4294967296) (sH x bh 4294967296)) (oE (sL x bh 4294967296) (sH x bh 4294967296)) (bl == bh) = rh at *
 generalize enE (oE (sL x bl 4294967296) (sH x bl 4294967296)) (oE (sL x bh 4294967296) (sH x bh 4294967296)) (bl == bh) = re at *
 go_enter Try.func48, Try.ntmps48
 go_wp2_with fail
 refine (EN.out w.heap.size _ ⟨by go_simp, by simp; omega⟩).mono ?_
 rintro e w1 ⟨rfl, hb1⟩
 obtain ⟨hc1, hf1⟩ := bcell hb1
 have hz1 := hb1.size
 try simp only [World.size_alloc, World.size_setCell] at hz1
 try have : w.heap.size < w1.heap.size := by omega
 try have : w.heap.size ≤ w1.heap.size := by omega
 try have : w.heap.size + 1 < w1.heap.size := by omega
 try have : w.heap.size + 1 ≤ w1.heap.size := by omega
 have c1_0_0 : w1.cell? ⟨w.heap.size, 0, none⟩ = some (.int .i64 (x)) := by go_simp
 have c1_1_0 : w1.cell? ⟨w.heap.size + 1, 0, none⟩ = some (.int .i64 (0)) := by go_simp
 have g1_1_0 : w1.frozen? ⟨w.heap.size + 1, 0, none⟩ = false := by go_simp
 have c1_1_1 : w1.cell? ⟨w.heap.size + 1, 1, none⟩ = some (.int .i64 (0)) := by go_simp
 have g1_1_1 : w1.frozen? ⟨w.heap.size + 1, 1, none⟩ = false := by go_simp
 clear hc1 hf1
 go_wp2
 refine bodyPost_ret (v := .tuple #[.agg #[.int .i64 (rl), .int .i64 (rh)], .int .i64 re]) (by simp only [results, Try.results48]; go_simp) rfl ⟨rfl, blw_⟩
theorem div_at1 (b : Nat) (bl bh x : Int) (ix : I64 x) (i0 : I64 bl) (i1 : I64 bh) (z0 : ¬ bl = 0) (z1 : ¬ bh = 0) : Answers (HasS b bl bh) 44 #[.pointer (some ⟨b, 0, none⟩)] x (oLo (dL x bl bh) (dH x bl bh)) (oHi (dL x bl bh) (dH x bl bh)) (oE (dL x bl bh) (dH x bl bh)) := by
 intro w hw
 obtain ⟨hc, hc', hb⟩ := hw
 have E := hide (en_out2 (sL x 4294967296 bl) (sH x 4294967296 bl) (sL x 4294967296 bh) (sH x 4294967296 bh) (bl == bh) (share_le _ _ _ z0) (share_le _ _ _ z1) (fun h => by rw [eq_of_beq h]; exact ⟨rfl, rfl⟩))
 have hent : ∀ args w, (callFunc 45 args).run Try.prog w = .ok (.enter 45 args) w := enters_of Try.func45 (by kernel_rfl) rfl
 have EN := hide (fun k w hw => ends_1 (HasN k x) (HasN.kept k x) 45 (.pointer (some ⟨k, 0, none⟩)) hent bl bh _ _ _ _ _ _ (div_at2 k x bl ix i0 z0) (div_at2 k x bh ix i1 z1) w hw)
 change Calls Try.prog 44 #[.int .i64 x, .pointer (some ⟨b, 0, none⟩)] w _
 unfold dL dH
 rw [← E.out.1, ← E.out.2.1, ← E.out.2.2]
 clear ix i0 i1 hent E z0 z1
 have hne : ¬ b = w.heap.size := by omega
 have hne2 : ¬ b = w.heap.size + 1 := by omega
 generalize enL (oLo (sL x 4294967296 bl) (sH x 4294967296 bl)) (oE (sL x 4294967296 bl) (sH x 4294967296 bl)) (oLo (sL x 4294967296 bh) (sH x 4294967296 bh)) (oE (sL x 4294967296 bh) (sH x 4294967296 bh)) (bl == bh) = rl at *
 generalize enH (oHi (sL x 4294967296 bl) (sH x 4294967296 bl)) (oE (sL x 4294967296 bl) (sH x 4294967296 bl)) (oHi (sL x 4294967296 bh) (sH x 4294967296 bh)) (oE (sL x 4294967296 bh) (sH x 4294967296 bh)) (bl == bh) = rh at *
 generalize enE (oE (sL x 4294967296 bl) (sH x 4294967296 bl)) (oE (sL x 4294967296 bh) (sH x 4294967296 bh)) (bl == bh) = re at *
 go_enter Try.func44, Try.ntmps44
 go_wp2_with fail
 refine (EN.out w.heap.size _ ⟨by go_simp, by simp; omega⟩).mono ?_
 rintro e w1 ⟨rfl, hb1⟩
 obtain ⟨hc1, hf1⟩ := bcell hb1
 have hz1 := hb1.size
 try simp only [World.size_alloc, World.size_setCell] at hz1
 try have : w.heap.size < w1.heap.size := by omega
 try have : w.heap.size ≤ w1.heap.size := by omega
 try have : w.heap.size + 1 < w1.heap.size := by omega
 try have : w.heap.size + 1 ≤ w1.heap.size := by omega
 have c1_0_0 : w1.cell? ⟨w.heap.size, 0, none⟩ = some (.int .i64 (x)) := by go_simp
 have c1_1_0 : w1.cell? ⟨w.heap.size + 1, 0, none⟩ = some (.int .i64 (0)) := by go_simp
 have g1_1_0 : w1.frozen? ⟨w.heap.size + 1, 0, none⟩ = false := by go_simp
 have c1_1_1 : w1.cell? ⟨w.heap.size + 1, 1, none⟩ = some (.int .i64 (0)) := by go_simp
 have g1_1_1 : w1.frozen? ⟨w.heap.size + 1, 1, none⟩ = false := by go_simp
 clear hc1 hf1
 go_wp2
 refine bodyPost_ret (v := .tuple #[.agg #[.int .i64 (rl), .int .i64 (rh)], .int .i64 re]) (by simp only [results, Try.results44]; go_simp) rfl ⟨rfl, blw_⟩
theorem mul_any (al ah bl bh : Int) (i0 : I64 al) (j0 : I64 ah) (i1 : I64 bl) (j1 : I64 bh) (w : World) :
  Calls Try.prog 31 #[.agg #[.int .i64 (al), .int .i64 (ah)], .agg #[.int .i64 (bl), .int .i64 (bh)]] w fun e w' => e = .returned (.tuple #[.agg #[.int .i64 (okI (vB al ah && vB bl bh) (oLo (mi (mL al bl bh) (mL ah bl bh)) (mx (mH al bl bh) (mH ah bl bh)))), .int .i64 (okI (vB al ah && vB bl bh) (oHi (mi (mL al bl bh) (mL ah bl bh)) (mx (mH al bl bh) (mH ah bl bh))))], .int .i64 (errE (vB al ah && vB bl bh) (oE (mi (mL al bl bh) (mL ah bl bh)) (mx (mH al bl bh) (mH ah bl bh))))]) ∧ Below w.heap.size w w' := by
 have h0 := i0.1
 have h1 := i1.1
 cases hv : (vB al ah && vB bl bh)
 ·rw [ok_f, ok_f, err_f]
  have HV := hide hv
  clear hv i0 i1 j0 j1
  go_enter Try.func31, Try.ntmps31
  go_wp2_with fail
  go_at_call 41
  refine (invalid2 al ah bl bh _ _ _ h0 h1 (by go_simp) (by go_simp) (by go_simp) (by go_simp) (by go_simp) true (by simpa using HV.out)).mono ?_
  rintro e w1 ⟨rfl, hb1⟩
  obtain ⟨hc1, hf1⟩ := bcell hb1
  have hz1 := hb1.size
  try simp only [World.size_alloc, World.size_setCell] at hz1
  try have : w.heap.size < w1.heap.size := by omega
  try have : w.heap.size ≤ w1.heap.size := by omega
  try have : w.heap.size + 1 < w1.heap.size := by omega
  try have : w.heap.size + 1 ≤ w1.heap.size := by omega
  try have : w.heap.size + 1 + 1 < w1.heap.size := by omega
  try have : w.heap.size + 1 + 1 ≤ w1.heap.size := by omega
  go_wp2
  refine bodyPost_ret (v := .tuple #[.agg #[.int .i64 (0), .int .i64 (0)], .int .i64 2]) (by simp only [results, Try.results31]; go_simp) rfl ⟨rfl, blw_⟩
 ·rw [ok_t, ok_t, err_t]
  have HV := hide hv
  have E := hide (en_out2 (mL al bl bh) (mH al bl bh) (mL ah bl bh) (mH ah bl bh) (al == ah) (mm_le (share_le _ _ _ (by omega)) (share_le _ _ _ (by omega))) (mm_le (share_le _ _ _ (by omega)) (share_le _ _ _ (by omega))) (fun h => by rw [eq_of_beq h]; exact ⟨rfl, rfl⟩))
  have hent : ∀ args w, (callFunc 48 args).run Try.prog w = .ok (.enter 48 args) w := enters_of Try.func48 (by kernel_rfl) rfl
  have EN := hide (fun b w hw => ends_1 (HasS b bl bh) (HasS.kept b bl bh) 48 (.pointer (some ⟨b, 0, none⟩)) hent al ah _ _ _ _ _ _ (mul_at1 b bl bh al i0 i1 j1) (mul_at1 b bl bh ah j0 i1 j1) w hw)
  rw [← E.out.1, ← E.out.2.1, ← E.out.2.2]
  clear hv i0 i1 j0 j1 hent E
  generalize mL al bl bh = l1 at *
  generalize mH al bl bh = h1' at *
  generalize mL ah bl bh = l2 at *
  generalize mH ah bl bh = h2' at *
  generalize enL (oLo l1 h1') (oE l1 h1') (oLo l2 h2') (oE l2 h2') (al == ah) = rl at *
  generalize enH (oHi l1 h1') (oE l1 h1') (oHi l2 h2') (oE l2 h2') (al == ah) = rh at *
  generalize enE (oE l1 h1') (oE l2 h2') (al == ah) = re at *
  go_enter Try.func31, Try.ntmps31
  go_wp2_with fail
  go_at_call 41
  refine (invalid2 al ah bl bh _ _ _ h0 h1 (by go_simp) (by go_simp) (by go_simp) (by go_simp) (by go_simp) false (by simpa using HV.out)).mono ?_
  rintro e w1 ⟨rfl, hb1⟩
  obtain ⟨hc1, hf1⟩ := bcell hb1
  have hz1 := hb1.size
  try simp only [World.size_alloc, World.size_setCell] at hz1
  try have : w.heap.size < w1.heap.size := by omega
  try have : w.heap.size ≤ w1.heap.size := by omega
  try have : w.heap.size + 1 < w1.heap.size := by omega
  try have : w.heap.size + 1 ≤ w1.heap.size := by omega
  try have : w.heap.size + 1 + 1 < w1.heap.size := by omega
  try have : w.heap.size + 1 + 1 ≤ w1.heap.size := by omega
  have c1_0_0 : w1.cell? ⟨w.heap.size, 0, none⟩ = some (.int .i64 (al)) := by go_simp
  have c1_0_1 : w1.cell? ⟨w.heap.size, 1, none⟩ = some (.int .i64 (ah)) := by go_simp
  have c1_1_0 : w1.cell? ⟨w.heap.size + 1, 0, none⟩ = some (.int .i64 (bl)) := by go_simp
  have c1_1_1 : w1.cell? ⟨w.heap.size + 1, 1, none⟩ = some (.int .i64 (bh)) := by go_simp
  have c1_2_0 : w1.cell? ⟨w.heap.size + 1 + 1, 0, none⟩ = some (.int .i64 (0)) := by go_simp
  have g1_2_0 : w1.frozen? ⟨w.heap.size + 1 + 1, 0, none⟩ = false := by go_simp
  have c1_2_1 : w1.cell? ⟨w.heap.size + 1 + 1, 1, none⟩ = some (.int .i64 (0)) := by go_simp
  have g1_2_1 : w1.frozen? ⟨w.heap.size + 1 + 1, 1, none⟩ = false := by go_simp
  clear hc1 hf1
  go_wp2_with fail
  refine (EN.out (w.heap.size + 1) _ ⟨by assumption, by assumption, by assumption⟩).mono ?_
  rintro e w2 ⟨rfl, hb2⟩
  obtain ⟨hc2, hf2⟩ := bcell hb2
  have hz2 := hb2.size
  try simp only [World.size_alloc, World.size_setCell] at hz2
  try have : w.heap.size < w2.heap.size := by omega
  try have : w.heap.size ≤ w2.heap.size := by omega
  try have : w.heap.size + 1 < w2.heap.size := by omega
  try have : w.heap.size + 1 ≤ w2.heap.size := by omega
  try have : w.heap.size + 1 + 1 < w2.heap.size := by omega
  try have : w.heap.size + 1 + 1 ≤ w2.heap.size := by omega
  have c2_0_0 : w2.cell? ⟨w.heap.size, 0, none⟩ = some (.int .i64 (al)) := by go_simp
  have c2_0_1 : w2.cell? ⟨w.heap.size, 1, none⟩ = some (.int .i64 (ah)) := by go_simp
  have c2_1_0 : w2.cell? ⟨w.heap.size + 1, 0, none⟩ = some (.int .i64 (bl)) := by go_simp
  have c2_1_1 : w2.cell? ⟨w.heap.size + 1, 1, none⟩ = some (.int .i64 (bh)) := by go_simp
  have c2_2_0 : w2.cell? ⟨w.heap.size + 1 + 1, 0, none⟩ = some (.int .i64 (0)) := by go_simp
  have g2_2_0 : w2.frozen? ⟨w.heap.size + 1 + 1, 0, none⟩ = false := by go_simp
  have c2_2_1 : w2.cell? ⟨w.heap.size + 1 + 1, 1, none⟩ = some (.int .i64 (0)) := by go_simp
  have g2_2_1 : w2.frozen? ⟨w.heap.size + 1 + 1, 1, none⟩ = false := by go_simp
  clear hc2 hf2 c1_0_0 c1_0_1 c1_1_0 c1_1_1 c1_2_0 g1_2_0 c1_2_1 g1_2_1
  go_wp2
  refine bodyPost_ret (v := .tuple #[.agg #[.int .i64 (rl), .int .i64 (rh)], .int .i64 re]) (by simp only [results, Try.results31]; go_simp) rfl ⟨rfl, blw_⟩
def zB (lo hi : Int) : Bool := decide (lo ≤ 0 ∧ 0 ≤ hi)
def zI (z : Bool) (x : Int) : Int := if z then 0 else x
def zE (z : Bool) (x : Int) : Int := if z then 10 else x
theorem z_t (x : Int) : zI true x = 0 ∧ zE true x = 10 := ⟨rfl, rfl⟩
theorem z_f (x : Int) : zI false x = x ∧ zE false x = x := ⟨rfl, rfl⟩
theorem z_ff {lo hi : Int} (h : zB lo hi = false) (v : vB lo hi = true) : ¬ lo = 0 ∧ ¬ hi = 0 := by
 have := of_decide_eq_false h
 have := vB_tt v
 omega
theorem div_any (al ah bl bh : Int) (i0 : I64 al) (j0 : I64 ah) (i1 : I64 bl) (j1 : I64 bh) (w : World) :
  Calls Try.prog 29 #[.agg #[.int .i64 (al), .int .i64 (ah)], .agg #[.int .i64 (bl), .int .i64 (bh)]] w fun e w' => e = .returned (.tuple #[.agg #[.int .i64 (okI (vB al ah && vB bl bh) (zI (zB bl bh) (oLo (mi (dL al bl bh) (dL ah bl bh)) (mx (dH al bl bh) (dH ah bl bh))))), .int .i64 (okI (vB al ah && vB bl bh) (zI (zB bl bh) (oHi (mi (dL al bl bh) (dL ah bl bh)) (mx (dH al bl bh) (dH ah bl bh)))))], .int .i64 (errE (vB al ah && vB bl bh) (zE (zB bl bh) (oE (mi (dL al bl bh) (dL ah bl bh)) (mx (dH al bl bh) (dH ah bl bh)))))]) ∧ Below w.heap.size w w' := by
 have h0 := i0.1
 have h1 := i1.1
 cases hv : (vB al ah && vB bl bh)
 ·rw [ok_f, ok_f, err_f]
  have HV := hide hv
  clear hv i0 i1 j0 j1
  go_enter Try.func29, Try.ntmps29
  go_wp2_with fail
  go_at_call 41
  refine (invalid2 al ah bl bh _ _ _ h0 h1 (by go_simp) (by go_simp) (by go_simp) (by go_simp) (by go_simp) true (by simpa using HV.out)).mono ?_
  rintro e w1 ⟨rfl, hb1⟩
  obtain ⟨hc1, hf1⟩ := bcell hb1
  have hz1 := hb1.size
  try simp only [World.size_alloc, World.size_setCell] at hz1
  try have : w.heap.size < w1.heap.size := by omega
  try have : w.heap.size ≤ w1.heap.size := by omega
  try have : w.heap.size + 1 < w1.heap.size := by omega
  try have : w.heap.size + 1 ≤ w1.heap.size := by omega
  try have : w.heap.size + 1 + 1 < w1.heap.size := by omega
  try have : w.heap.size + 1 + 1 ≤ w1.heap.size := by omega
  go_wp2
  refine bodyPost_ret (v := .tuple #[.agg #[.int .i64 (0), .int .i64 (0)], .int .i64 2]) (by simp only [results, Try.results29]; go_simp) rfl ⟨rfl, blw_⟩
 ·rw [ok_t, ok_t, err_t]
  have HV := hide hv
  have hb : vB bl bh = true := by simp at hv; exact hv.2
  cases hz : zB bl bh
  ·rw [(z_f _).1, (z_f _).1, (z_f _).2]
   obtain ⟨z0, z1⟩ := z_ff hz hb
   have HIN := hide (in_any bl bh 0 h1)
   have hin : inB bl bh 0 = false := by
    unfold inB
    have := of_decide_eq_false hz
    simp [hb]
    omega
   rw [hin] at HIN
   have E := hide (en_out2 (dL al bl bh) (dH al bl bh) (dL ah bl bh) (dH ah bl bh) (al == ah) (mm_le (share_le _ _ _ z0) (share_le _ _ _ z1)) (mm_le (share_le _ _ _ z0) (share_le _ _ _ z1)) (fun h => by rw [eq_of_beq h]; exact ⟨rfl, rfl⟩))
   have hent : ∀ args w, (callFunc 44 args).run Try.prog w = .ok (.enter 44 args) w := enters_of Try.func44 (by kernel_rfl) rfl
   have EN := hide (fun b w hw => ends_1 (HasS b bl bh) (HasS.kept b bl bh) 44 (.pointer (some ⟨b, 0, none⟩)) hent al ah _ _ _ _ _ _ (div_at1 b bl bh al i0 i1 j1 z0 z1) (div_at1 b bl bh ah j0 i1 j1 z0 z1) w hw)
   rw [← E.out.1, ← E.out.2.1, ← E.out.2.2]
   clear hv i0 i1 j0 j1 hent E hz hb hin z0 z1
   generalize dL al bl bh = l1 at *
   generalize dH al bl bh = h1' at *
   generalize dL ah bl bh = l2 at *
   generalize dH ah bl bh = h2' at *
   generalize enL (oLo l1 h1') (oE l1 h1') (oLo l2 h2') (oE l2 h2') (al == ah) = rl at *
   generalize enH (oHi l1 h1') (oE l1 h1') (oHi l2 h2') (oE l2 h2') (al == ah) = rh at *
   generalize enE (oE l1 h1') (oE l2 h2') (al == ah) = re at *
   go_enter Try.func29, Try.ntmps29
   go_wp2_with fail
   go_at_call 41
   refine (invalid2 al ah bl bh _ _ _ h0 h1 (by go_simp) (by go_simp) (by go_simp) (by go_simp) (by go_simp) false (by simpa using HV.out)).mono ?_
   rintro e w1 ⟨rfl, hb1⟩
   obtain ⟨hc1, hf1⟩ := bcell hb1
   have hz1 := hb1.size
   try simp only [World.size_alloc, World.size_setCell] at hz1
   try have : w.heap.size < w1.heap.size := by omega
   try have : w.heap.size ≤ w1.heap.size := by omega
   try have : w.heap.size + 1 < w1.heap.size := by omega
   try have : w.heap.size + 1 ≤ w1.heap.size := by omega
   try have : w.heap.size + 1 + 1 < w1.heap.size := by omega
   try have : w.heap.size + 1 + 1 ≤ w1.heap.size := by omega
   have c1_0_0 : w1.cell? ⟨w.heap.size, 0, none⟩ = some (.int .i64 (al)) := by go_simp
   have c1_0_1 : w1.cell? ⟨w.heap.size, 1, none⟩ = some (.int .i64 (ah)) := by go_simp
   have c1_1_0 : w1.cell? ⟨w.heap.size + 1, 0, none⟩ = some (.int .i64 (bl)) := by go_simp
   have c1_1_1 : w1.cell? ⟨w.heap.size + 1, 1, none⟩ = some (.int .i64 (bh)) := by go_simp
   have c1_2_0 : w1.cell? ⟨w.heap.size + 1 + 1, 0, none⟩ = some (.int .i64 (0)) := by go_simp
   have g1_2_0 : w1.frozen? ⟨w.heap.size + 1 + 1, 0, none⟩ = false := by go_simp
   have c1_2_1 : w1.cell? ⟨w.heap.size + 1 + 1, 1, none⟩ = some (.int .i64 (0)) := by go_simp
   have g1_2_1 : w1.frozen? ⟨w.heap.size + 1 + 1, 1, none⟩ = false := by go_simp
   clear hc1 hf1
   go_wp2_with fail
   refine (HIN.out _).mono ?_
   rintro e w2 ⟨rfl, hb2⟩
   obtain ⟨hc2, hf2⟩ := bcell hb2
   have hz2 := hb2.size
   try simp only [World.size_alloc, World.size_setCell] at hz2
   try have : w.heap.size < w2.heap.size := by omega
   try have : w.heap.size ≤ w2.heap.size := by omega
   try have : w.heap.size + 1 < w2.heap.size := by omega
   try have : w.heap.size + 1 ≤ w2.heap.size := by omega
   try have : w.heap.size + 1 + 1 < w2.heap.size := by omega
   try have : w.heap.size + 1 + 1 ≤ w2.heap.size := by omega
   have c2_0_0 : w2.cell? ⟨w.heap.size, 0, none⟩ = some (.int .i64 (al)) := by go_simp
   have c2_0_1 : w2.cell? ⟨w.heap.size, 1, none⟩ = some (.int .i64 (ah)) := by go_simp
   have c2_1_0 : w2.cell? ⟨w.heap.size + 1, 0, none⟩ = some (.int .i64 (bl)) := by go_simp
   have c2_1_1 : w2.cell? ⟨w.heap.size + 1, 1, none⟩ = some (.int .i64 (bh)) := by go_simp
   have c2_2_0 : w2.cell? ⟨w.heap.size + 1 + 1, 0, none⟩ = some (.int .i64 (0)) := by go_simp
   have g2_2_0 : w2.frozen? ⟨w.heap.size + 1 + 1, 0, none⟩ = false := by go_simp
   have c2_2_1 : w2.cell? ⟨w.heap.size + 1 + 1, 1, none⟩ = some (.int .i64 (0)) := by go_simp
   have g2_2_1 : w2.frozen? ⟨w.heap.size + 1 + 1, 1, none⟩ = false := by go_simp
   clear hc2 hf2 c1_0_0 c1_0_1 c1_1_0 c1_1_1 c1_2_0 g1_2_0 c1_2_1 g1_2_1
   go_wp2_with fail
   refine (EN.out (w.heap.size + 1) _ ⟨by assumption, by assumption, by assumption⟩).mono ?_
   rintro e w3 ⟨rfl, hb3⟩
   obtain ⟨hc3, hf3⟩ := bcell hb3
   have hz3 := hb3.size
   try simp only [World.size_alloc, World.size_setCell] at hz3
   try have : w.heap.size < w3.heap.size := by omega
   try have : w.heap.size ≤ w3.heap.size := by omega
   try have : w.heap.size + 1 < w3.heap.size := by omega
   try have : w.heap.size + 1 ≤ w3.heap.size := by omega
   try have : w.heap.size + 1 + 1 < w3.heap.size := by omega
   try have : w.heap.size + 1 + 1 ≤ w3.heap.size := by omega
   have c3_0_0 : w3.cell? ⟨w.heap.size, 0, none⟩ = some (.int .i64 (al)) := by go_simp
   have c3_0_1 : w3.cell? ⟨w.heap.size, 1, none⟩ = some (.int .i64 (ah)) := by go_simp
   have c3_1_0 : w3.cell? ⟨w.heap.size + 1, 0, none⟩ = some (.int .i64 (bl)) := by go_simp
   have c3_1_1 : w3.cell? ⟨w.heap.size + 1, 1, none⟩ = some (.int .i64 (bh)) := by go_simp
   have c3_2_0 : w3.cell? ⟨w.heap.size + 1 + 1, 0, none⟩ = some (.int .i64 (0)) := by go_simp
   have g3_2_0 : w3.frozen? ⟨w.heap.size + 1 + 1, 0, none⟩ = false := by go_simp
   have c3_2_1 : w3.cell? ⟨w.heap.size + 1 + 1, 1, none⟩ = some (.int .i64 (0)) := by go_simp
   have g3_2_1 : w3.frozen? ⟨w.heap.size + 1 + 1, 1, none⟩ = false := by go_simp
   clear hc3 hf3 c2_0_0 c2_0_1 c2_1_0 c2_1_1 c2_2_0 g2_2_0 c2_2_1 g2_2_1
   go_wp2
   refine bodyPost_ret (v := .tuple #[.agg #[.int .i64 (rl), .int .i64 (rh)], .int .i64 re]) (by simp only [results, Try.results29]; go_simp) rfl ⟨rfl, blw_⟩
  ·rw [(z_t _).1, (z_t _).1, (z_t _).2]
   have HIN := hide (in_any bl bh 0 h1)
   have hin : inB bl bh 0 = true := by
    unfold inB
    have := of_decide_eq_true hz
    simp [hb]
    omega
   rw [hin] at HIN
   clear hv i0 i1 j0 j1 hz hb hin
   go_enter Try.func29, Try.ntmps29
   go_wp2_with fail
   go_at_call 41
   refine (invalid2 al ah bl bh _ _ _ h0 h1 (by go_simp) (by go_simp) (by go_simp) (by go_simp) (by go_simp) false (by simpa using HV.out)).mono ?_
   rintro e w1 ⟨rfl, hb1⟩
   obtain ⟨hc1, hf1⟩ := bcell hb1
   have hz1 := hb1.size
   try simp only [World.size_alloc, World.size_setCell] at hz1
   try have : w.heap.size < w1.heap.size := by omega
   try have : w.heap.size ≤ w1.heap.size := by omega
   try have : w.heap.size + 1 < w1.heap.size := by omega
   try have : w.heap.size + 1 ≤ w1.heap.size := by omega
   try have : w.heap.size + 1 + 1 < w1.heap.size := by omega
   try have : w.heap.size + 1 + 1 ≤ w1.heap.size := by omega
   have c1_0_0 : w1.cell? ⟨w.heap.size, 0, none⟩ = some (.int .i64 (al)) := by go_simp
   have c1_0_1 : w1.cell? ⟨w.heap.size, 1, none⟩ = some (.int .i64 (ah)) := by go_simp
   have c1_1_0 : w1.cell? ⟨w.heap.size + 1, 0, none⟩ = some (.int .i64 (bl)) := by go_simp
   have c1_1_1 : w1.cell? ⟨w.heap.size + 1, 1, none⟩ = some (.int .i64 (bh)) := by go_simp
   have c1_2_0 : w1.cell? ⟨w.heap.size + 1 + 1, 0, none⟩ = some (.int .i64 (0)) := by go_simp
   have g1_2_0 : w1.frozen? ⟨w.heap.size + 1 + 1, 0, none⟩ = false := by go_simp
   have c1_2_1 : w1.cell? ⟨w.heap.size + 1 + 1, 1, none⟩ = some (.int .i64 (0)) := by go_simp
   have g1_2_1 : w1.frozen? ⟨w.heap.size + 1 + 1, 1, none⟩ = false := by go_simp
   clear hc1 hf1
   go_wp2_with fail
   refine (HIN.out _).mono ?_
   rintro e w2 ⟨rfl, hb2⟩
   obtain ⟨hc2, hf2⟩ := bcell hb2
   have hz2 := hb2.size
   try simp only [World.size_alloc, World.size_setCell] at hz2
   try have : w.heap.size < w2.heap.size := by omega
   try have : w.heap.size ≤ w2.heap.size := by omega
   try have : w.heap.size + 1 < w2.heap.size := by omega
   try have : w.heap.size + 1 ≤ w2.heap.size := by omega
   try have : w.heap.size + 1 + 1 < w2.heap.size := by omega
   try have : w.heap.size + 1 + 1 ≤ w2.heap.size := by omega
   have c2_0_0 : w2.cell? ⟨w.heap.size, 0, none⟩ = some (.int .i64 (al)) := by go_simp
   have c2_0_1 : w2.cell? ⟨w.heap.size, 1, none⟩ = some (.int .i64 (ah)) := by go_simp
   have c2_1_0 : w2.cell? ⟨w.heap.size + 1, 0, none⟩ = some (.int .i64 (bl)) := by go_simp
   have c2_1_1 : w2.cell? ⟨w.heap.size + 1, 1, none⟩ = some (.int .i64 (bh)) := by go_simp
   have c2_2_0 : w2.cell? ⟨w.heap.size + 1 + 1, 0, none⟩ = some (.int .i64 (0)) := by go_simp
   have g2_2_0 : w2.frozen? ⟨w.heap.size + 1 + 1, 0, none⟩ = false := by go_simp
   have c2_2_1 : w2.cell? ⟨w.heap.size + 1 + 1, 1, none⟩ = some (.int .i64 (0)) := by go_simp
   have g2_2_1 : w2.frozen? ⟨w.heap.size + 1 + 1, 1, none⟩ = false := by go_simp
   clear hc2 hf2 c1_0_0 c1_0_1 c1_1_0 c1_1_1 c1_2_0 g1_2_0 c1_2_1 g1_2_1
   go_wp2
   refine bodyPost_ret (v := .tuple #[.agg #[.int .i64 (0), .int .i64 (0)], .int .i64 10]) (by simp only [results, Try.results29]; go_simp) rfl ⟨rfl, blw_⟩
end Go.Proofs.Ytbfdhpbnpncnnaa
end
