/- The law of the tight ends of layer 1. -/
import Derived.Test.YtbfbnmmgmkbieabDoorAlive
import Derived.Test.YtbfbnmmgmkbieabDoorTightM
import Derived.Test.YtbfbnmmgmkbieabDoorTimes
import Derived.Test.YtbfbnmmgmkbieabDoorBits
import Derived.ProofKit
set_option linter.unusedVariables false
set_option linter.unusedSimpArgs false
namespace Go.Proofs.YtbfbnmmgmkbieabDoor
open Go.RowKit
namespace lawSpanTight
def pk (a b : Int) : Nat → Int
  | 0 => a
  | _ => b
theorem corner_pk (al ah bl bh : Int) {i j : Nat} (hi : i < 2) (hj : j < 2) : corner al ah bl bh (2 * i + j) = pk al ah i * pk bl bh j := by
  match i, j, hi, hj with
  | 0, 0, _, _ => rfl
  | 0, 1, _, _ => rfl
  | 1, 0, _, _ => rfl
  | 1, 1, _, _ => rfl
theorem pk_i64 {a b : Int} (i0 : I64 a) (i1 : I64 b) (i : Nat) : I64 (pk a b i) := by
  cases i
  · exact i0
  · exact i1
/-- The cells that the loops read. -/
structure TJ (w wr : World) (b1 b2 b3 b4 b5 : Nat) (al ah bl bh pl ph : Int) : Prop where
  s1 : b1 < wr.heap.size
  s2 : b2 < wr.heap.size
  s3 : b3 < wr.heap.size
  s4 : b4 < wr.heap.size
  s5 : b5 < wr.heap.size
  a0 : wr.cell? ⟨b1, 0, none⟩ = some (.int .i64 al)
  a1 : wr.cell? ⟨b1, 1, none⟩ = some (.int .i64 ah)
  c0 : wr.cell? ⟨b2, 0, none⟩ = some (.int .i64 bl)
  c1 : wr.cell? ⟨b2, 1, none⟩ = some (.int .i64 bh)
  p0 : wr.cell? ⟨b3, 0, none⟩ = some (.int .i64 pl)
  p1 : wr.cell? ⟨b3, 1, none⟩ = some (.int .i64 ph)
  e : ∀ i, i < 2 → wr.cell? ⟨b4, i, none⟩ = some (.int .i64 (pk al ah i))
  e2 : ∀ i, i < 2 → wr.cell? ⟨b5, i, none⟩ = some (.int .i64 (pk bl bh i))
  below : Below w.heap.size w wr
structure TI (w wr : World) (b1 b2 b3 b4 : Nat) (al ah bl bh pl ph : Int) : Prop where
  s1 : b1 < wr.heap.size
  s2 : b2 < wr.heap.size
  s3 : b3 < wr.heap.size
  s4 : b4 < wr.heap.size
  a0 : wr.cell? ⟨b1, 0, none⟩ = some (.int .i64 al)
  a1 : wr.cell? ⟨b1, 1, none⟩ = some (.int .i64 ah)
  c0 : wr.cell? ⟨b2, 0, none⟩ = some (.int .i64 bl)
  c1 : wr.cell? ⟨b2, 1, none⟩ = some (.int .i64 bh)
  p0 : wr.cell? ⟨b3, 0, none⟩ = some (.int .i64 pl)
  p1 : wr.cell? ⟨b3, 1, none⟩ = some (.int .i64 ph)
  e : ∀ i, i < 2 → wr.cell? ⟨b4, i, none⟩ = some (.int .i64 (pk al ah i))
  below : Below w.heap.size w wr
theorem walk_bad (al ah bl bh xl xh xe : Int) (he : xe = 2 ∨ xe = 4) (MU : ∀ W, Calls Tryd.prog 10 #[.agg #[.int .i64 (al), .int .i64 (ah)], .agg #[.int .i64 (bl), .int .i64 (bh)]] W fun e w' => e = .returned (.tuple #[.agg #[.int .i64 (xl), .int .i64 (xh)], .int .i64 xe]) ∧ Below W.heap.size W w') (w : World) :
    Calls Tryd.prog 3 #[.agg #[.int .i64 (al), .int .i64 (ah)], .agg #[.int .i64 (bl), .int .i64 (bh)]] w fun e w' => e = .returned (.bool true) ∧ Below w.heap.size w w' := by
  have AL := hide alive_any
  have M := hide MU
  clear MU
  rcases he with rfl | rfl
  · go_enter Tryd.func3, Tryd.ntmps3
    go_wp2_with fail
    refine (AL.out _).mono ?_
    rintro e w11 ⟨rfl, hb11⟩
    obtain ⟨hc11, hf11⟩ := bcell hb11
    have hz11 := hb11.size
    try simp only [World.size_alloc, World.size_setCell] at hz11
    try have : w.heap.size < w11.heap.size := by omega
    try have : w.heap.size ≤ w11.heap.size := by omega
    try have : w.heap.size + 1 < w11.heap.size := by omega
    try have : w.heap.size + 1 ≤ w11.heap.size := by omega
    have c11_0_0 : w11.cell? ⟨w.heap.size, 0, none⟩ = some (.int .i64 (al)) := by go_simp
    have c11_0_1 : w11.cell? ⟨w.heap.size, 1, none⟩ = some (.int .i64 (ah)) := by go_simp
    have c11_1_0 : w11.cell? ⟨w.heap.size + 1, 0, none⟩ = some (.int .i64 (bl)) := by go_simp
    have c11_1_1 : w11.cell? ⟨w.heap.size + 1, 1, none⟩ = some (.int .i64 (bh)) := by go_simp
    clear hc11 hf11
    go_wp2_with fail
    refine (M.out _).mono ?_
    rintro e w12 ⟨rfl, hb12⟩
    obtain ⟨hc12, hf12⟩ := bcell hb12
    have hz12 := hb12.size
    try simp only [World.size_alloc, World.size_setCell] at hz12
    try have : w.heap.size < w12.heap.size := by omega
    try have : w.heap.size ≤ w12.heap.size := by omega
    try have : w.heap.size + 1 < w12.heap.size := by omega
    try have : w.heap.size + 1 ≤ w12.heap.size := by omega
    have c12_0_0 : w12.cell? ⟨w.heap.size, 0, none⟩ = some (.int .i64 (al)) := by go_simp
    have c12_0_1 : w12.cell? ⟨w.heap.size, 1, none⟩ = some (.int .i64 (ah)) := by go_simp
    have c12_1_0 : w12.cell? ⟨w.heap.size + 1, 0, none⟩ = some (.int .i64 (bl)) := by go_simp
    have c12_1_1 : w12.cell? ⟨w.heap.size + 1, 1, none⟩ = some (.int .i64 (bh)) := by go_simp
    clear hc12 hf12 c11_0_0 c11_0_1 c11_1_0 c11_1_1
    go_wp2
    go_ret
    exact ⟨rfl, (by repeat (first | with_reducible exact Below.refl _ _ | with_reducible refine bdrew ?_ | ((with_reducible first | refine bset ?_ ?_ | refine ball ?_ ?_ | refine bth (by assumption) ?_ ?_); first | omega | (simp <;> omega))))⟩
  · go_enter Tryd.func3, Tryd.ntmps3
    go_wp2_with fail
    refine (AL.out _).mono ?_
    rintro e w11 ⟨rfl, hb11⟩
    obtain ⟨hc11, hf11⟩ := bcell hb11
    have hz11 := hb11.size
    try simp only [World.size_alloc, World.size_setCell] at hz11
    try have : w.heap.size < w11.heap.size := by omega
    try have : w.heap.size ≤ w11.heap.size := by omega
    try have : w.heap.size + 1 < w11.heap.size := by omega
    try have : w.heap.size + 1 ≤ w11.heap.size := by omega
    have c11_0_0 : w11.cell? ⟨w.heap.size, 0, none⟩ = some (.int .i64 (al)) := by go_simp
    have c11_0_1 : w11.cell? ⟨w.heap.size, 1, none⟩ = some (.int .i64 (ah)) := by go_simp
    have c11_1_0 : w11.cell? ⟨w.heap.size + 1, 0, none⟩ = some (.int .i64 (bl)) := by go_simp
    have c11_1_1 : w11.cell? ⟨w.heap.size + 1, 1, none⟩ = some (.int .i64 (bh)) := by go_simp
    clear hc11 hf11
    go_wp2_with fail
    refine (M.out _).mono ?_
    rintro e w12 ⟨rfl, hb12⟩
    obtain ⟨hc12, hf12⟩ := bcell hb12
    have hz12 := hb12.size
    try simp only [World.size_alloc, World.size_setCell] at hz12
    try have : w.heap.size < w12.heap.size := by omega
    try have : w.heap.size ≤ w12.heap.size := by omega
    try have : w.heap.size + 1 < w12.heap.size := by omega
    try have : w.heap.size + 1 ≤ w12.heap.size := by omega
    have c12_0_0 : w12.cell? ⟨w.heap.size, 0, none⟩ = some (.int .i64 (al)) := by go_simp
    have c12_0_1 : w12.cell? ⟨w.heap.size, 1, none⟩ = some (.int .i64 (ah)) := by go_simp
    have c12_1_0 : w12.cell? ⟨w.heap.size + 1, 0, none⟩ = some (.int .i64 (bl)) := by go_simp
    have c12_1_1 : w12.cell? ⟨w.heap.size + 1, 1, none⟩ = some (.int .i64 (bh)) := by go_simp
    clear hc12 hf12 c11_0_0 c11_0_1 c11_1_0 c11_1_1
    go_wp2
    go_ret
    exact ⟨rfl, (by repeat (first | with_reducible exact Below.refl _ _ | with_reducible refine bdrew ?_ | ((with_reducible first | refine bset ?_ ?_ | refine ball ?_ ?_ | refine bth (by assumption) ?_ ?_); first | omega | (simp <;> omega))))⟩
set_option maxHeartbeats 8000000 in
set_option maxRecDepth 100000 in
theorem walk_good (al ah bl bh pl ph : Int) (i0 : I64 al) (j0 : I64 ah) (i1 : I64 bl) (j1 : I64 bh) (i2 : I64 pl) (j2 : I64 ph) (MU : ∀ W, Calls Tryd.prog 10 #[.agg #[.int .i64 (al), .int .i64 (ah)], .agg #[.int .i64 (bl), .int .i64 (bh)]] W fun e w' => e = .returned (.tuple #[.agg #[.int .i64 (pl), .int .i64 (ph)], .int .i64 0]) ∧ Below W.heap.size W w')
    (f g : Nat → Bool) (hf : f = fun k => decide (corner al ah bl bh k < pl * 4294967296 + 4294967296)) (hg : g = fun k => decide (ph * 4294967296 + -4294967296 < corner al ah bl bh k)) (w : World) (hF : anyB f 4 = true) (hG : anyB g 4 = true) (va : vB al ah = true) :
    Calls Tryd.prog 3 #[.agg #[.int .i64 (al), .int .i64 (ah)], .agg #[.int .i64 (bl), .int .i64 (bh)]] w fun e w' => e = .returned (.bool true) ∧ Below w.heap.size w w' := by
  have AL := hide alive_any
  have SRO : ah < 0 → ∀ W, Calls Tryd.prog 15 #[.agg #[.int .i64 (al), .int .i64 (ah)]] W fun e w' => e = .returned (.tuple #[.agg #[.int .i64 (0), .int .i64 (0)], .int .i64 4]) ∧ Below W.heap.size W w' := fun c W => by
    have q := sroot_any al ah i0 j0 W
    rw [va, (ro_t (al := al) c).1, (ro_t (al := al) c).2.1, (ro_t (al := al) c).2.2] at q
    exact q
  have SRP : ¬ ah < 0 → ∀ W, Calls Tryd.prog 15 #[.agg #[.int .i64 (al), .int .i64 (ah)]] W fun e w' => e = .returned (.tuple #[.agg #[.int .i64 (rtL (mx al 0)), .int .i64 (rtH ah)], .int .i64 0]) ∧ Below W.heap.size W w' := fun c W => by
    have q := sroot_any al ah i0 j0 W
    rw [va, (ro_f (al := al) c).1, (ro_f (al := al) c).2.1, (ro_f (al := al) c).2.2] at q
    exact q
  have M := hide MU
  have hbx : ∀ (i j : Nat), I64 (pk al ah i) ∧ I64 (pk bl bh j) := fun i j => ⟨pk_i64 i0 j0 i, pk_i64 i1 j1 j⟩
  have NX := hide (fun W => rtimes pl 4294967296 i2 ⟨by omega, by omega⟩ W)
  have LX := hide (fun W => rtimes ph 4294967296 j2 ⟨by omega, by omega⟩ W)
  have O1 := hide (fun W => rof 4294967296 ⟨by omega, by omega⟩ W)
  have O2 := hide (fun W => rof (-4294967296) ⟨by omega, by omega⟩ W)
  have P1 := (fun W => rplus (pl * 4294967296) 4294967296 (by obtain ⟨_, _⟩ := i2; constructor <;> omega) (by constructor <;> omega) (by obtain ⟨_, _⟩ := i2; constructor <;> omega) W)
  have P2 := (fun W => rplus (ph * 4294967296) (-4294967296) (by obtain ⟨_, _⟩ := j2; constructor <;> omega) (by constructor <;> omega) (by obtain ⟨_, _⟩ := j2; constructor <;> omega) W)
  generalize pl * 4294967296 + 4294967296 = nx at *
  generalize ph * 4294967296 + -4294967296 = lx at *
  have P1' := hide P1
  have P2' := hide P2
  have HF := hide hF
  have HG := hide hG
  have HB := hide hbx
  have Hf := hide hf
  have Hg := hide hg
  clear MU hF hG hbx hf hg P1 P2
  go_enter Tryd.func3, Tryd.ntmps3
  go_wp2_with fail
  refine (AL.out _).mono ?_
  rintro e w11 ⟨rfl, hb11⟩
  obtain ⟨hc11, hf11⟩ := bcell hb11
  have hz11 := hb11.size
  try simp only [World.size_alloc, World.size_setCell] at hz11
  try have : w.heap.size < w11.heap.size := by omega
  try have : w.heap.size ≤ w11.heap.size := by omega
  try have : w.heap.size + 1 < w11.heap.size := by omega
  try have : w.heap.size + 1 ≤ w11.heap.size := by omega
  have c11_0_0 : w11.cell? ⟨w.heap.size, 0, none⟩ = some (.int .i64 (al)) := by go_simp
  have c11_0_1 : w11.cell? ⟨w.heap.size, 1, none⟩ = some (.int .i64 (ah)) := by go_simp
  have c11_1_0 : w11.cell? ⟨w.heap.size + 1, 0, none⟩ = some (.int .i64 (bl)) := by go_simp
  have c11_1_1 : w11.cell? ⟨w.heap.size + 1, 1, none⟩ = some (.int .i64 (bh)) := by go_simp
  clear hc11 hf11
  go_wp2_with fail
  refine (M.out _).mono ?_
  rintro e w12 ⟨rfl, hb12⟩
  obtain ⟨hc12, hf12⟩ := bcell hb12
  have hz12 := hb12.size
  try simp only [World.size_alloc, World.size_setCell] at hz12
  try have : w.heap.size < w12.heap.size := by omega
  try have : w.heap.size ≤ w12.heap.size := by omega
  try have : w.heap.size + 1 < w12.heap.size := by omega
  try have : w.heap.size + 1 ≤ w12.heap.size := by omega
  have c12_0_0 : w12.cell? ⟨w.heap.size, 0, none⟩ = some (.int .i64 (al)) := by go_simp
  have c12_0_1 : w12.cell? ⟨w.heap.size, 1, none⟩ = some (.int .i64 (ah)) := by go_simp
  have c12_1_0 : w12.cell? ⟨w.heap.size + 1, 0, none⟩ = some (.int .i64 (bl)) := by go_simp
  have c12_1_1 : w12.cell? ⟨w.heap.size + 1, 1, none⟩ = some (.int .i64 (bh)) := by go_simp
  clear hc12 hf12 c11_0_0 c11_0_1 c11_1_0 c11_1_1
  go_wp2
  go_loopw [9, 10, 44] (fun s9 s10 s44 wr => ∃ i : Nat, i ≤ 2 ∧ s44 = .int .i64 i ∧ s9 = .bool (anyB f (2 * i)) ∧ s10 = .bool (anyB g (2 * i)) ∧ TI w wr w.heap.size (w.heap.size + 1) w12.heap.size (w12.heap.size + 1) al ah bl bh pl ph) (fun _ _ s44 _ => 2 - (intOf s44).toNat)
  case atStart =>
    refine ⟨0, by omega, rfl, rfl, rfl, ⟨by simp; omega, by simp; omega, by first | omega | (simp <;> omega), by first | omega | (simp <;> omega), by go_simp, by go_simp, by go_simp, by go_simp, by go_simp, by go_simp, ?_, (by repeat (first | with_reducible exact Below.refl _ _ | with_reducible refine bdrew ?_ | ((with_reducible first | refine bset ?_ ?_ | refine ball ?_ ?_ | refine bth (by assumption) ?_ ?_); first | omega | (simp <;> omega))))⟩⟩
    intro i hi
    match i, hi with
    | 0, _ => go_simp; rfl
    | 1, _ => go_simp; rfl
  case round =>
    obtain ⟨i, hi, rfl, rfl, rfl, ⟨s1, s2, s3, s4, a0, a1, c0, c1, p0, p1, e, hbel⟩⟩ := hrel
    have hE := hide e
    have hbz := hbel.size
    have hWB := hide hbel
    by_cases hlt : i < 2
    · have t0 := e i hlt
      have g1 : decide ((i : Int) < 2) = true := decide_eq_true (by omega)
      have CK := hide (fun j (hj : j < 2) => corner_pk al ah bl bh hlt hj)
      have IX := (HB.out i 0).1
      generalize pk al ah i = x at t0 CK IX
      have IX' := hide IX
      clear e IX hb11 hb12
      obtain ⟨W0, hW0⟩ : ∃ W, W = wr := ⟨wr, rfl⟩
      subst hW0
      go_wp2
      go_loopw [9, 10, 54] (fun s9 s10 s54 wr => ∃ j : Nat, j ≤ 2 ∧ s54 = .int .i64 j ∧ s9 = .bool (anyB f (2 * i + j)) ∧ s10 = .bool (anyB g (2 * i + j)) ∧ TJ w wr w.heap.size (w.heap.size + 1) w12.heap.size (w12.heap.size + 1) W0.heap.size al ah bl bh pl ph) (fun _ _ s54 _ => 2 - (intOf s54).toNat)
      case atStart =>
        refine ⟨0, by omega, rfl, rfl, rfl, ⟨by first | omega | (simp <;> omega), by first | omega | (simp <;> omega), by first | omega | (simp <;> omega), by first | omega | (simp <;> omega), by simp, by go_simp, by go_simp, by go_simp, by go_simp, by go_simp, by go_simp, ?_, ?_, (by repeat (first | with_reducible exact Below.refl _ _ | with_reducible refine bdrew ?_ | ((with_reducible first | refine bset ?_ ?_ | refine ball ?_ ?_ | refine bth (by assumption) ?_ ?_); first | omega | (simp <;> omega))))⟩⟩
        · intro k hk
          have := hE.out k hk
          go_simp
        · intro k hk
          match k, hk with
          | 0, _ => go_simp; rfl
          | 1, _ => go_simp; rfl
      case round =>
        obtain ⟨j, hj, rfl, rfl, rfl, ⟨q1, q2, q3, q4, q5, d0, d1, h0, h1, r0, r1, k1, k2, hbel2⟩⟩ := hrel
        have hz2 := hbel2.size
        by_cases hlt2 : j < 2
        · have t1 := k2 j hlt2
          have g2 : decide ((j : Int) < 2) = true := decide_eq_true (by omega)
          have ck := CK.out j hlt2
          have IY := (HB.out 0 j).2
          have v0 := k1 0 (by omega)
          have v1 := k1 1 (by omega)
          have y0 := k2 0 (by omega)
          have y1 := k2 1 (by omega)
          simp only [pk] at v0 v1 y0 y1
          generalize pk bl bh j = y at t1 ck IY
          have RT := hide (fun W => rtimes x y IX'.out IY W)
          have fk : f (2 * i + j) = decide (x * y < nx) := by have := congrFun Hf.out (2 * i + j); simp only [ck] at this; exact this
          have gk : g (2 * i + j) = decide (lx < x * y) := by have := congrFun Hg.out (2 * i + j); simp only [ck] at this; exact this
          generalize x * y = z at *
          obtain ⟨b1, hb1⟩ : ∃ r, decide (z < nx) = r := ⟨_, rfl⟩
          obtain ⟨b2, hb2⟩ : ∃ r, decide (lx < z) = r := ⟨_, rfl⟩
          have LS1 := hide (fun W => rless_r z nx b1 hb1 W)
          have LS2 := hide (fun W => rless_r lx z b2 hb2 W)
          have FN : Hid (anyB f (2 * i + (j + 1)) = (anyB f (2 * i + j) || b1)) := hide (by rw [← hb1, ← fk]; rfl)
          have GN : Hid (anyB g (2 * i + (j + 1)) = (anyB g (2 * i + j) || b2)) := hide (by rw [← hb2, ← gk]; rfl)
          clear fk gk hb1 hb2 ck IY k1 k2 a0 a1 c0 c1 p0 p1 s1 s2 s3 s4 hbel t0
          cases hF1 : anyB f (2 * i + j) <;> cases hG1 : anyB g (2 * i + j) <;> rw [hF1] at FN <;> rw [hG1] at GN <;> clear hF1 hG1
          · skip
            go_wp2_with fail
            refine (RT.out _).mono ?_
            rintro e w21 ⟨rfl, hb21⟩
            obtain ⟨hc21, hf21⟩ := bcell hb21
            have hz21 := hb21.size
            try simp only [World.size_alloc, World.size_setCell] at hz21
            try have : w.heap.size < w21.heap.size := by omega
            try have : w.heap.size < w21.heap.size + 1 := by omega
            try have : w.heap.size ≤ w21.heap.size := by omega
            try have : w.heap.size + 1 < w21.heap.size := by omega
            try have : w.heap.size + 1 < w21.heap.size + 1 := by omega
            try have : w.heap.size + 1 ≤ w21.heap.size := by omega
            try have : w12.heap.size < w21.heap.size := by omega
            try have : w12.heap.size < w21.heap.size + 1 := by omega
            try have : w12.heap.size ≤ w21.heap.size := by omega
            try have : w12.heap.size + 1 < w21.heap.size := by omega
            try have : w12.heap.size + 1 < w21.heap.size + 1 := by omega
            try have : w12.heap.size + 1 ≤ w21.heap.size := by omega
            try have : W0.heap.size < w21.heap.size := by omega
            try have : W0.heap.size < w21.heap.size + 1 := by omega
            try have : W0.heap.size ≤ w21.heap.size := by omega
            have c21_0_0 : w21.cell? ⟨w.heap.size, 0, none⟩ = some (.int .i64 (al)) := by go_simp
            have c21_0_1 : w21.cell? ⟨w.heap.size, 1, none⟩ = some (.int .i64 (ah)) := by go_simp
            have c21_1_0 : w21.cell? ⟨w.heap.size + 1, 0, none⟩ = some (.int .i64 (bl)) := by go_simp
            have c21_1_1 : w21.cell? ⟨w.heap.size + 1, 1, none⟩ = some (.int .i64 (bh)) := by go_simp
            have c21_2_0 : w21.cell? ⟨w12.heap.size, 0, none⟩ = some (.int .i64 (pl)) := by go_simp
            have c21_2_1 : w21.cell? ⟨w12.heap.size, 1, none⟩ = some (.int .i64 (ph)) := by go_simp
            have c21_3_0 : w21.cell? ⟨w12.heap.size + 1, 0, none⟩ = some (.int .i64 (al)) := by go_simp
            have c21_3_1 : w21.cell? ⟨w12.heap.size + 1, 1, none⟩ = some (.int .i64 (ah)) := by go_simp
            have c21_4_0 : w21.cell? ⟨W0.heap.size, 0, none⟩ = some (.int .i64 (bl)) := by go_simp
            have c21_4_1 : w21.cell? ⟨W0.heap.size, 1, none⟩ = some (.int .i64 (bh)) := by go_simp
            clear hc21 hf21
            go_wp2_with fail
            refine (NX.out _).mono ?_
            rintro e w22 ⟨rfl, hb22⟩
            obtain ⟨hc22, hf22⟩ := bcell hb22
            have hz22 := hb22.size
            try simp only [World.size_alloc, World.size_setCell] at hz22
            try have : w.heap.size < w22.heap.size := by omega
            try have : w.heap.size ≤ w22.heap.size := by omega
            try have : w.heap.size + 1 < w22.heap.size := by omega
            try have : w.heap.size + 1 ≤ w22.heap.size := by omega
            try have : w12.heap.size < w22.heap.size := by omega
            try have : w12.heap.size ≤ w22.heap.size := by omega
            try have : w12.heap.size + 1 < w22.heap.size := by omega
            try have : w12.heap.size + 1 ≤ w22.heap.size := by omega
            try have : W0.heap.size < w22.heap.size := by omega
            try have : W0.heap.size ≤ w22.heap.size := by omega
            try have : w21.heap.size < w22.heap.size := by omega
            try have : w21.heap.size ≤ w22.heap.size := by omega
            have c22_0_0 : w22.cell? ⟨w.heap.size, 0, none⟩ = some (.int .i64 (al)) := by go_simp
            have c22_0_1 : w22.cell? ⟨w.heap.size, 1, none⟩ = some (.int .i64 (ah)) := by go_simp
            have c22_1_0 : w22.cell? ⟨w.heap.size + 1, 0, none⟩ = some (.int .i64 (bl)) := by go_simp
            have c22_1_1 : w22.cell? ⟨w.heap.size + 1, 1, none⟩ = some (.int .i64 (bh)) := by go_simp
            have c22_2_0 : w22.cell? ⟨w12.heap.size, 0, none⟩ = some (.int .i64 (pl)) := by go_simp
            have c22_2_1 : w22.cell? ⟨w12.heap.size, 1, none⟩ = some (.int .i64 (ph)) := by go_simp
            have c22_3_0 : w22.cell? ⟨w12.heap.size + 1, 0, none⟩ = some (.int .i64 (al)) := by go_simp
            have c22_3_1 : w22.cell? ⟨w12.heap.size + 1, 1, none⟩ = some (.int .i64 (ah)) := by go_simp
            have c22_4_0 : w22.cell? ⟨W0.heap.size, 0, none⟩ = some (.int .i64 (bl)) := by go_simp
            have c22_4_1 : w22.cell? ⟨W0.heap.size, 1, none⟩ = some (.int .i64 (bh)) := by go_simp
            have c22_5_0 : w22.cell? ⟨w21.heap.size, 0, none⟩ = some (.int .i64 (wH (z))) := by go_simp
            have c22_5_1 : w22.cell? ⟨w21.heap.size, 1, none⟩ = some (.int .u64 (wL (z))) := by go_simp
            clear hc22 hf22 c21_0_0 c21_0_1 c21_1_0 c21_1_1 c21_2_0 c21_2_1 c21_3_0 c21_3_1 c21_4_0 c21_4_1
            go_wp2_with fail
            refine (O1.out _).mono ?_
            rintro e w23 ⟨rfl, hb23⟩
            obtain ⟨hc23, hf23⟩ := bcell hb23
            have hz23 := hb23.size
            try simp only [World.size_alloc, World.size_setCell] at hz23
            try have : w.heap.size < w23.heap.size := by omega
            try have : w.heap.size ≤ w23.heap.size := by omega
            try have : w.heap.size + 1 < w23.heap.size := by omega
            try have : w.heap.size + 1 ≤ w23.heap.size := by omega
            try have : w12.heap.size < w23.heap.size := by omega
            try have : w12.heap.size ≤ w23.heap.size := by omega
            try have : w12.heap.size + 1 < w23.heap.size := by omega
            try have : w12.heap.size + 1 ≤ w23.heap.size := by omega
            try have : W0.heap.size < w23.heap.size := by omega
            try have : W0.heap.size ≤ w23.heap.size := by omega
            try have : w21.heap.size < w23.heap.size := by omega
            try have : w21.heap.size ≤ w23.heap.size := by omega
            have c23_0_0 : w23.cell? ⟨w.heap.size, 0, none⟩ = some (.int .i64 (al)) := by go_simp
            have c23_0_1 : w23.cell? ⟨w.heap.size, 1, none⟩ = some (.int .i64 (ah)) := by go_simp
            have c23_1_0 : w23.cell? ⟨w.heap.size + 1, 0, none⟩ = some (.int .i64 (bl)) := by go_simp
            have c23_1_1 : w23.cell? ⟨w.heap.size + 1, 1, none⟩ = some (.int .i64 (bh)) := by go_simp
            have c23_2_0 : w23.cell? ⟨w12.heap.size, 0, none⟩ = some (.int .i64 (pl)) := by go_simp
            have c23_2_1 : w23.cell? ⟨w12.heap.size, 1, none⟩ = some (.int .i64 (ph)) := by go_simp
            have c23_3_0 : w23.cell? ⟨w12.heap.size + 1, 0, none⟩ = some (.int .i64 (al)) := by go_simp
            have c23_3_1 : w23.cell? ⟨w12.heap.size + 1, 1, none⟩ = some (.int .i64 (ah)) := by go_simp
            have c23_4_0 : w23.cell? ⟨W0.heap.size, 0, none⟩ = some (.int .i64 (bl)) := by go_simp
            have c23_4_1 : w23.cell? ⟨W0.heap.size, 1, none⟩ = some (.int .i64 (bh)) := by go_simp
            have c23_5_0 : w23.cell? ⟨w21.heap.size, 0, none⟩ = some (.int .i64 (wH (z))) := by go_simp
            have c23_5_1 : w23.cell? ⟨w21.heap.size, 1, none⟩ = some (.int .u64 (wL (z))) := by go_simp
            clear hc23 hf23 c22_0_0 c22_0_1 c22_1_0 c22_1_1 c22_2_0 c22_2_1 c22_3_0 c22_3_1 c22_4_0 c22_4_1 c22_5_0 c22_5_1
            go_wp2_with fail
            refine (P1'.out _).mono ?_
            rintro e w24 ⟨rfl, hb24⟩
            obtain ⟨hc24, hf24⟩ := bcell hb24
            have hz24 := hb24.size
            try simp only [World.size_alloc, World.size_setCell] at hz24
            try have : w.heap.size < w24.heap.size := by omega
            try have : w.heap.size < w24.heap.size + 1 := by omega
            try have : w.heap.size ≤ w24.heap.size := by omega
            try have : w.heap.size + 1 < w24.heap.size := by omega
            try have : w.heap.size + 1 < w24.heap.size + 1 := by omega
            try have : w.heap.size + 1 ≤ w24.heap.size := by omega
            try have : w12.heap.size < w24.heap.size := by omega
            try have : w12.heap.size < w24.heap.size + 1 := by omega
            try have : w12.heap.size ≤ w24.heap.size := by omega
            try have : w12.heap.size + 1 < w24.heap.size := by omega
            try have : w12.heap.size + 1 < w24.heap.size + 1 := by omega
            try have : w12.heap.size + 1 ≤ w24.heap.size := by omega
            try have : W0.heap.size < w24.heap.size := by omega
            try have : W0.heap.size < w24.heap.size + 1 := by omega
            try have : W0.heap.size ≤ w24.heap.size := by omega
            try have : w21.heap.size < w24.heap.size := by omega
            try have : w21.heap.size < w24.heap.size + 1 := by omega
            try have : w21.heap.size ≤ w24.heap.size := by omega
            have c24_0_0 : w24.cell? ⟨w.heap.size, 0, none⟩ = some (.int .i64 (al)) := by go_simp
            have c24_0_1 : w24.cell? ⟨w.heap.size, 1, none⟩ = some (.int .i64 (ah)) := by go_simp
            have c24_1_0 : w24.cell? ⟨w.heap.size + 1, 0, none⟩ = some (.int .i64 (bl)) := by go_simp
            have c24_1_1 : w24.cell? ⟨w.heap.size + 1, 1, none⟩ = some (.int .i64 (bh)) := by go_simp
            have c24_2_0 : w24.cell? ⟨w12.heap.size, 0, none⟩ = some (.int .i64 (pl)) := by go_simp
            have c24_2_1 : w24.cell? ⟨w12.heap.size, 1, none⟩ = some (.int .i64 (ph)) := by go_simp
            have c24_3_0 : w24.cell? ⟨w12.heap.size + 1, 0, none⟩ = some (.int .i64 (al)) := by go_simp
            have c24_3_1 : w24.cell? ⟨w12.heap.size + 1, 1, none⟩ = some (.int .i64 (ah)) := by go_simp
            have c24_4_0 : w24.cell? ⟨W0.heap.size, 0, none⟩ = some (.int .i64 (bl)) := by go_simp
            have c24_4_1 : w24.cell? ⟨W0.heap.size, 1, none⟩ = some (.int .i64 (bh)) := by go_simp
            have c24_5_0 : w24.cell? ⟨w21.heap.size, 0, none⟩ = some (.int .i64 (wH (z))) := by go_simp
            have c24_5_1 : w24.cell? ⟨w21.heap.size, 1, none⟩ = some (.int .u64 (wL (z))) := by go_simp
            clear hc24 hf24 c23_0_0 c23_0_1 c23_1_0 c23_1_1 c23_2_0 c23_2_1 c23_3_0 c23_3_1 c23_4_0 c23_4_1 c23_5_0 c23_5_1
            go_wp2_with fail
            refine (LX.out _).mono ?_
            rintro e w25 ⟨rfl, hb25⟩
            obtain ⟨hc25, hf25⟩ := bcell hb25
            have hz25 := hb25.size
            try simp only [World.size_alloc, World.size_setCell] at hz25
            try have : w.heap.size < w25.heap.size := by omega
            try have : w.heap.size ≤ w25.heap.size := by omega
            try have : w.heap.size + 1 < w25.heap.size := by omega
            try have : w.heap.size + 1 ≤ w25.heap.size := by omega
            try have : w12.heap.size < w25.heap.size := by omega
            try have : w12.heap.size ≤ w25.heap.size := by omega
            try have : w12.heap.size + 1 < w25.heap.size := by omega
            try have : w12.heap.size + 1 ≤ w25.heap.size := by omega
            try have : W0.heap.size < w25.heap.size := by omega
            try have : W0.heap.size ≤ w25.heap.size := by omega
            try have : w21.heap.size < w25.heap.size := by omega
            try have : w21.heap.size ≤ w25.heap.size := by omega
            try have : w24.heap.size < w25.heap.size := by omega
            try have : w24.heap.size ≤ w25.heap.size := by omega
            have c25_0_0 : w25.cell? ⟨w.heap.size, 0, none⟩ = some (.int .i64 (al)) := by go_simp
            have c25_0_1 : w25.cell? ⟨w.heap.size, 1, none⟩ = some (.int .i64 (ah)) := by go_simp
            have c25_1_0 : w25.cell? ⟨w.heap.size + 1, 0, none⟩ = some (.int .i64 (bl)) := by go_simp
            have c25_1_1 : w25.cell? ⟨w.heap.size + 1, 1, none⟩ = some (.int .i64 (bh)) := by go_simp
            have c25_2_0 : w25.cell? ⟨w12.heap.size, 0, none⟩ = some (.int .i64 (pl)) := by go_simp
            have c25_2_1 : w25.cell? ⟨w12.heap.size, 1, none⟩ = some (.int .i64 (ph)) := by go_simp
            have c25_3_0 : w25.cell? ⟨w12.heap.size + 1, 0, none⟩ = some (.int .i64 (al)) := by go_simp
            have c25_3_1 : w25.cell? ⟨w12.heap.size + 1, 1, none⟩ = some (.int .i64 (ah)) := by go_simp
            have c25_4_0 : w25.cell? ⟨W0.heap.size, 0, none⟩ = some (.int .i64 (bl)) := by go_simp
            have c25_4_1 : w25.cell? ⟨W0.heap.size, 1, none⟩ = some (.int .i64 (bh)) := by go_simp
            have c25_5_0 : w25.cell? ⟨w21.heap.size, 0, none⟩ = some (.int .i64 (wH (z))) := by go_simp
            have c25_5_1 : w25.cell? ⟨w21.heap.size, 1, none⟩ = some (.int .u64 (wL (z))) := by go_simp
            have c25_6_0 : w25.cell? ⟨w24.heap.size, 0, none⟩ = some (.int .i64 (wH (nx))) := by go_simp
            have c25_6_1 : w25.cell? ⟨w24.heap.size, 1, none⟩ = some (.int .u64 (wL (nx))) := by go_simp
            clear hc25 hf25 c24_0_0 c24_0_1 c24_1_0 c24_1_1 c24_2_0 c24_2_1 c24_3_0 c24_3_1 c24_4_0 c24_4_1 c24_5_0 c24_5_1
            go_wp2_with fail
            refine (O2.out _).mono ?_
            rintro e w26 ⟨rfl, hb26⟩
            obtain ⟨hc26, hf26⟩ := bcell hb26
            have hz26 := hb26.size
            try simp only [World.size_alloc, World.size_setCell] at hz26
            try have : w.heap.size < w26.heap.size := by omega
            try have : w.heap.size ≤ w26.heap.size := by omega
            try have : w.heap.size + 1 < w26.heap.size := by omega
            try have : w.heap.size + 1 ≤ w26.heap.size := by omega
            try have : w12.heap.size < w26.heap.size := by omega
            try have : w12.heap.size ≤ w26.heap.size := by omega
            try have : w12.heap.size + 1 < w26.heap.size := by omega
            try have : w12.heap.size + 1 ≤ w26.heap.size := by omega
            try have : W0.heap.size < w26.heap.size := by omega
            try have : W0.heap.size ≤ w26.heap.size := by omega
            try have : w21.heap.size < w26.heap.size := by omega
            try have : w21.heap.size ≤ w26.heap.size := by omega
            try have : w24.heap.size < w26.heap.size := by omega
            try have : w24.heap.size ≤ w26.heap.size := by omega
            have c26_0_0 : w26.cell? ⟨w.heap.size, 0, none⟩ = some (.int .i64 (al)) := by go_simp
            have c26_0_1 : w26.cell? ⟨w.heap.size, 1, none⟩ = some (.int .i64 (ah)) := by go_simp
            have c26_1_0 : w26.cell? ⟨w.heap.size + 1, 0, none⟩ = some (.int .i64 (bl)) := by go_simp
            have c26_1_1 : w26.cell? ⟨w.heap.size + 1, 1, none⟩ = some (.int .i64 (bh)) := by go_simp
            have c26_2_0 : w26.cell? ⟨w12.heap.size, 0, none⟩ = some (.int .i64 (pl)) := by go_simp
            have c26_2_1 : w26.cell? ⟨w12.heap.size, 1, none⟩ = some (.int .i64 (ph)) := by go_simp
            have c26_3_0 : w26.cell? ⟨w12.heap.size + 1, 0, none⟩ = some (.int .i64 (al)) := by go_simp
            have c26_3_1 : w26.cell? ⟨w12.heap.size + 1, 1, none⟩ = some (.int .i64 (ah)) := by go_simp
            have c26_4_0 : w26.cell? ⟨W0.heap.size, 0, none⟩ = some (.int .i64 (bl)) := by go_simp
            have c26_4_1 : w26.cell? ⟨W0.heap.size, 1, none⟩ = some (.int .i64 (bh)) := by go_simp
            have c26_5_0 : w26.cell? ⟨w21.heap.size, 0, none⟩ = some (.int .i64 (wH (z))) := by go_simp
            have c26_5_1 : w26.cell? ⟨w21.heap.size, 1, none⟩ = some (.int .u64 (wL (z))) := by go_simp
            have c26_6_0 : w26.cell? ⟨w24.heap.size, 0, none⟩ = some (.int .i64 (wH (nx))) := by go_simp
            have c26_6_1 : w26.cell? ⟨w24.heap.size, 1, none⟩ = some (.int .u64 (wL (nx))) := by go_simp
            clear hc26 hf26 c25_0_0 c25_0_1 c25_1_0 c25_1_1 c25_2_0 c25_2_1 c25_3_0 c25_3_1 c25_4_0 c25_4_1 c25_5_0 c25_5_1 c25_6_0 c25_6_1
            go_wp2_with fail
            refine (P2'.out _).mono ?_
            rintro e w27 ⟨rfl, hb27⟩
            obtain ⟨hc27, hf27⟩ := bcell hb27
            have hz27 := hb27.size
            try simp only [World.size_alloc, World.size_setCell] at hz27
            try have : w.heap.size < w27.heap.size := by omega
            try have : w.heap.size < w27.heap.size + 1 := by omega
            try have : w.heap.size ≤ w27.heap.size := by omega
            try have : w.heap.size + 1 < w27.heap.size := by omega
            try have : w.heap.size + 1 < w27.heap.size + 1 := by omega
            try have : w.heap.size + 1 ≤ w27.heap.size := by omega
            try have : w12.heap.size < w27.heap.size := by omega
            try have : w12.heap.size < w27.heap.size + 1 := by omega
            try have : w12.heap.size ≤ w27.heap.size := by omega
            try have : w12.heap.size + 1 < w27.heap.size := by omega
            try have : w12.heap.size + 1 < w27.heap.size + 1 := by omega
            try have : w12.heap.size + 1 ≤ w27.heap.size := by omega
            try have : W0.heap.size < w27.heap.size := by omega
            try have : W0.heap.size < w27.heap.size + 1 := by omega
            try have : W0.heap.size ≤ w27.heap.size := by omega
            try have : w21.heap.size < w27.heap.size := by omega
            try have : w21.heap.size < w27.heap.size + 1 := by omega
            try have : w21.heap.size ≤ w27.heap.size := by omega
            try have : w24.heap.size < w27.heap.size := by omega
            try have : w24.heap.size < w27.heap.size + 1 := by omega
            try have : w24.heap.size ≤ w27.heap.size := by omega
            have c27_0_0 : w27.cell? ⟨w.heap.size, 0, none⟩ = some (.int .i64 (al)) := by go_simp
            have c27_0_1 : w27.cell? ⟨w.heap.size, 1, none⟩ = some (.int .i64 (ah)) := by go_simp
            have c27_1_0 : w27.cell? ⟨w.heap.size + 1, 0, none⟩ = some (.int .i64 (bl)) := by go_simp
            have c27_1_1 : w27.cell? ⟨w.heap.size + 1, 1, none⟩ = some (.int .i64 (bh)) := by go_simp
            have c27_2_0 : w27.cell? ⟨w12.heap.size, 0, none⟩ = some (.int .i64 (pl)) := by go_simp
            have c27_2_1 : w27.cell? ⟨w12.heap.size, 1, none⟩ = some (.int .i64 (ph)) := by go_simp
            have c27_3_0 : w27.cell? ⟨w12.heap.size + 1, 0, none⟩ = some (.int .i64 (al)) := by go_simp
            have c27_3_1 : w27.cell? ⟨w12.heap.size + 1, 1, none⟩ = some (.int .i64 (ah)) := by go_simp
            have c27_4_0 : w27.cell? ⟨W0.heap.size, 0, none⟩ = some (.int .i64 (bl)) := by go_simp
            have c27_4_1 : w27.cell? ⟨W0.heap.size, 1, none⟩ = some (.int .i64 (bh)) := by go_simp
            have c27_5_0 : w27.cell? ⟨w21.heap.size, 0, none⟩ = some (.int .i64 (wH (z))) := by go_simp
            have c27_5_1 : w27.cell? ⟨w21.heap.size, 1, none⟩ = some (.int .u64 (wL (z))) := by go_simp
            have c27_6_0 : w27.cell? ⟨w24.heap.size, 0, none⟩ = some (.int .i64 (wH (nx))) := by go_simp
            have c27_6_1 : w27.cell? ⟨w24.heap.size, 1, none⟩ = some (.int .u64 (wL (nx))) := by go_simp
            clear hc27 hf27 c26_0_0 c26_0_1 c26_1_0 c26_1_1 c26_2_0 c26_2_1 c26_3_0 c26_3_1 c26_4_0 c26_4_1 c26_5_0 c26_5_1 c26_6_0 c26_6_1
            go_wp2_with fail
            refine (LS1.out _).mono ?_
            rintro e w28 ⟨rfl, hb28⟩
            obtain ⟨hc28, hf28⟩ := bcell hb28
            have hz28 := hb28.size
            try simp only [World.size_alloc, World.size_setCell] at hz28
            try have : w.heap.size < w28.heap.size := by omega
            try have : w.heap.size ≤ w28.heap.size := by omega
            try have : w.heap.size + 1 < w28.heap.size := by omega
            try have : w.heap.size + 1 ≤ w28.heap.size := by omega
            try have : w12.heap.size < w28.heap.size := by omega
            try have : w12.heap.size ≤ w28.heap.size := by omega
            try have : w12.heap.size + 1 < w28.heap.size := by omega
            try have : w12.heap.size + 1 ≤ w28.heap.size := by omega
            try have : W0.heap.size < w28.heap.size := by omega
            try have : W0.heap.size ≤ w28.heap.size := by omega
            try have : w21.heap.size < w28.heap.size := by omega
            try have : w21.heap.size ≤ w28.heap.size := by omega
            try have : w24.heap.size < w28.heap.size := by omega
            try have : w24.heap.size ≤ w28.heap.size := by omega
            try have : w27.heap.size < w28.heap.size := by omega
            try have : w27.heap.size ≤ w28.heap.size := by omega
            have c28_0_0 : w28.cell? ⟨w.heap.size, 0, none⟩ = some (.int .i64 (al)) := by go_simp
            have c28_0_1 : w28.cell? ⟨w.heap.size, 1, none⟩ = some (.int .i64 (ah)) := by go_simp
            have c28_1_0 : w28.cell? ⟨w.heap.size + 1, 0, none⟩ = some (.int .i64 (bl)) := by go_simp
            have c28_1_1 : w28.cell? ⟨w.heap.size + 1, 1, none⟩ = some (.int .i64 (bh)) := by go_simp
            have c28_2_0 : w28.cell? ⟨w12.heap.size, 0, none⟩ = some (.int .i64 (pl)) := by go_simp
            have c28_2_1 : w28.cell? ⟨w12.heap.size, 1, none⟩ = some (.int .i64 (ph)) := by go_simp
            have c28_3_0 : w28.cell? ⟨w12.heap.size + 1, 0, none⟩ = some (.int .i64 (al)) := by go_simp
            have c28_3_1 : w28.cell? ⟨w12.heap.size + 1, 1, none⟩ = some (.int .i64 (ah)) := by go_simp
            have c28_4_0 : w28.cell? ⟨W0.heap.size, 0, none⟩ = some (.int .i64 (bl)) := by go_simp
            have c28_4_1 : w28.cell? ⟨W0.heap.size, 1, none⟩ = some (.int .i64 (bh)) := by go_simp
            have c28_5_0 : w28.cell? ⟨w21.heap.size, 0, none⟩ = some (.int .i64 (wH (z))) := by go_simp
            have c28_5_1 : w28.cell? ⟨w21.heap.size, 1, none⟩ = some (.int .u64 (wL (z))) := by go_simp
            have c28_6_0 : w28.cell? ⟨w24.heap.size, 0, none⟩ = some (.int .i64 (wH (nx))) := by go_simp
            have c28_6_1 : w28.cell? ⟨w24.heap.size, 1, none⟩ = some (.int .u64 (wL (nx))) := by go_simp
            have c28_7_0 : w28.cell? ⟨w27.heap.size, 0, none⟩ = some (.int .i64 (wH (lx))) := by go_simp
            have c28_7_1 : w28.cell? ⟨w27.heap.size, 1, none⟩ = some (.int .u64 (wL (lx))) := by go_simp
            clear hc28 hf28 c27_0_0 c27_0_1 c27_1_0 c27_1_1 c27_2_0 c27_2_1 c27_3_0 c27_3_1 c27_4_0 c27_4_1 c27_5_0 c27_5_1 c27_6_0 c27_6_1
            go_wp2_with fail
            refine (LS2.out _).mono ?_
            rintro e w29 ⟨rfl, hb29⟩
            obtain ⟨hc29, hf29⟩ := bcell hb29
            have hz29 := hb29.size
            try simp only [World.size_alloc, World.size_setCell] at hz29
            try have : w.heap.size < w29.heap.size := by omega
            try have : w.heap.size ≤ w29.heap.size := by omega
            try have : w.heap.size + 1 < w29.heap.size := by omega
            try have : w.heap.size + 1 ≤ w29.heap.size := by omega
            try have : w12.heap.size < w29.heap.size := by omega
            try have : w12.heap.size ≤ w29.heap.size := by omega
            try have : w12.heap.size + 1 < w29.heap.size := by omega
            try have : w12.heap.size + 1 ≤ w29.heap.size := by omega
            try have : W0.heap.size < w29.heap.size := by omega
            try have : W0.heap.size ≤ w29.heap.size := by omega
            try have : w21.heap.size < w29.heap.size := by omega
            try have : w21.heap.size ≤ w29.heap.size := by omega
            try have : w24.heap.size < w29.heap.size := by omega
            try have : w24.heap.size ≤ w29.heap.size := by omega
            try have : w27.heap.size < w29.heap.size := by omega
            try have : w27.heap.size ≤ w29.heap.size := by omega
            have c29_0_0 : w29.cell? ⟨w.heap.size, 0, none⟩ = some (.int .i64 (al)) := by go_simp
            have c29_0_1 : w29.cell? ⟨w.heap.size, 1, none⟩ = some (.int .i64 (ah)) := by go_simp
            have c29_1_0 : w29.cell? ⟨w.heap.size + 1, 0, none⟩ = some (.int .i64 (bl)) := by go_simp
            have c29_1_1 : w29.cell? ⟨w.heap.size + 1, 1, none⟩ = some (.int .i64 (bh)) := by go_simp
            have c29_2_0 : w29.cell? ⟨w12.heap.size, 0, none⟩ = some (.int .i64 (pl)) := by go_simp
            have c29_2_1 : w29.cell? ⟨w12.heap.size, 1, none⟩ = some (.int .i64 (ph)) := by go_simp
            have c29_3_0 : w29.cell? ⟨w12.heap.size + 1, 0, none⟩ = some (.int .i64 (al)) := by go_simp
            have c29_3_1 : w29.cell? ⟨w12.heap.size + 1, 1, none⟩ = some (.int .i64 (ah)) := by go_simp
            have c29_4_0 : w29.cell? ⟨W0.heap.size, 0, none⟩ = some (.int .i64 (bl)) := by go_simp
            have c29_4_1 : w29.cell? ⟨W0.heap.size, 1, none⟩ = some (.int .i64 (bh)) := by go_simp
            have c29_5_0 : w29.cell? ⟨w21.heap.size, 0, none⟩ = some (.int .i64 (wH (z))) := by go_simp
            have c29_5_1 : w29.cell? ⟨w21.heap.size, 1, none⟩ = some (.int .u64 (wL (z))) := by go_simp
            have c29_6_0 : w29.cell? ⟨w24.heap.size, 0, none⟩ = some (.int .i64 (wH (nx))) := by go_simp
            have c29_6_1 : w29.cell? ⟨w24.heap.size, 1, none⟩ = some (.int .u64 (wL (nx))) := by go_simp
            have c29_7_0 : w29.cell? ⟨w27.heap.size, 0, none⟩ = some (.int .i64 (wH (lx))) := by go_simp
            have c29_7_1 : w29.cell? ⟨w27.heap.size, 1, none⟩ = some (.int .u64 (wL (lx))) := by go_simp
            clear hc29 hf29 c28_0_0 c28_0_1 c28_1_0 c28_1_1 c28_2_0 c28_2_1 c28_3_0 c28_3_1 c28_4_0 c28_4_1 c28_5_0 c28_5_1 c28_6_0 c28_6_1 c28_7_0 c28_7_1
            go_wp2
            go_roundw
            case rel =>
              refine ⟨j + 1, by omega, by go_num, by rw [FN.out]; rfl, by rw [GN.out]; rfl, ⟨by first | omega | (simp <;> omega), by first | omega | (simp <;> omega), by first | omega | (simp <;> omega), by first | omega | (simp <;> omega), by first | omega | (simp <;> omega), by go_simp, by go_simp, by go_simp, by go_simp, by go_simp, by go_simp, ?_, ?_, (by repeat (first | with_reducible exact Below.refl _ _ | with_reducible refine bdrew ?_ | ((with_reducible first | refine bset ?_ ?_ | refine ball ?_ ?_ | refine bth (by assumption) ?_ ?_); first | omega | (simp <;> omega))))⟩⟩
              · intro k hk
                match k, hk with
                | 0, _ => go_simp; rfl
                | 1, _ => go_simp; rfl
              · intro k hk
                match k, hk with
                | 0, _ => go_simp; rfl
                | 1, _ => go_simp; rfl
            case measure => simp [intOf]; omega
          · skip
            go_wp2_with fail
            refine (RT.out _).mono ?_
            rintro e w21 ⟨rfl, hb21⟩
            obtain ⟨hc21, hf21⟩ := bcell hb21
            have hz21 := hb21.size
            try simp only [World.size_alloc, World.size_setCell] at hz21
            try have : w.heap.size < w21.heap.size := by omega
            try have : w.heap.size < w21.heap.size + 1 := by omega
            try have : w.heap.size ≤ w21.heap.size := by omega
            try have : w.heap.size + 1 < w21.heap.size := by omega
            try have : w.heap.size + 1 < w21.heap.size + 1 := by omega
            try have : w.heap.size + 1 ≤ w21.heap.size := by omega
            try have : w12.heap.size < w21.heap.size := by omega
            try have : w12.heap.size < w21.heap.size + 1 := by omega
            try have : w12.heap.size ≤ w21.heap.size := by omega
            try have : w12.heap.size + 1 < w21.heap.size := by omega
            try have : w12.heap.size + 1 < w21.heap.size + 1 := by omega
            try have : w12.heap.size + 1 ≤ w21.heap.size := by omega
            try have : W0.heap.size < w21.heap.size := by omega
            try have : W0.heap.size < w21.heap.size + 1 := by omega
            try have : W0.heap.size ≤ w21.heap.size := by omega
            have c21_0_0 : w21.cell? ⟨w.heap.size, 0, none⟩ = some (.int .i64 (al)) := by go_simp
            have c21_0_1 : w21.cell? ⟨w.heap.size, 1, none⟩ = some (.int .i64 (ah)) := by go_simp
            have c21_1_0 : w21.cell? ⟨w.heap.size + 1, 0, none⟩ = some (.int .i64 (bl)) := by go_simp
            have c21_1_1 : w21.cell? ⟨w.heap.size + 1, 1, none⟩ = some (.int .i64 (bh)) := by go_simp
            have c21_2_0 : w21.cell? ⟨w12.heap.size, 0, none⟩ = some (.int .i64 (pl)) := by go_simp
            have c21_2_1 : w21.cell? ⟨w12.heap.size, 1, none⟩ = some (.int .i64 (ph)) := by go_simp
            have c21_3_0 : w21.cell? ⟨w12.heap.size + 1, 0, none⟩ = some (.int .i64 (al)) := by go_simp
            have c21_3_1 : w21.cell? ⟨w12.heap.size + 1, 1, none⟩ = some (.int .i64 (ah)) := by go_simp
            have c21_4_0 : w21.cell? ⟨W0.heap.size, 0, none⟩ = some (.int .i64 (bl)) := by go_simp
            have c21_4_1 : w21.cell? ⟨W0.heap.size, 1, none⟩ = some (.int .i64 (bh)) := by go_simp
            clear hc21 hf21
            go_wp2_with fail
            refine (NX.out _).mono ?_
            rintro e w22 ⟨rfl, hb22⟩
            obtain ⟨hc22, hf22⟩ := bcell hb22
            have hz22 := hb22.size
            try simp only [World.size_alloc, World.size_setCell] at hz22
            try have : w.heap.size < w22.heap.size := by omega
            try have : w.heap.size ≤ w22.heap.size := by omega
            try have : w.heap.size + 1 < w22.heap.size := by omega
            try have : w.heap.size + 1 ≤ w22.heap.size := by omega
            try have : w12.heap.size < w22.heap.size := by omega
            try have : w12.heap.size ≤ w22.heap.size := by omega
            try have : w12.heap.size + 1 < w22.heap.size := by omega
            try have : w12.heap.size + 1 ≤ w22.heap.size := by omega
            try have : W0.heap.size < w22.heap.size := by omega
            try have : W0.heap.size ≤ w22.heap.size := by omega
            try have : w21.heap.size < w22.heap.size := by omega
            try have : w21.heap.size ≤ w22.heap.size := by omega
            have c22_0_0 : w22.cell? ⟨w.heap.size, 0, none⟩ = some (.int .i64 (al)) := by go_simp
            have c22_0_1 : w22.cell? ⟨w.heap.size, 1, none⟩ = some (.int .i64 (ah)) := by go_simp
            have c22_1_0 : w22.cell? ⟨w.heap.size + 1, 0, none⟩ = some (.int .i64 (bl)) := by go_simp
            have c22_1_1 : w22.cell? ⟨w.heap.size + 1, 1, none⟩ = some (.int .i64 (bh)) := by go_simp
            have c22_2_0 : w22.cell? ⟨w12.heap.size, 0, none⟩ = some (.int .i64 (pl)) := by go_simp
            have c22_2_1 : w22.cell? ⟨w12.heap.size, 1, none⟩ = some (.int .i64 (ph)) := by go_simp
            have c22_3_0 : w22.cell? ⟨w12.heap.size + 1, 0, none⟩ = some (.int .i64 (al)) := by go_simp
            have c22_3_1 : w22.cell? ⟨w12.heap.size + 1, 1, none⟩ = some (.int .i64 (ah)) := by go_simp
            have c22_4_0 : w22.cell? ⟨W0.heap.size, 0, none⟩ = some (.int .i64 (bl)) := by go_simp
            have c22_4_1 : w22.cell? ⟨W0.heap.size, 1, none⟩ = some (.int .i64 (bh)) := by go_simp
            have c22_5_0 : w22.cell? ⟨w21.heap.size, 0, none⟩ = some (.int .i64 (wH (z))) := by go_simp
            have c22_5_1 : w22.cell? ⟨w21.heap.size, 1, none⟩ = some (.int .u64 (wL (z))) := by go_simp
            clear hc22 hf22 c21_0_0 c21_0_1 c21_1_0 c21_1_1 c21_2_0 c21_2_1 c21_3_0 c21_3_1 c21_4_0 c21_4_1
            go_wp2_with fail
            refine (O1.out _).mono ?_
            rintro e w23 ⟨rfl, hb23⟩
            obtain ⟨hc23, hf23⟩ := bcell hb23
            have hz23 := hb23.size
            try simp only [World.size_alloc, World.size_setCell] at hz23
            try have : w.heap.size < w23.heap.size := by omega
            try have : w.heap.size ≤ w23.heap.size := by omega
            try have : w.heap.size + 1 < w23.heap.size := by omega
            try have : w.heap.size + 1 ≤ w23.heap.size := by omega
            try have : w12.heap.size < w23.heap.size := by omega
            try have : w12.heap.size ≤ w23.heap.size := by omega
            try have : w12.heap.size + 1 < w23.heap.size := by omega
            try have : w12.heap.size + 1 ≤ w23.heap.size := by omega
            try have : W0.heap.size < w23.heap.size := by omega
            try have : W0.heap.size ≤ w23.heap.size := by omega
            try have : w21.heap.size < w23.heap.size := by omega
            try have : w21.heap.size ≤ w23.heap.size := by omega
            have c23_0_0 : w23.cell? ⟨w.heap.size, 0, none⟩ = some (.int .i64 (al)) := by go_simp
            have c23_0_1 : w23.cell? ⟨w.heap.size, 1, none⟩ = some (.int .i64 (ah)) := by go_simp
            have c23_1_0 : w23.cell? ⟨w.heap.size + 1, 0, none⟩ = some (.int .i64 (bl)) := by go_simp
            have c23_1_1 : w23.cell? ⟨w.heap.size + 1, 1, none⟩ = some (.int .i64 (bh)) := by go_simp
            have c23_2_0 : w23.cell? ⟨w12.heap.size, 0, none⟩ = some (.int .i64 (pl)) := by go_simp
            have c23_2_1 : w23.cell? ⟨w12.heap.size, 1, none⟩ = some (.int .i64 (ph)) := by go_simp
            have c23_3_0 : w23.cell? ⟨w12.heap.size + 1, 0, none⟩ = some (.int .i64 (al)) := by go_simp
            have c23_3_1 : w23.cell? ⟨w12.heap.size + 1, 1, none⟩ = some (.int .i64 (ah)) := by go_simp
            have c23_4_0 : w23.cell? ⟨W0.heap.size, 0, none⟩ = some (.int .i64 (bl)) := by go_simp
            have c23_4_1 : w23.cell? ⟨W0.heap.size, 1, none⟩ = some (.int .i64 (bh)) := by go_simp
            have c23_5_0 : w23.cell? ⟨w21.heap.size, 0, none⟩ = some (.int .i64 (wH (z))) := by go_simp
            have c23_5_1 : w23.cell? ⟨w21.heap.size, 1, none⟩ = some (.int .u64 (wL (z))) := by go_simp
            clear hc23 hf23 c22_0_0 c22_0_1 c22_1_0 c22_1_1 c22_2_0 c22_2_1 c22_3_0 c22_3_1 c22_4_0 c22_4_1 c22_5_0 c22_5_1
            go_wp2_with fail
            refine (P1'.out _).mono ?_
            rintro e w24 ⟨rfl, hb24⟩
            obtain ⟨hc24, hf24⟩ := bcell hb24
            have hz24 := hb24.size
            try simp only [World.size_alloc, World.size_setCell] at hz24
            try have : w.heap.size < w24.heap.size := by omega
            try have : w.heap.size < w24.heap.size + 1 := by omega
            try have : w.heap.size ≤ w24.heap.size := by omega
            try have : w.heap.size + 1 < w24.heap.size := by omega
            try have : w.heap.size + 1 < w24.heap.size + 1 := by omega
            try have : w.heap.size + 1 ≤ w24.heap.size := by omega
            try have : w12.heap.size < w24.heap.size := by omega
            try have : w12.heap.size < w24.heap.size + 1 := by omega
            try have : w12.heap.size ≤ w24.heap.size := by omega
            try have : w12.heap.size + 1 < w24.heap.size := by omega
            try have : w12.heap.size + 1 < w24.heap.size + 1 := by omega
            try have : w12.heap.size + 1 ≤ w24.heap.size := by omega
            try have : W0.heap.size < w24.heap.size := by omega
            try have : W0.heap.size < w24.heap.size + 1 := by omega
            try have : W0.heap.size ≤ w24.heap.size := by omega
            try have : w21.heap.size < w24.heap.size := by omega
            try have : w21.heap.size < w24.heap.size + 1 := by omega
            try have : w21.heap.size ≤ w24.heap.size := by omega
            have c24_0_0 : w24.cell? ⟨w.heap.size, 0, none⟩ = some (.int .i64 (al)) := by go_simp
            have c24_0_1 : w24.cell? ⟨w.heap.size, 1, none⟩ = some (.int .i64 (ah)) := by go_simp
            have c24_1_0 : w24.cell? ⟨w.heap.size + 1, 0, none⟩ = some (.int .i64 (bl)) := by go_simp
            have c24_1_1 : w24.cell? ⟨w.heap.size + 1, 1, none⟩ = some (.int .i64 (bh)) := by go_simp
            have c24_2_0 : w24.cell? ⟨w12.heap.size, 0, none⟩ = some (.int .i64 (pl)) := by go_simp
            have c24_2_1 : w24.cell? ⟨w12.heap.size, 1, none⟩ = some (.int .i64 (ph)) := by go_simp
            have c24_3_0 : w24.cell? ⟨w12.heap.size + 1, 0, none⟩ = some (.int .i64 (al)) := by go_simp
            have c24_3_1 : w24.cell? ⟨w12.heap.size + 1, 1, none⟩ = some (.int .i64 (ah)) := by go_simp
            have c24_4_0 : w24.cell? ⟨W0.heap.size, 0, none⟩ = some (.int .i64 (bl)) := by go_simp
            have c24_4_1 : w24.cell? ⟨W0.heap.size, 1, none⟩ = some (.int .i64 (bh)) := by go_simp
            have c24_5_0 : w24.cell? ⟨w21.heap.size, 0, none⟩ = some (.int .i64 (wH (z))) := by go_simp
            have c24_5_1 : w24.cell? ⟨w21.heap.size, 1, none⟩ = some (.int .u64 (wL (z))) := by go_simp
            clear hc24 hf24 c23_0_0 c23_0_1 c23_1_0 c23_1_1 c23_2_0 c23_2_1 c23_3_0 c23_3_1 c23_4_0 c23_4_1 c23_5_0 c23_5_1
            go_wp2_with fail
            refine (LX.out _).mono ?_
            rintro e w25 ⟨rfl, hb25⟩
            obtain ⟨hc25, hf25⟩ := bcell hb25
            have hz25 := hb25.size
            try simp only [World.size_alloc, World.size_setCell] at hz25
            try have : w.heap.size < w25.heap.size := by omega
            try have : w.heap.size ≤ w25.heap.size := by omega
            try have : w.heap.size + 1 < w25.heap.size := by omega
            try have : w.heap.size + 1 ≤ w25.heap.size := by omega
            try have : w12.heap.size < w25.heap.size := by omega
            try have : w12.heap.size ≤ w25.heap.size := by omega
            try have : w12.heap.size + 1 < w25.heap.size := by omega
            try have : w12.heap.size + 1 ≤ w25.heap.size := by omega
            try have : W0.heap.size < w25.heap.size := by omega
            try have : W0.heap.size ≤ w25.heap.size := by omega
            try have : w21.heap.size < w25.heap.size := by omega
            try have : w21.heap.size ≤ w25.heap.size := by omega
            try have : w24.heap.size < w25.heap.size := by omega
            try have : w24.heap.size ≤ w25.heap.size := by omega
            have c25_0_0 : w25.cell? ⟨w.heap.size, 0, none⟩ = some (.int .i64 (al)) := by go_simp
            have c25_0_1 : w25.cell? ⟨w.heap.size, 1, none⟩ = some (.int .i64 (ah)) := by go_simp
            have c25_1_0 : w25.cell? ⟨w.heap.size + 1, 0, none⟩ = some (.int .i64 (bl)) := by go_simp
            have c25_1_1 : w25.cell? ⟨w.heap.size + 1, 1, none⟩ = some (.int .i64 (bh)) := by go_simp
            have c25_2_0 : w25.cell? ⟨w12.heap.size, 0, none⟩ = some (.int .i64 (pl)) := by go_simp
            have c25_2_1 : w25.cell? ⟨w12.heap.size, 1, none⟩ = some (.int .i64 (ph)) := by go_simp
            have c25_3_0 : w25.cell? ⟨w12.heap.size + 1, 0, none⟩ = some (.int .i64 (al)) := by go_simp
            have c25_3_1 : w25.cell? ⟨w12.heap.size + 1, 1, none⟩ = some (.int .i64 (ah)) := by go_simp
            have c25_4_0 : w25.cell? ⟨W0.heap.size, 0, none⟩ = some (.int .i64 (bl)) := by go_simp
            have c25_4_1 : w25.cell? ⟨W0.heap.size, 1, none⟩ = some (.int .i64 (bh)) := by go_simp
            have c25_5_0 : w25.cell? ⟨w21.heap.size, 0, none⟩ = some (.int .i64 (wH (z))) := by go_simp
            have c25_5_1 : w25.cell? ⟨w21.heap.size, 1, none⟩ = some (.int .u64 (wL (z))) := by go_simp
            have c25_6_0 : w25.cell? ⟨w24.heap.size, 0, none⟩ = some (.int .i64 (wH (nx))) := by go_simp
            have c25_6_1 : w25.cell? ⟨w24.heap.size, 1, none⟩ = some (.int .u64 (wL (nx))) := by go_simp
            clear hc25 hf25 c24_0_0 c24_0_1 c24_1_0 c24_1_1 c24_2_0 c24_2_1 c24_3_0 c24_3_1 c24_4_0 c24_4_1 c24_5_0 c24_5_1
            go_wp2_with fail
            refine (O2.out _).mono ?_
            rintro e w26 ⟨rfl, hb26⟩
            obtain ⟨hc26, hf26⟩ := bcell hb26
            have hz26 := hb26.size
            try simp only [World.size_alloc, World.size_setCell] at hz26
            try have : w.heap.size < w26.heap.size := by omega
            try have : w.heap.size ≤ w26.heap.size := by omega
            try have : w.heap.size + 1 < w26.heap.size := by omega
            try have : w.heap.size + 1 ≤ w26.heap.size := by omega
            try have : w12.heap.size < w26.heap.size := by omega
            try have : w12.heap.size ≤ w26.heap.size := by omega
            try have : w12.heap.size + 1 < w26.heap.size := by omega
            try have : w12.heap.size + 1 ≤ w26.heap.size := by omega
            try have : W0.heap.size < w26.heap.size := by omega
            try have : W0.heap.size ≤ w26.heap.size := by omega
            try have : w21.heap.size < w26.heap.size := by omega
            try have : w21.heap.size ≤ w26.heap.size := by omega
            try have : w24.heap.size < w26.heap.size := by omega
            try have : w24.heap.size ≤ w26.heap.size := by omega
            have c26_0_0 : w26.cell? ⟨w.heap.size, 0, none⟩ = some (.int .i64 (al)) := by go_simp
            have c26_0_1 : w26.cell? ⟨w.heap.size, 1, none⟩ = some (.int .i64 (ah)) := by go_simp
            have c26_1_0 : w26.cell? ⟨w.heap.size + 1, 0, none⟩ = some (.int .i64 (bl)) := by go_simp
            have c26_1_1 : w26.cell? ⟨w.heap.size + 1, 1, none⟩ = some (.int .i64 (bh)) := by go_simp
            have c26_2_0 : w26.cell? ⟨w12.heap.size, 0, none⟩ = some (.int .i64 (pl)) := by go_simp
            have c26_2_1 : w26.cell? ⟨w12.heap.size, 1, none⟩ = some (.int .i64 (ph)) := by go_simp
            have c26_3_0 : w26.cell? ⟨w12.heap.size + 1, 0, none⟩ = some (.int .i64 (al)) := by go_simp
            have c26_3_1 : w26.cell? ⟨w12.heap.size + 1, 1, none⟩ = some (.int .i64 (ah)) := by go_simp
            have c26_4_0 : w26.cell? ⟨W0.heap.size, 0, none⟩ = some (.int .i64 (bl)) := by go_simp
            have c26_4_1 : w26.cell? ⟨W0.heap.size, 1, none⟩ = some (.int .i64 (bh)) := by go_simp
            have c26_5_0 : w26.cell? ⟨w21.heap.size, 0, none⟩ = some (.int .i64 (wH (z))) := by go_simp
            have c26_5_1 : w26.cell? ⟨w21.heap.size, 1, none⟩ = some (.int .u64 (wL (z))) := by go_simp
            have c26_6_0 : w26.cell? ⟨w24.heap.size, 0, none⟩ = some (.int .i64 (wH (nx))) := by go_simp
            have c26_6_1 : w26.cell? ⟨w24.heap.size, 1, none⟩ = some (.int .u64 (wL (nx))) := by go_simp
            clear hc26 hf26 c25_0_0 c25_0_1 c25_1_0 c25_1_1 c25_2_0 c25_2_1 c25_3_0 c25_3_1 c25_4_0 c25_4_1 c25_5_0 c25_5_1 c25_6_0 c25_6_1
            go_wp2_with fail
            refine (P2'.out _).mono ?_
            rintro e w27 ⟨rfl, hb27⟩
            obtain ⟨hc27, hf27⟩ := bcell hb27
            have hz27 := hb27.size
            try simp only [World.size_alloc, World.size_setCell] at hz27
            try have : w.heap.size < w27.heap.size := by omega
            try have : w.heap.size < w27.heap.size + 1 := by omega
            try have : w.heap.size ≤ w27.heap.size := by omega
            try have : w.heap.size + 1 < w27.heap.size := by omega
            try have : w.heap.size + 1 < w27.heap.size + 1 := by omega
            try have : w.heap.size + 1 ≤ w27.heap.size := by omega
            try have : w12.heap.size < w27.heap.size := by omega
            try have : w12.heap.size < w27.heap.size + 1 := by omega
            try have : w12.heap.size ≤ w27.heap.size := by omega
            try have : w12.heap.size + 1 < w27.heap.size := by omega
            try have : w12.heap.size + 1 < w27.heap.size + 1 := by omega
            try have : w12.heap.size + 1 ≤ w27.heap.size := by omega
            try have : W0.heap.size < w27.heap.size := by omega
            try have : W0.heap.size < w27.heap.size + 1 := by omega
            try have : W0.heap.size ≤ w27.heap.size := by omega
            try have : w21.heap.size < w27.heap.size := by omega
            try have : w21.heap.size < w27.heap.size + 1 := by omega
            try have : w21.heap.size ≤ w27.heap.size := by omega
            try have : w24.heap.size < w27.heap.size := by omega
            try have : w24.heap.size < w27.heap.size + 1 := by omega
            try have : w24.heap.size ≤ w27.heap.size := by omega
            have c27_0_0 : w27.cell? ⟨w.heap.size, 0, none⟩ = some (.int .i64 (al)) := by go_simp
            have c27_0_1 : w27.cell? ⟨w.heap.size, 1, none⟩ = some (.int .i64 (ah)) := by go_simp
            have c27_1_0 : w27.cell? ⟨w.heap.size + 1, 0, none⟩ = some (.int .i64 (bl)) := by go_simp
            have c27_1_1 : w27.cell? ⟨w.heap.size + 1, 1, none⟩ = some (.int .i64 (bh)) := by go_simp
            have c27_2_0 : w27.cell? ⟨w12.heap.size, 0, none⟩ = some (.int .i64 (pl)) := by go_simp
            have c27_2_1 : w27.cell? ⟨w12.heap.size, 1, none⟩ = some (.int .i64 (ph)) := by go_simp
            have c27_3_0 : w27.cell? ⟨w12.heap.size + 1, 0, none⟩ = some (.int .i64 (al)) := by go_simp
            have c27_3_1 : w27.cell? ⟨w12.heap.size + 1, 1, none⟩ = some (.int .i64 (ah)) := by go_simp
            have c27_4_0 : w27.cell? ⟨W0.heap.size, 0, none⟩ = some (.int .i64 (bl)) := by go_simp
            have c27_4_1 : w27.cell? ⟨W0.heap.size, 1, none⟩ = some (.int .i64 (bh)) := by go_simp
            have c27_5_0 : w27.cell? ⟨w21.heap.size, 0, none⟩ = some (.int .i64 (wH (z))) := by go_simp
            have c27_5_1 : w27.cell? ⟨w21.heap.size, 1, none⟩ = some (.int .u64 (wL (z))) := by go_simp
            have c27_6_0 : w27.cell? ⟨w24.heap.size, 0, none⟩ = some (.int .i64 (wH (nx))) := by go_simp
            have c27_6_1 : w27.cell? ⟨w24.heap.size, 1, none⟩ = some (.int .u64 (wL (nx))) := by go_simp
            clear hc27 hf27 c26_0_0 c26_0_1 c26_1_0 c26_1_1 c26_2_0 c26_2_1 c26_3_0 c26_3_1 c26_4_0 c26_4_1 c26_5_0 c26_5_1 c26_6_0 c26_6_1
            go_wp2_with fail
            refine (LS1.out _).mono ?_
            rintro e w28 ⟨rfl, hb28⟩
            obtain ⟨hc28, hf28⟩ := bcell hb28
            have hz28 := hb28.size
            try simp only [World.size_alloc, World.size_setCell] at hz28
            try have : w.heap.size < w28.heap.size := by omega
            try have : w.heap.size ≤ w28.heap.size := by omega
            try have : w.heap.size + 1 < w28.heap.size := by omega
            try have : w.heap.size + 1 ≤ w28.heap.size := by omega
            try have : w12.heap.size < w28.heap.size := by omega
            try have : w12.heap.size ≤ w28.heap.size := by omega
            try have : w12.heap.size + 1 < w28.heap.size := by omega
            try have : w12.heap.size + 1 ≤ w28.heap.size := by omega
            try have : W0.heap.size < w28.heap.size := by omega
            try have : W0.heap.size ≤ w28.heap.size := by omega
            try have : w21.heap.size < w28.heap.size := by omega
            try have : w21.heap.size ≤ w28.heap.size := by omega
            try have : w24.heap.size < w28.heap.size := by omega
            try have : w24.heap.size ≤ w28.heap.size := by omega
            try have : w27.heap.size < w28.heap.size := by omega
            try have : w27.heap.size ≤ w28.heap.size := by omega
            have c28_0_0 : w28.cell? ⟨w.heap.size, 0, none⟩ = some (.int .i64 (al)) := by go_simp
            have c28_0_1 : w28.cell? ⟨w.heap.size, 1, none⟩ = some (.int .i64 (ah)) := by go_simp
            have c28_1_0 : w28.cell? ⟨w.heap.size + 1, 0, none⟩ = some (.int .i64 (bl)) := by go_simp
            have c28_1_1 : w28.cell? ⟨w.heap.size + 1, 1, none⟩ = some (.int .i64 (bh)) := by go_simp
            have c28_2_0 : w28.cell? ⟨w12.heap.size, 0, none⟩ = some (.int .i64 (pl)) := by go_simp
            have c28_2_1 : w28.cell? ⟨w12.heap.size, 1, none⟩ = some (.int .i64 (ph)) := by go_simp
            have c28_3_0 : w28.cell? ⟨w12.heap.size + 1, 0, none⟩ = some (.int .i64 (al)) := by go_simp
            have c28_3_1 : w28.cell? ⟨w12.heap.size + 1, 1, none⟩ = some (.int .i64 (ah)) := by go_simp
            have c28_4_0 : w28.cell? ⟨W0.heap.size, 0, none⟩ = some (.int .i64 (bl)) := by go_simp
            have c28_4_1 : w28.cell? ⟨W0.heap.size, 1, none⟩ = some (.int .i64 (bh)) := by go_simp
            have c28_5_0 : w28.cell? ⟨w21.heap.size, 0, none⟩ = some (.int .i64 (wH (z))) := by go_simp
            have c28_5_1 : w28.cell? ⟨w21.heap.size, 1, none⟩ = some (.int .u64 (wL (z))) := by go_simp
            have c28_6_0 : w28.cell? ⟨w24.heap.size, 0, none⟩ = some (.int .i64 (wH (nx))) := by go_simp
            have c28_6_1 : w28.cell? ⟨w24.heap.size, 1, none⟩ = some (.int .u64 (wL (nx))) := by go_simp
            have c28_7_0 : w28.cell? ⟨w27.heap.size, 0, none⟩ = some (.int .i64 (wH (lx))) := by go_simp
            have c28_7_1 : w28.cell? ⟨w27.heap.size, 1, none⟩ = some (.int .u64 (wL (lx))) := by go_simp
            clear hc28 hf28 c27_0_0 c27_0_1 c27_1_0 c27_1_1 c27_2_0 c27_2_1 c27_3_0 c27_3_1 c27_4_0 c27_4_1 c27_5_0 c27_5_1 c27_6_0 c27_6_1
            go_wp2
            go_roundw
            case rel =>
              refine ⟨j + 1, by omega, by go_num, by rw [FN.out]; rfl, by rw [GN.out]; rfl, ⟨by first | omega | (simp <;> omega), by first | omega | (simp <;> omega), by first | omega | (simp <;> omega), by first | omega | (simp <;> omega), by first | omega | (simp <;> omega), by go_simp, by go_simp, by go_simp, by go_simp, by go_simp, by go_simp, ?_, ?_, (by repeat (first | with_reducible exact Below.refl _ _ | with_reducible refine bdrew ?_ | ((with_reducible first | refine bset ?_ ?_ | refine ball ?_ ?_ | refine bth (by assumption) ?_ ?_); first | omega | (simp <;> omega))))⟩⟩
              · intro k hk
                match k, hk with
                | 0, _ => go_simp; rfl
                | 1, _ => go_simp; rfl
              · intro k hk
                match k, hk with
                | 0, _ => go_simp; rfl
                | 1, _ => go_simp; rfl
            case measure => simp [intOf]; omega
          · skip
            go_wp2_with fail
            refine (RT.out _).mono ?_
            rintro e w21 ⟨rfl, hb21⟩
            obtain ⟨hc21, hf21⟩ := bcell hb21
            have hz21 := hb21.size
            try simp only [World.size_alloc, World.size_setCell] at hz21
            try have : w.heap.size < w21.heap.size := by omega
            try have : w.heap.size < w21.heap.size + 1 := by omega
            try have : w.heap.size ≤ w21.heap.size := by omega
            try have : w.heap.size + 1 < w21.heap.size := by omega
            try have : w.heap.size + 1 < w21.heap.size + 1 := by omega
            try have : w.heap.size + 1 ≤ w21.heap.size := by omega
            try have : w12.heap.size < w21.heap.size := by omega
            try have : w12.heap.size < w21.heap.size + 1 := by omega
            try have : w12.heap.size ≤ w21.heap.size := by omega
            try have : w12.heap.size + 1 < w21.heap.size := by omega
            try have : w12.heap.size + 1 < w21.heap.size + 1 := by omega
            try have : w12.heap.size + 1 ≤ w21.heap.size := by omega
            try have : W0.heap.size < w21.heap.size := by omega
            try have : W0.heap.size < w21.heap.size + 1 := by omega
            try have : W0.heap.size ≤ w21.heap.size := by omega
            have c21_0_0 : w21.cell? ⟨w.heap.size, 0, none⟩ = some (.int .i64 (al)) := by go_simp
            have c21_0_1 : w21.cell? ⟨w.heap.size, 1, none⟩ = some (.int .i64 (ah)) := by go_simp
            have c21_1_0 : w21.cell? ⟨w.heap.size + 1, 0, none⟩ = some (.int .i64 (bl)) := by go_simp
            have c21_1_1 : w21.cell? ⟨w.heap.size + 1, 1, none⟩ = some (.int .i64 (bh)) := by go_simp
            have c21_2_0 : w21.cell? ⟨w12.heap.size, 0, none⟩ = some (.int .i64 (pl)) := by go_simp
            have c21_2_1 : w21.cell? ⟨w12.heap.size, 1, none⟩ = some (.int .i64 (ph)) := by go_simp
            have c21_3_0 : w21.cell? ⟨w12.heap.size + 1, 0, none⟩ = some (.int .i64 (al)) := by go_simp
            have c21_3_1 : w21.cell? ⟨w12.heap.size + 1, 1, none⟩ = some (.int .i64 (ah)) := by go_simp
            have c21_4_0 : w21.cell? ⟨W0.heap.size, 0, none⟩ = some (.int .i64 (bl)) := by go_simp
            have c21_4_1 : w21.cell? ⟨W0.heap.size, 1, none⟩ = some (.int .i64 (bh)) := by go_simp
            clear hc21 hf21
            go_wp2_with fail
            refine (NX.out _).mono ?_
            rintro e w22 ⟨rfl, hb22⟩
            obtain ⟨hc22, hf22⟩ := bcell hb22
            have hz22 := hb22.size
            try simp only [World.size_alloc, World.size_setCell] at hz22
            try have : w.heap.size < w22.heap.size := by omega
            try have : w.heap.size ≤ w22.heap.size := by omega
            try have : w.heap.size + 1 < w22.heap.size := by omega
            try have : w.heap.size + 1 ≤ w22.heap.size := by omega
            try have : w12.heap.size < w22.heap.size := by omega
            try have : w12.heap.size ≤ w22.heap.size := by omega
            try have : w12.heap.size + 1 < w22.heap.size := by omega
            try have : w12.heap.size + 1 ≤ w22.heap.size := by omega
            try have : W0.heap.size < w22.heap.size := by omega
            try have : W0.heap.size ≤ w22.heap.size := by omega
            try have : w21.heap.size < w22.heap.size := by omega
            try have : w21.heap.size ≤ w22.heap.size := by omega
            have c22_0_0 : w22.cell? ⟨w.heap.size, 0, none⟩ = some (.int .i64 (al)) := by go_simp
            have c22_0_1 : w22.cell? ⟨w.heap.size, 1, none⟩ = some (.int .i64 (ah)) := by go_simp
            have c22_1_0 : w22.cell? ⟨w.heap.size + 1, 0, none⟩ = some (.int .i64 (bl)) := by go_simp
            have c22_1_1 : w22.cell? ⟨w.heap.size + 1, 1, none⟩ = some (.int .i64 (bh)) := by go_simp
            have c22_2_0 : w22.cell? ⟨w12.heap.size, 0, none⟩ = some (.int .i64 (pl)) := by go_simp
            have c22_2_1 : w22.cell? ⟨w12.heap.size, 1, none⟩ = some (.int .i64 (ph)) := by go_simp
            have c22_3_0 : w22.cell? ⟨w12.heap.size + 1, 0, none⟩ = some (.int .i64 (al)) := by go_simp
            have c22_3_1 : w22.cell? ⟨w12.heap.size + 1, 1, none⟩ = some (.int .i64 (ah)) := by go_simp
            have c22_4_0 : w22.cell? ⟨W0.heap.size, 0, none⟩ = some (.int .i64 (bl)) := by go_simp
            have c22_4_1 : w22.cell? ⟨W0.heap.size, 1, none⟩ = some (.int .i64 (bh)) := by go_simp
            have c22_5_0 : w22.cell? ⟨w21.heap.size, 0, none⟩ = some (.int .i64 (wH (z))) := by go_simp
            have c22_5_1 : w22.cell? ⟨w21.heap.size, 1, none⟩ = some (.int .u64 (wL (z))) := by go_simp
            clear hc22 hf22 c21_0_0 c21_0_1 c21_1_0 c21_1_1 c21_2_0 c21_2_1 c21_3_0 c21_3_1 c21_4_0 c21_4_1
            go_wp2_with fail
            refine (O1.out _).mono ?_
            rintro e w23 ⟨rfl, hb23⟩
            obtain ⟨hc23, hf23⟩ := bcell hb23
            have hz23 := hb23.size
            try simp only [World.size_alloc, World.size_setCell] at hz23
            try have : w.heap.size < w23.heap.size := by omega
            try have : w.heap.size ≤ w23.heap.size := by omega
            try have : w.heap.size + 1 < w23.heap.size := by omega
            try have : w.heap.size + 1 ≤ w23.heap.size := by omega
            try have : w12.heap.size < w23.heap.size := by omega
            try have : w12.heap.size ≤ w23.heap.size := by omega
            try have : w12.heap.size + 1 < w23.heap.size := by omega
            try have : w12.heap.size + 1 ≤ w23.heap.size := by omega
            try have : W0.heap.size < w23.heap.size := by omega
            try have : W0.heap.size ≤ w23.heap.size := by omega
            try have : w21.heap.size < w23.heap.size := by omega
            try have : w21.heap.size ≤ w23.heap.size := by omega
            have c23_0_0 : w23.cell? ⟨w.heap.size, 0, none⟩ = some (.int .i64 (al)) := by go_simp
            have c23_0_1 : w23.cell? ⟨w.heap.size, 1, none⟩ = some (.int .i64 (ah)) := by go_simp
            have c23_1_0 : w23.cell? ⟨w.heap.size + 1, 0, none⟩ = some (.int .i64 (bl)) := by go_simp
            have c23_1_1 : w23.cell? ⟨w.heap.size + 1, 1, none⟩ = some (.int .i64 (bh)) := by go_simp
            have c23_2_0 : w23.cell? ⟨w12.heap.size, 0, none⟩ = some (.int .i64 (pl)) := by go_simp
            have c23_2_1 : w23.cell? ⟨w12.heap.size, 1, none⟩ = some (.int .i64 (ph)) := by go_simp
            have c23_3_0 : w23.cell? ⟨w12.heap.size + 1, 0, none⟩ = some (.int .i64 (al)) := by go_simp
            have c23_3_1 : w23.cell? ⟨w12.heap.size + 1, 1, none⟩ = some (.int .i64 (ah)) := by go_simp
            have c23_4_0 : w23.cell? ⟨W0.heap.size, 0, none⟩ = some (.int .i64 (bl)) := by go_simp
            have c23_4_1 : w23.cell? ⟨W0.heap.size, 1, none⟩ = some (.int .i64 (bh)) := by go_simp
            have c23_5_0 : w23.cell? ⟨w21.heap.size, 0, none⟩ = some (.int .i64 (wH (z))) := by go_simp
            have c23_5_1 : w23.cell? ⟨w21.heap.size, 1, none⟩ = some (.int .u64 (wL (z))) := by go_simp
            clear hc23 hf23 c22_0_0 c22_0_1 c22_1_0 c22_1_1 c22_2_0 c22_2_1 c22_3_0 c22_3_1 c22_4_0 c22_4_1 c22_5_0 c22_5_1
            go_wp2_with fail
            refine (P1'.out _).mono ?_
            rintro e w24 ⟨rfl, hb24⟩
            obtain ⟨hc24, hf24⟩ := bcell hb24
            have hz24 := hb24.size
            try simp only [World.size_alloc, World.size_setCell] at hz24
            try have : w.heap.size < w24.heap.size := by omega
            try have : w.heap.size < w24.heap.size + 1 := by omega
            try have : w.heap.size ≤ w24.heap.size := by omega
            try have : w.heap.size + 1 < w24.heap.size := by omega
            try have : w.heap.size + 1 < w24.heap.size + 1 := by omega
            try have : w.heap.size + 1 ≤ w24.heap.size := by omega
            try have : w12.heap.size < w24.heap.size := by omega
            try have : w12.heap.size < w24.heap.size + 1 := by omega
            try have : w12.heap.size ≤ w24.heap.size := by omega
            try have : w12.heap.size + 1 < w24.heap.size := by omega
            try have : w12.heap.size + 1 < w24.heap.size + 1 := by omega
            try have : w12.heap.size + 1 ≤ w24.heap.size := by omega
            try have : W0.heap.size < w24.heap.size := by omega
            try have : W0.heap.size < w24.heap.size + 1 := by omega
            try have : W0.heap.size ≤ w24.heap.size := by omega
            try have : w21.heap.size < w24.heap.size := by omega
            try have : w21.heap.size < w24.heap.size + 1 := by omega
            try have : w21.heap.size ≤ w24.heap.size := by omega
            have c24_0_0 : w24.cell? ⟨w.heap.size, 0, none⟩ = some (.int .i64 (al)) := by go_simp
            have c24_0_1 : w24.cell? ⟨w.heap.size, 1, none⟩ = some (.int .i64 (ah)) := by go_simp
            have c24_1_0 : w24.cell? ⟨w.heap.size + 1, 0, none⟩ = some (.int .i64 (bl)) := by go_simp
            have c24_1_1 : w24.cell? ⟨w.heap.size + 1, 1, none⟩ = some (.int .i64 (bh)) := by go_simp
            have c24_2_0 : w24.cell? ⟨w12.heap.size, 0, none⟩ = some (.int .i64 (pl)) := by go_simp
            have c24_2_1 : w24.cell? ⟨w12.heap.size, 1, none⟩ = some (.int .i64 (ph)) := by go_simp
            have c24_3_0 : w24.cell? ⟨w12.heap.size + 1, 0, none⟩ = some (.int .i64 (al)) := by go_simp
            have c24_3_1 : w24.cell? ⟨w12.heap.size + 1, 1, none⟩ = some (.int .i64 (ah)) := by go_simp
            have c24_4_0 : w24.cell? ⟨W0.heap.size, 0, none⟩ = some (.int .i64 (bl)) := by go_simp
            have c24_4_1 : w24.cell? ⟨W0.heap.size, 1, none⟩ = some (.int .i64 (bh)) := by go_simp
            have c24_5_0 : w24.cell? ⟨w21.heap.size, 0, none⟩ = some (.int .i64 (wH (z))) := by go_simp
            have c24_5_1 : w24.cell? ⟨w21.heap.size, 1, none⟩ = some (.int .u64 (wL (z))) := by go_simp
            clear hc24 hf24 c23_0_0 c23_0_1 c23_1_0 c23_1_1 c23_2_0 c23_2_1 c23_3_0 c23_3_1 c23_4_0 c23_4_1 c23_5_0 c23_5_1
            go_wp2_with fail
            refine (LX.out _).mono ?_
            rintro e w25 ⟨rfl, hb25⟩
            obtain ⟨hc25, hf25⟩ := bcell hb25
            have hz25 := hb25.size
            try simp only [World.size_alloc, World.size_setCell] at hz25
            try have : w.heap.size < w25.heap.size := by omega
            try have : w.heap.size ≤ w25.heap.size := by omega
            try have : w.heap.size + 1 < w25.heap.size := by omega
            try have : w.heap.size + 1 ≤ w25.heap.size := by omega
            try have : w12.heap.size < w25.heap.size := by omega
            try have : w12.heap.size ≤ w25.heap.size := by omega
            try have : w12.heap.size + 1 < w25.heap.size := by omega
            try have : w12.heap.size + 1 ≤ w25.heap.size := by omega
            try have : W0.heap.size < w25.heap.size := by omega
            try have : W0.heap.size ≤ w25.heap.size := by omega
            try have : w21.heap.size < w25.heap.size := by omega
            try have : w21.heap.size ≤ w25.heap.size := by omega
            try have : w24.heap.size < w25.heap.size := by omega
            try have : w24.heap.size ≤ w25.heap.size := by omega
            have c25_0_0 : w25.cell? ⟨w.heap.size, 0, none⟩ = some (.int .i64 (al)) := by go_simp
            have c25_0_1 : w25.cell? ⟨w.heap.size, 1, none⟩ = some (.int .i64 (ah)) := by go_simp
            have c25_1_0 : w25.cell? ⟨w.heap.size + 1, 0, none⟩ = some (.int .i64 (bl)) := by go_simp
            have c25_1_1 : w25.cell? ⟨w.heap.size + 1, 1, none⟩ = some (.int .i64 (bh)) := by go_simp
            have c25_2_0 : w25.cell? ⟨w12.heap.size, 0, none⟩ = some (.int .i64 (pl)) := by go_simp
            have c25_2_1 : w25.cell? ⟨w12.heap.size, 1, none⟩ = some (.int .i64 (ph)) := by go_simp
            have c25_3_0 : w25.cell? ⟨w12.heap.size + 1, 0, none⟩ = some (.int .i64 (al)) := by go_simp
            have c25_3_1 : w25.cell? ⟨w12.heap.size + 1, 1, none⟩ = some (.int .i64 (ah)) := by go_simp
            have c25_4_0 : w25.cell? ⟨W0.heap.size, 0, none⟩ = some (.int .i64 (bl)) := by go_simp
            have c25_4_1 : w25.cell? ⟨W0.heap.size, 1, none⟩ = some (.int .i64 (bh)) := by go_simp
            have c25_5_0 : w25.cell? ⟨w21.heap.size, 0, none⟩ = some (.int .i64 (wH (z))) := by go_simp
            have c25_5_1 : w25.cell? ⟨w21.heap.size, 1, none⟩ = some (.int .u64 (wL (z))) := by go_simp
            have c25_6_0 : w25.cell? ⟨w24.heap.size, 0, none⟩ = some (.int .i64 (wH (nx))) := by go_simp
            have c25_6_1 : w25.cell? ⟨w24.heap.size, 1, none⟩ = some (.int .u64 (wL (nx))) := by go_simp
            clear hc25 hf25 c24_0_0 c24_0_1 c24_1_0 c24_1_1 c24_2_0 c24_2_1 c24_3_0 c24_3_1 c24_4_0 c24_4_1 c24_5_0 c24_5_1
            go_wp2_with fail
            refine (O2.out _).mono ?_
            rintro e w26 ⟨rfl, hb26⟩
            obtain ⟨hc26, hf26⟩ := bcell hb26
            have hz26 := hb26.size
            try simp only [World.size_alloc, World.size_setCell] at hz26
            try have : w.heap.size < w26.heap.size := by omega
            try have : w.heap.size ≤ w26.heap.size := by omega
            try have : w.heap.size + 1 < w26.heap.size := by omega
            try have : w.heap.size + 1 ≤ w26.heap.size := by omega
            try have : w12.heap.size < w26.heap.size := by omega
            try have : w12.heap.size ≤ w26.heap.size := by omega
            try have : w12.heap.size + 1 < w26.heap.size := by omega
            try have : w12.heap.size + 1 ≤ w26.heap.size := by omega
            try have : W0.heap.size < w26.heap.size := by omega
            try have : W0.heap.size ≤ w26.heap.size := by omega
            try have : w21.heap.size < w26.heap.size := by omega
            try have : w21.heap.size ≤ w26.heap.size := by omega
            try have : w24.heap.size < w26.heap.size := by omega
            try have : w24.heap.size ≤ w26.heap.size := by omega
            have c26_0_0 : w26.cell? ⟨w.heap.size, 0, none⟩ = some (.int .i64 (al)) := by go_simp
            have c26_0_1 : w26.cell? ⟨w.heap.size, 1, none⟩ = some (.int .i64 (ah)) := by go_simp
            have c26_1_0 : w26.cell? ⟨w.heap.size + 1, 0, none⟩ = some (.int .i64 (bl)) := by go_simp
            have c26_1_1 : w26.cell? ⟨w.heap.size + 1, 1, none⟩ = some (.int .i64 (bh)) := by go_simp
            have c26_2_0 : w26.cell? ⟨w12.heap.size, 0, none⟩ = some (.int .i64 (pl)) := by go_simp
            have c26_2_1 : w26.cell? ⟨w12.heap.size, 1, none⟩ = some (.int .i64 (ph)) := by go_simp
            have c26_3_0 : w26.cell? ⟨w12.heap.size + 1, 0, none⟩ = some (.int .i64 (al)) := by go_simp
            have c26_3_1 : w26.cell? ⟨w12.heap.size + 1, 1, none⟩ = some (.int .i64 (ah)) := by go_simp
            have c26_4_0 : w26.cell? ⟨W0.heap.size, 0, none⟩ = some (.int .i64 (bl)) := by go_simp
            have c26_4_1 : w26.cell? ⟨W0.heap.size, 1, none⟩ = some (.int .i64 (bh)) := by go_simp
            have c26_5_0 : w26.cell? ⟨w21.heap.size, 0, none⟩ = some (.int .i64 (wH (z))) := by go_simp
            have c26_5_1 : w26.cell? ⟨w21.heap.size, 1, none⟩ = some (.int .u64 (wL (z))) := by go_simp
            have c26_6_0 : w26.cell? ⟨w24.heap.size, 0, none⟩ = some (.int .i64 (wH (nx))) := by go_simp
            have c26_6_1 : w26.cell? ⟨w24.heap.size, 1, none⟩ = some (.int .u64 (wL (nx))) := by go_simp
            clear hc26 hf26 c25_0_0 c25_0_1 c25_1_0 c25_1_1 c25_2_0 c25_2_1 c25_3_0 c25_3_1 c25_4_0 c25_4_1 c25_5_0 c25_5_1 c25_6_0 c25_6_1
            go_wp2_with fail
            refine (P2'.out _).mono ?_
            rintro e w27 ⟨rfl, hb27⟩
            obtain ⟨hc27, hf27⟩ := bcell hb27
            have hz27 := hb27.size
            try simp only [World.size_alloc, World.size_setCell] at hz27
            try have : w.heap.size < w27.heap.size := by omega
            try have : w.heap.size < w27.heap.size + 1 := by omega
            try have : w.heap.size ≤ w27.heap.size := by omega
            try have : w.heap.size + 1 < w27.heap.size := by omega
            try have : w.heap.size + 1 < w27.heap.size + 1 := by omega
            try have : w.heap.size + 1 ≤ w27.heap.size := by omega
            try have : w12.heap.size < w27.heap.size := by omega
            try have : w12.heap.size < w27.heap.size + 1 := by omega
            try have : w12.heap.size ≤ w27.heap.size := by omega
            try have : w12.heap.size + 1 < w27.heap.size := by omega
            try have : w12.heap.size + 1 < w27.heap.size + 1 := by omega
            try have : w12.heap.size + 1 ≤ w27.heap.size := by omega
            try have : W0.heap.size < w27.heap.size := by omega
            try have : W0.heap.size < w27.heap.size + 1 := by omega
            try have : W0.heap.size ≤ w27.heap.size := by omega
            try have : w21.heap.size < w27.heap.size := by omega
            try have : w21.heap.size < w27.heap.size + 1 := by omega
            try have : w21.heap.size ≤ w27.heap.size := by omega
            try have : w24.heap.size < w27.heap.size := by omega
            try have : w24.heap.size < w27.heap.size + 1 := by omega
            try have : w24.heap.size ≤ w27.heap.size := by omega
            have c27_0_0 : w27.cell? ⟨w.heap.size, 0, none⟩ = some (.int .i64 (al)) := by go_simp
            have c27_0_1 : w27.cell? ⟨w.heap.size, 1, none⟩ = some (.int .i64 (ah)) := by go_simp
            have c27_1_0 : w27.cell? ⟨w.heap.size + 1, 0, none⟩ = some (.int .i64 (bl)) := by go_simp
            have c27_1_1 : w27.cell? ⟨w.heap.size + 1, 1, none⟩ = some (.int .i64 (bh)) := by go_simp
            have c27_2_0 : w27.cell? ⟨w12.heap.size, 0, none⟩ = some (.int .i64 (pl)) := by go_simp
            have c27_2_1 : w27.cell? ⟨w12.heap.size, 1, none⟩ = some (.int .i64 (ph)) := by go_simp
            have c27_3_0 : w27.cell? ⟨w12.heap.size + 1, 0, none⟩ = some (.int .i64 (al)) := by go_simp
            have c27_3_1 : w27.cell? ⟨w12.heap.size + 1, 1, none⟩ = some (.int .i64 (ah)) := by go_simp
            have c27_4_0 : w27.cell? ⟨W0.heap.size, 0, none⟩ = some (.int .i64 (bl)) := by go_simp
            have c27_4_1 : w27.cell? ⟨W0.heap.size, 1, none⟩ = some (.int .i64 (bh)) := by go_simp
            have c27_5_0 : w27.cell? ⟨w21.heap.size, 0, none⟩ = some (.int .i64 (wH (z))) := by go_simp
            have c27_5_1 : w27.cell? ⟨w21.heap.size, 1, none⟩ = some (.int .u64 (wL (z))) := by go_simp
            have c27_6_0 : w27.cell? ⟨w24.heap.size, 0, none⟩ = some (.int .i64 (wH (nx))) := by go_simp
            have c27_6_1 : w27.cell? ⟨w24.heap.size, 1, none⟩ = some (.int .u64 (wL (nx))) := by go_simp
            clear hc27 hf27 c26_0_0 c26_0_1 c26_1_0 c26_1_1 c26_2_0 c26_2_1 c26_3_0 c26_3_1 c26_4_0 c26_4_1 c26_5_0 c26_5_1 c26_6_0 c26_6_1
            go_wp2_with fail
            refine (LS2.out _).mono ?_
            rintro e w28 ⟨rfl, hb28⟩
            obtain ⟨hc28, hf28⟩ := bcell hb28
            have hz28 := hb28.size
            try simp only [World.size_alloc, World.size_setCell] at hz28
            try have : w.heap.size < w28.heap.size := by omega
            try have : w.heap.size ≤ w28.heap.size := by omega
            try have : w.heap.size + 1 < w28.heap.size := by omega
            try have : w.heap.size + 1 ≤ w28.heap.size := by omega
            try have : w12.heap.size < w28.heap.size := by omega
            try have : w12.heap.size ≤ w28.heap.size := by omega
            try have : w12.heap.size + 1 < w28.heap.size := by omega
            try have : w12.heap.size + 1 ≤ w28.heap.size := by omega
            try have : W0.heap.size < w28.heap.size := by omega
            try have : W0.heap.size ≤ w28.heap.size := by omega
            try have : w21.heap.size < w28.heap.size := by omega
            try have : w21.heap.size ≤ w28.heap.size := by omega
            try have : w24.heap.size < w28.heap.size := by omega
            try have : w24.heap.size ≤ w28.heap.size := by omega
            try have : w27.heap.size < w28.heap.size := by omega
            try have : w27.heap.size ≤ w28.heap.size := by omega
            have c28_0_0 : w28.cell? ⟨w.heap.size, 0, none⟩ = some (.int .i64 (al)) := by go_simp
            have c28_0_1 : w28.cell? ⟨w.heap.size, 1, none⟩ = some (.int .i64 (ah)) := by go_simp
            have c28_1_0 : w28.cell? ⟨w.heap.size + 1, 0, none⟩ = some (.int .i64 (bl)) := by go_simp
            have c28_1_1 : w28.cell? ⟨w.heap.size + 1, 1, none⟩ = some (.int .i64 (bh)) := by go_simp
            have c28_2_0 : w28.cell? ⟨w12.heap.size, 0, none⟩ = some (.int .i64 (pl)) := by go_simp
            have c28_2_1 : w28.cell? ⟨w12.heap.size, 1, none⟩ = some (.int .i64 (ph)) := by go_simp
            have c28_3_0 : w28.cell? ⟨w12.heap.size + 1, 0, none⟩ = some (.int .i64 (al)) := by go_simp
            have c28_3_1 : w28.cell? ⟨w12.heap.size + 1, 1, none⟩ = some (.int .i64 (ah)) := by go_simp
            have c28_4_0 : w28.cell? ⟨W0.heap.size, 0, none⟩ = some (.int .i64 (bl)) := by go_simp
            have c28_4_1 : w28.cell? ⟨W0.heap.size, 1, none⟩ = some (.int .i64 (bh)) := by go_simp
            have c28_5_0 : w28.cell? ⟨w21.heap.size, 0, none⟩ = some (.int .i64 (wH (z))) := by go_simp
            have c28_5_1 : w28.cell? ⟨w21.heap.size, 1, none⟩ = some (.int .u64 (wL (z))) := by go_simp
            have c28_6_0 : w28.cell? ⟨w24.heap.size, 0, none⟩ = some (.int .i64 (wH (nx))) := by go_simp
            have c28_6_1 : w28.cell? ⟨w24.heap.size, 1, none⟩ = some (.int .u64 (wL (nx))) := by go_simp
            have c28_7_0 : w28.cell? ⟨w27.heap.size, 0, none⟩ = some (.int .i64 (wH (lx))) := by go_simp
            have c28_7_1 : w28.cell? ⟨w27.heap.size, 1, none⟩ = some (.int .u64 (wL (lx))) := by go_simp
            clear hc28 hf28 c27_0_0 c27_0_1 c27_1_0 c27_1_1 c27_2_0 c27_2_1 c27_3_0 c27_3_1 c27_4_0 c27_4_1 c27_5_0 c27_5_1 c27_6_0 c27_6_1
            go_wp2
            go_roundw
            case rel =>
              refine ⟨j + 1, by omega, by go_num, by rw [FN.out]; rfl, by rw [GN.out]; rfl, ⟨by first | omega | (simp <;> omega), by first | omega | (simp <;> omega), by first | omega | (simp <;> omega), by first | omega | (simp <;> omega), by first | omega | (simp <;> omega), by go_simp, by go_simp, by go_simp, by go_simp, by go_simp, by go_simp, ?_, ?_, (by repeat (first | with_reducible exact Below.refl _ _ | with_reducible refine bdrew ?_ | ((with_reducible first | refine bset ?_ ?_ | refine ball ?_ ?_ | refine bth (by assumption) ?_ ?_); first | omega | (simp <;> omega))))⟩⟩
              · intro k hk
                match k, hk with
                | 0, _ => go_simp; rfl
                | 1, _ => go_simp; rfl
              · intro k hk
                match k, hk with
                | 0, _ => go_simp; rfl
                | 1, _ => go_simp; rfl
            case measure => simp [intOf]; omega
          · skip
            go_wp2_with fail
            refine (RT.out _).mono ?_
            rintro e w21 ⟨rfl, hb21⟩
            obtain ⟨hc21, hf21⟩ := bcell hb21
            have hz21 := hb21.size
            try simp only [World.size_alloc, World.size_setCell] at hz21
            try have : w.heap.size < w21.heap.size := by omega
            try have : w.heap.size < w21.heap.size + 1 := by omega
            try have : w.heap.size ≤ w21.heap.size := by omega
            try have : w.heap.size + 1 < w21.heap.size := by omega
            try have : w.heap.size + 1 < w21.heap.size + 1 := by omega
            try have : w.heap.size + 1 ≤ w21.heap.size := by omega
            try have : w12.heap.size < w21.heap.size := by omega
            try have : w12.heap.size < w21.heap.size + 1 := by omega
            try have : w12.heap.size ≤ w21.heap.size := by omega
            try have : w12.heap.size + 1 < w21.heap.size := by omega
            try have : w12.heap.size + 1 < w21.heap.size + 1 := by omega
            try have : w12.heap.size + 1 ≤ w21.heap.size := by omega
            try have : W0.heap.size < w21.heap.size := by omega
            try have : W0.heap.size < w21.heap.size + 1 := by omega
            try have : W0.heap.size ≤ w21.heap.size := by omega
            have c21_0_0 : w21.cell? ⟨w.heap.size, 0, none⟩ = some (.int .i64 (al)) := by go_simp
            have c21_0_1 : w21.cell? ⟨w.heap.size, 1, none⟩ = some (.int .i64 (ah)) := by go_simp
            have c21_1_0 : w21.cell? ⟨w.heap.size + 1, 0, none⟩ = some (.int .i64 (bl)) := by go_simp
            have c21_1_1 : w21.cell? ⟨w.heap.size + 1, 1, none⟩ = some (.int .i64 (bh)) := by go_simp
            have c21_2_0 : w21.cell? ⟨w12.heap.size, 0, none⟩ = some (.int .i64 (pl)) := by go_simp
            have c21_2_1 : w21.cell? ⟨w12.heap.size, 1, none⟩ = some (.int .i64 (ph)) := by go_simp
            have c21_3_0 : w21.cell? ⟨w12.heap.size + 1, 0, none⟩ = some (.int .i64 (al)) := by go_simp
            have c21_3_1 : w21.cell? ⟨w12.heap.size + 1, 1, none⟩ = some (.int .i64 (ah)) := by go_simp
            have c21_4_0 : w21.cell? ⟨W0.heap.size, 0, none⟩ = some (.int .i64 (bl)) := by go_simp
            have c21_4_1 : w21.cell? ⟨W0.heap.size, 1, none⟩ = some (.int .i64 (bh)) := by go_simp
            clear hc21 hf21
            go_wp2_with fail
            refine (NX.out _).mono ?_
            rintro e w22 ⟨rfl, hb22⟩
            obtain ⟨hc22, hf22⟩ := bcell hb22
            have hz22 := hb22.size
            try simp only [World.size_alloc, World.size_setCell] at hz22
            try have : w.heap.size < w22.heap.size := by omega
            try have : w.heap.size ≤ w22.heap.size := by omega
            try have : w.heap.size + 1 < w22.heap.size := by omega
            try have : w.heap.size + 1 ≤ w22.heap.size := by omega
            try have : w12.heap.size < w22.heap.size := by omega
            try have : w12.heap.size ≤ w22.heap.size := by omega
            try have : w12.heap.size + 1 < w22.heap.size := by omega
            try have : w12.heap.size + 1 ≤ w22.heap.size := by omega
            try have : W0.heap.size < w22.heap.size := by omega
            try have : W0.heap.size ≤ w22.heap.size := by omega
            try have : w21.heap.size < w22.heap.size := by omega
            try have : w21.heap.size ≤ w22.heap.size := by omega
            have c22_0_0 : w22.cell? ⟨w.heap.size, 0, none⟩ = some (.int .i64 (al)) := by go_simp
            have c22_0_1 : w22.cell? ⟨w.heap.size, 1, none⟩ = some (.int .i64 (ah)) := by go_simp
            have c22_1_0 : w22.cell? ⟨w.heap.size + 1, 0, none⟩ = some (.int .i64 (bl)) := by go_simp
            have c22_1_1 : w22.cell? ⟨w.heap.size + 1, 1, none⟩ = some (.int .i64 (bh)) := by go_simp
            have c22_2_0 : w22.cell? ⟨w12.heap.size, 0, none⟩ = some (.int .i64 (pl)) := by go_simp
            have c22_2_1 : w22.cell? ⟨w12.heap.size, 1, none⟩ = some (.int .i64 (ph)) := by go_simp
            have c22_3_0 : w22.cell? ⟨w12.heap.size + 1, 0, none⟩ = some (.int .i64 (al)) := by go_simp
            have c22_3_1 : w22.cell? ⟨w12.heap.size + 1, 1, none⟩ = some (.int .i64 (ah)) := by go_simp
            have c22_4_0 : w22.cell? ⟨W0.heap.size, 0, none⟩ = some (.int .i64 (bl)) := by go_simp
            have c22_4_1 : w22.cell? ⟨W0.heap.size, 1, none⟩ = some (.int .i64 (bh)) := by go_simp
            have c22_5_0 : w22.cell? ⟨w21.heap.size, 0, none⟩ = some (.int .i64 (wH (z))) := by go_simp
            have c22_5_1 : w22.cell? ⟨w21.heap.size, 1, none⟩ = some (.int .u64 (wL (z))) := by go_simp
            clear hc22 hf22 c21_0_0 c21_0_1 c21_1_0 c21_1_1 c21_2_0 c21_2_1 c21_3_0 c21_3_1 c21_4_0 c21_4_1
            go_wp2_with fail
            refine (O1.out _).mono ?_
            rintro e w23 ⟨rfl, hb23⟩
            obtain ⟨hc23, hf23⟩ := bcell hb23
            have hz23 := hb23.size
            try simp only [World.size_alloc, World.size_setCell] at hz23
            try have : w.heap.size < w23.heap.size := by omega
            try have : w.heap.size ≤ w23.heap.size := by omega
            try have : w.heap.size + 1 < w23.heap.size := by omega
            try have : w.heap.size + 1 ≤ w23.heap.size := by omega
            try have : w12.heap.size < w23.heap.size := by omega
            try have : w12.heap.size ≤ w23.heap.size := by omega
            try have : w12.heap.size + 1 < w23.heap.size := by omega
            try have : w12.heap.size + 1 ≤ w23.heap.size := by omega
            try have : W0.heap.size < w23.heap.size := by omega
            try have : W0.heap.size ≤ w23.heap.size := by omega
            try have : w21.heap.size < w23.heap.size := by omega
            try have : w21.heap.size ≤ w23.heap.size := by omega
            have c23_0_0 : w23.cell? ⟨w.heap.size, 0, none⟩ = some (.int .i64 (al)) := by go_simp
            have c23_0_1 : w23.cell? ⟨w.heap.size, 1, none⟩ = some (.int .i64 (ah)) := by go_simp
            have c23_1_0 : w23.cell? ⟨w.heap.size + 1, 0, none⟩ = some (.int .i64 (bl)) := by go_simp
            have c23_1_1 : w23.cell? ⟨w.heap.size + 1, 1, none⟩ = some (.int .i64 (bh)) := by go_simp
            have c23_2_0 : w23.cell? ⟨w12.heap.size, 0, none⟩ = some (.int .i64 (pl)) := by go_simp
            have c23_2_1 : w23.cell? ⟨w12.heap.size, 1, none⟩ = some (.int .i64 (ph)) := by go_simp
            have c23_3_0 : w23.cell? ⟨w12.heap.size + 1, 0, none⟩ = some (.int .i64 (al)) := by go_simp
            have c23_3_1 : w23.cell? ⟨w12.heap.size + 1, 1, none⟩ = some (.int .i64 (ah)) := by go_simp
            have c23_4_0 : w23.cell? ⟨W0.heap.size, 0, none⟩ = some (.int .i64 (bl)) := by go_simp
            have c23_4_1 : w23.cell? ⟨W0.heap.size, 1, none⟩ = some (.int .i64 (bh)) := by go_simp
            have c23_5_0 : w23.cell? ⟨w21.heap.size, 0, none⟩ = some (.int .i64 (wH (z))) := by go_simp
            have c23_5_1 : w23.cell? ⟨w21.heap.size, 1, none⟩ = some (.int .u64 (wL (z))) := by go_simp
            clear hc23 hf23 c22_0_0 c22_0_1 c22_1_0 c22_1_1 c22_2_0 c22_2_1 c22_3_0 c22_3_1 c22_4_0 c22_4_1 c22_5_0 c22_5_1
            go_wp2_with fail
            refine (P1'.out _).mono ?_
            rintro e w24 ⟨rfl, hb24⟩
            obtain ⟨hc24, hf24⟩ := bcell hb24
            have hz24 := hb24.size
            try simp only [World.size_alloc, World.size_setCell] at hz24
            try have : w.heap.size < w24.heap.size := by omega
            try have : w.heap.size < w24.heap.size + 1 := by omega
            try have : w.heap.size ≤ w24.heap.size := by omega
            try have : w.heap.size + 1 < w24.heap.size := by omega
            try have : w.heap.size + 1 < w24.heap.size + 1 := by omega
            try have : w.heap.size + 1 ≤ w24.heap.size := by omega
            try have : w12.heap.size < w24.heap.size := by omega
            try have : w12.heap.size < w24.heap.size + 1 := by omega
            try have : w12.heap.size ≤ w24.heap.size := by omega
            try have : w12.heap.size + 1 < w24.heap.size := by omega
            try have : w12.heap.size + 1 < w24.heap.size + 1 := by omega
            try have : w12.heap.size + 1 ≤ w24.heap.size := by omega
            try have : W0.heap.size < w24.heap.size := by omega
            try have : W0.heap.size < w24.heap.size + 1 := by omega
            try have : W0.heap.size ≤ w24.heap.size := by omega
            try have : w21.heap.size < w24.heap.size := by omega
            try have : w21.heap.size < w24.heap.size + 1 := by omega
            try have : w21.heap.size ≤ w24.heap.size := by omega
            have c24_0_0 : w24.cell? ⟨w.heap.size, 0, none⟩ = some (.int .i64 (al)) := by go_simp
            have c24_0_1 : w24.cell? ⟨w.heap.size, 1, none⟩ = some (.int .i64 (ah)) := by go_simp
            have c24_1_0 : w24.cell? ⟨w.heap.size + 1, 0, none⟩ = some (.int .i64 (bl)) := by go_simp
            have c24_1_1 : w24.cell? ⟨w.heap.size + 1, 1, none⟩ = some (.int .i64 (bh)) := by go_simp
            have c24_2_0 : w24.cell? ⟨w12.heap.size, 0, none⟩ = some (.int .i64 (pl)) := by go_simp
            have c24_2_1 : w24.cell? ⟨w12.heap.size, 1, none⟩ = some (.int .i64 (ph)) := by go_simp
            have c24_3_0 : w24.cell? ⟨w12.heap.size + 1, 0, none⟩ = some (.int .i64 (al)) := by go_simp
            have c24_3_1 : w24.cell? ⟨w12.heap.size + 1, 1, none⟩ = some (.int .i64 (ah)) := by go_simp
            have c24_4_0 : w24.cell? ⟨W0.heap.size, 0, none⟩ = some (.int .i64 (bl)) := by go_simp
            have c24_4_1 : w24.cell? ⟨W0.heap.size, 1, none⟩ = some (.int .i64 (bh)) := by go_simp
            have c24_5_0 : w24.cell? ⟨w21.heap.size, 0, none⟩ = some (.int .i64 (wH (z))) := by go_simp
            have c24_5_1 : w24.cell? ⟨w21.heap.size, 1, none⟩ = some (.int .u64 (wL (z))) := by go_simp
            clear hc24 hf24 c23_0_0 c23_0_1 c23_1_0 c23_1_1 c23_2_0 c23_2_1 c23_3_0 c23_3_1 c23_4_0 c23_4_1 c23_5_0 c23_5_1
            go_wp2_with fail
            refine (LX.out _).mono ?_
            rintro e w25 ⟨rfl, hb25⟩
            obtain ⟨hc25, hf25⟩ := bcell hb25
            have hz25 := hb25.size
            try simp only [World.size_alloc, World.size_setCell] at hz25
            try have : w.heap.size < w25.heap.size := by omega
            try have : w.heap.size ≤ w25.heap.size := by omega
            try have : w.heap.size + 1 < w25.heap.size := by omega
            try have : w.heap.size + 1 ≤ w25.heap.size := by omega
            try have : w12.heap.size < w25.heap.size := by omega
            try have : w12.heap.size ≤ w25.heap.size := by omega
            try have : w12.heap.size + 1 < w25.heap.size := by omega
            try have : w12.heap.size + 1 ≤ w25.heap.size := by omega
            try have : W0.heap.size < w25.heap.size := by omega
            try have : W0.heap.size ≤ w25.heap.size := by omega
            try have : w21.heap.size < w25.heap.size := by omega
            try have : w21.heap.size ≤ w25.heap.size := by omega
            try have : w24.heap.size < w25.heap.size := by omega
            try have : w24.heap.size ≤ w25.heap.size := by omega
            have c25_0_0 : w25.cell? ⟨w.heap.size, 0, none⟩ = some (.int .i64 (al)) := by go_simp
            have c25_0_1 : w25.cell? ⟨w.heap.size, 1, none⟩ = some (.int .i64 (ah)) := by go_simp
            have c25_1_0 : w25.cell? ⟨w.heap.size + 1, 0, none⟩ = some (.int .i64 (bl)) := by go_simp
            have c25_1_1 : w25.cell? ⟨w.heap.size + 1, 1, none⟩ = some (.int .i64 (bh)) := by go_simp
            have c25_2_0 : w25.cell? ⟨w12.heap.size, 0, none⟩ = some (.int .i64 (pl)) := by go_simp
            have c25_2_1 : w25.cell? ⟨w12.heap.size, 1, none⟩ = some (.int .i64 (ph)) := by go_simp
            have c25_3_0 : w25.cell? ⟨w12.heap.size + 1, 0, none⟩ = some (.int .i64 (al)) := by go_simp
            have c25_3_1 : w25.cell? ⟨w12.heap.size + 1, 1, none⟩ = some (.int .i64 (ah)) := by go_simp
            have c25_4_0 : w25.cell? ⟨W0.heap.size, 0, none⟩ = some (.int .i64 (bl)) := by go_simp
            have c25_4_1 : w25.cell? ⟨W0.heap.size, 1, none⟩ = some (.int .i64 (bh)) := by go_simp
            have c25_5_0 : w25.cell? ⟨w21.heap.size, 0, none⟩ = some (.int .i64 (wH (z))) := by go_simp
            have c25_5_1 : w25.cell? ⟨w21.heap.size, 1, none⟩ = some (.int .u64 (wL (z))) := by go_simp
            have c25_6_0 : w25.cell? ⟨w24.heap.size, 0, none⟩ = some (.int .i64 (wH (nx))) := by go_simp
            have c25_6_1 : w25.cell? ⟨w24.heap.size, 1, none⟩ = some (.int .u64 (wL (nx))) := by go_simp
            clear hc25 hf25 c24_0_0 c24_0_1 c24_1_0 c24_1_1 c24_2_0 c24_2_1 c24_3_0 c24_3_1 c24_4_0 c24_4_1 c24_5_0 c24_5_1
            go_wp2_with fail
            refine (O2.out _).mono ?_
            rintro e w26 ⟨rfl, hb26⟩
            obtain ⟨hc26, hf26⟩ := bcell hb26
            have hz26 := hb26.size
            try simp only [World.size_alloc, World.size_setCell] at hz26
            try have : w.heap.size < w26.heap.size := by omega
            try have : w.heap.size ≤ w26.heap.size := by omega
            try have : w.heap.size + 1 < w26.heap.size := by omega
            try have : w.heap.size + 1 ≤ w26.heap.size := by omega
            try have : w12.heap.size < w26.heap.size := by omega
            try have : w12.heap.size ≤ w26.heap.size := by omega
            try have : w12.heap.size + 1 < w26.heap.size := by omega
            try have : w12.heap.size + 1 ≤ w26.heap.size := by omega
            try have : W0.heap.size < w26.heap.size := by omega
            try have : W0.heap.size ≤ w26.heap.size := by omega
            try have : w21.heap.size < w26.heap.size := by omega
            try have : w21.heap.size ≤ w26.heap.size := by omega
            try have : w24.heap.size < w26.heap.size := by omega
            try have : w24.heap.size ≤ w26.heap.size := by omega
            have c26_0_0 : w26.cell? ⟨w.heap.size, 0, none⟩ = some (.int .i64 (al)) := by go_simp
            have c26_0_1 : w26.cell? ⟨w.heap.size, 1, none⟩ = some (.int .i64 (ah)) := by go_simp
            have c26_1_0 : w26.cell? ⟨w.heap.size + 1, 0, none⟩ = some (.int .i64 (bl)) := by go_simp
            have c26_1_1 : w26.cell? ⟨w.heap.size + 1, 1, none⟩ = some (.int .i64 (bh)) := by go_simp
            have c26_2_0 : w26.cell? ⟨w12.heap.size, 0, none⟩ = some (.int .i64 (pl)) := by go_simp
            have c26_2_1 : w26.cell? ⟨w12.heap.size, 1, none⟩ = some (.int .i64 (ph)) := by go_simp
            have c26_3_0 : w26.cell? ⟨w12.heap.size + 1, 0, none⟩ = some (.int .i64 (al)) := by go_simp
            have c26_3_1 : w26.cell? ⟨w12.heap.size + 1, 1, none⟩ = some (.int .i64 (ah)) := by go_simp
            have c26_4_0 : w26.cell? ⟨W0.heap.size, 0, none⟩ = some (.int .i64 (bl)) := by go_simp
            have c26_4_1 : w26.cell? ⟨W0.heap.size, 1, none⟩ = some (.int .i64 (bh)) := by go_simp
            have c26_5_0 : w26.cell? ⟨w21.heap.size, 0, none⟩ = some (.int .i64 (wH (z))) := by go_simp
            have c26_5_1 : w26.cell? ⟨w21.heap.size, 1, none⟩ = some (.int .u64 (wL (z))) := by go_simp
            have c26_6_0 : w26.cell? ⟨w24.heap.size, 0, none⟩ = some (.int .i64 (wH (nx))) := by go_simp
            have c26_6_1 : w26.cell? ⟨w24.heap.size, 1, none⟩ = some (.int .u64 (wL (nx))) := by go_simp
            clear hc26 hf26 c25_0_0 c25_0_1 c25_1_0 c25_1_1 c25_2_0 c25_2_1 c25_3_0 c25_3_1 c25_4_0 c25_4_1 c25_5_0 c25_5_1 c25_6_0 c25_6_1
            go_wp2_with fail
            refine (P2'.out _).mono ?_
            rintro e w27 ⟨rfl, hb27⟩
            obtain ⟨hc27, hf27⟩ := bcell hb27
            have hz27 := hb27.size
            try simp only [World.size_alloc, World.size_setCell] at hz27
            try have : w.heap.size < w27.heap.size := by omega
            try have : w.heap.size < w27.heap.size + 1 := by omega
            try have : w.heap.size ≤ w27.heap.size := by omega
            try have : w.heap.size + 1 < w27.heap.size := by omega
            try have : w.heap.size + 1 < w27.heap.size + 1 := by omega
            try have : w.heap.size + 1 ≤ w27.heap.size := by omega
            try have : w12.heap.size < w27.heap.size := by omega
            try have : w12.heap.size < w27.heap.size + 1 := by omega
            try have : w12.heap.size ≤ w27.heap.size := by omega
            try have : w12.heap.size + 1 < w27.heap.size := by omega
            try have : w12.heap.size + 1 < w27.heap.size + 1 := by omega
            try have : w12.heap.size + 1 ≤ w27.heap.size := by omega
            try have : W0.heap.size < w27.heap.size := by omega
            try have : W0.heap.size < w27.heap.size + 1 := by omega
            try have : W0.heap.size ≤ w27.heap.size := by omega
            try have : w21.heap.size < w27.heap.size := by omega
            try have : w21.heap.size < w27.heap.size + 1 := by omega
            try have : w21.heap.size ≤ w27.heap.size := by omega
            try have : w24.heap.size < w27.heap.size := by omega
            try have : w24.heap.size < w27.heap.size + 1 := by omega
            try have : w24.heap.size ≤ w27.heap.size := by omega
            have c27_0_0 : w27.cell? ⟨w.heap.size, 0, none⟩ = some (.int .i64 (al)) := by go_simp
            have c27_0_1 : w27.cell? ⟨w.heap.size, 1, none⟩ = some (.int .i64 (ah)) := by go_simp
            have c27_1_0 : w27.cell? ⟨w.heap.size + 1, 0, none⟩ = some (.int .i64 (bl)) := by go_simp
            have c27_1_1 : w27.cell? ⟨w.heap.size + 1, 1, none⟩ = some (.int .i64 (bh)) := by go_simp
            have c27_2_0 : w27.cell? ⟨w12.heap.size, 0, none⟩ = some (.int .i64 (pl)) := by go_simp
            have c27_2_1 : w27.cell? ⟨w12.heap.size, 1, none⟩ = some (.int .i64 (ph)) := by go_simp
            have c27_3_0 : w27.cell? ⟨w12.heap.size + 1, 0, none⟩ = some (.int .i64 (al)) := by go_simp
            have c27_3_1 : w27.cell? ⟨w12.heap.size + 1, 1, none⟩ = some (.int .i64 (ah)) := by go_simp
            have c27_4_0 : w27.cell? ⟨W0.heap.size, 0, none⟩ = some (.int .i64 (bl)) := by go_simp
            have c27_4_1 : w27.cell? ⟨W0.heap.size, 1, none⟩ = some (.int .i64 (bh)) := by go_simp
            have c27_5_0 : w27.cell? ⟨w21.heap.size, 0, none⟩ = some (.int .i64 (wH (z))) := by go_simp
            have c27_5_1 : w27.cell? ⟨w21.heap.size, 1, none⟩ = some (.int .u64 (wL (z))) := by go_simp
            have c27_6_0 : w27.cell? ⟨w24.heap.size, 0, none⟩ = some (.int .i64 (wH (nx))) := by go_simp
            have c27_6_1 : w27.cell? ⟨w24.heap.size, 1, none⟩ = some (.int .u64 (wL (nx))) := by go_simp
            clear hc27 hf27 c26_0_0 c26_0_1 c26_1_0 c26_1_1 c26_2_0 c26_2_1 c26_3_0 c26_3_1 c26_4_0 c26_4_1 c26_5_0 c26_5_1 c26_6_0 c26_6_1
            go_wp2
            go_roundw
            case rel =>
              refine ⟨j + 1, by omega, by go_num, by rw [FN.out]; rfl, by rw [GN.out]; rfl, ⟨by first | omega | (simp <;> omega), by first | omega | (simp <;> omega), by first | omega | (simp <;> omega), by first | omega | (simp <;> omega), by first | omega | (simp <;> omega), by go_simp, by go_simp, by go_simp, by go_simp, by go_simp, by go_simp, ?_, ?_, (by repeat (first | with_reducible exact Below.refl _ _ | with_reducible refine bdrew ?_ | ((with_reducible first | refine bset ?_ ?_ | refine ball ?_ ?_ | refine bth (by assumption) ?_ ?_); first | omega | (simp <;> omega))))⟩⟩
              · intro k hk
                match k, hk with
                | 0, _ => go_simp; rfl
                | 1, _ => go_simp; rfl
              · intro k hk
                match k, hk with
                | 0, _ => go_simp; rfl
                | 1, _ => go_simp; rfl
            case measure => simp [intOf]; omega
        · obtain rfl : j = 2 := by omega
          go_wp2
          go_roundw
          case rel => exact ⟨i + 1, by omega, by go_num, by rw [show 2 * (i + 1) = 2 * i + 2 by omega], by rw [show 2 * (i + 1) = 2 * i + 2 by omega], ⟨q1, q2, q3, q4, d0, d1, h0, h1, r0, r1, k1, hbel2⟩⟩
          case measure => simp [intOf]; omega
    · obtain rfl : i = 2 := by omega
      have f4 : anyB f 4 = true := HF.out
      have g4 : anyB g 4 = true := HG.out
      have f4' : anyB f (2 * 2) = true := HF.out
      have g4' : anyB g (2 * 2) = true := HG.out
      clear e hE
      by_cases ca : ah < 0
      · have SR := hide (fun W => SRO ca W)
        have g5 : decide (ah < 0) = true := decide_eq_true ca
        clear hb11 hb12
        go_wp2_with fail
        go_wp2_with fail
        refine (SR.out _).mono ?_
        rintro e w31 ⟨rfl, hb31⟩
        obtain ⟨hc31, hf31⟩ := bcell hb31
        have hz31 := hb31.size
        try simp only [World.size_alloc, World.size_setCell] at hz31
        try have : w.heap.size < w31.heap.size := by omega
        try have : w.heap.size ≤ w31.heap.size := by omega
        try have : w.heap.size + 1 < w31.heap.size := by omega
        try have : w.heap.size + 1 ≤ w31.heap.size := by omega
        have c31_0_0 : w31.cell? ⟨w.heap.size, 0, none⟩ = some (.int .i64 (al)) := by go_simp
        have c31_0_1 : w31.cell? ⟨w.heap.size, 1, none⟩ = some (.int .i64 (ah)) := by go_simp
        clear hc31 hf31
        go_wp2
        go_ret
        exact ⟨rfl, (by repeat (first | with_reducible exact Below.refl _ _ | with_reducible refine bdrew ?_ | ((with_reducible first | refine bset ?_ ?_ | refine ball ?_ ?_ | refine bth (by assumption) ?_ ?_); first | omega | (simp <;> omega))))⟩
      · have SR := SRP (by omega)
        obtain ⟨mv, hmv⟩ : ∃ v, v = mx al 0 := ⟨_, rfl⟩
        have m0 : 0 ≤ mv ∧ mv ≤ 9223372036854775807 := by obtain ⟨_, _⟩ := i0; rw [hmv]; unfold mx; split <;> omega
        have emx : max al 0 = mv := by rw [hmv]; unfold mx; split <;> omega
        have a9 : 0 ≤ ah ∧ ah ≤ 9223372036854775807 := by obtain ⟨_, _⟩ := j0; omega
        rw [← hmv] at SR
        have l0 := (rt_spec m0.1).1
        have l1 := rt_bd m0.1 m0.2
        have l2 := rootL_tight m0.1
        have l3 := rt_bd a9.1 a9.2
        have l4 := bI_bd (rtR ah)
        have l5 := (rt_spec a9.1).1
        have l6 : rtH ah = rtL ah + bI (rtR ah) := rfl
        have l7 := fun hz => rootH_tight (x := ah) a9.1 hz
        have l8 : 0 ≤ rtH ah ∧ rtH ah < 281474976710657 := by omega
        clear l3 l4 l5 l6 hmv
        generalize rtL mv = rl at *
        generalize rtH ah = rh at *
        have SR' := hide SR
        have OM := hide (fun W => rof mv ⟨by omega, by omega⟩ W)
        have OA := hide (fun W => rof ah ⟨by omega, by omega⟩ W)
        have UM := hide (fun W => rup32 mv ⟨by omega, by omega⟩ W)
        have UA := hide (fun W => rup32 ah ⟨by omega, by omega⟩ W)
        have e1 : wrap64 (rl + 1) = rl + 1 := by unfold wrap64; omega
        have e2 : wrap64 (rh - 1) = rh - 1 := by unfold wrap64; omega
        have TT := hide (fun W => rtimes (rl + 1) (rl + 1) ⟨by omega, by omega⟩ ⟨by omega, by omega⟩ W)
        have TU := hide (fun W => rtimes (rh - 1) (rh - 1) ⟨by omega, by omega⟩ ⟨by omega, by omega⟩ W)
        have LL := hide (fun W => rless_r (mv * 4294967296) ((rl + 1) * (rl + 1)) true (decide_eq_true l2) W)
        have LU : Hid (¬ rh = 0 → ∀ W, Calls Tryd.prog 14 #[.agg #[.int .i64 (wH ((rh - 1) * (rh - 1))), .int .u64 (wL ((rh - 1) * (rh - 1)))], .agg #[.int .i64 (wH (ah * 4294967296)), .int .u64 (wL (ah * 4294967296))]] W fun e w' => e = .returned (.bool true) ∧ Below W.heap.size W w') := hide (fun hz W => rless_r _ _ true (decide_eq_true (l7 hz)) W)
        have g5 : decide (ah < 0) = false := decide_eq_false (by omega)
        generalize (rl + 1) * (rl + 1) = z1 at *
        generalize (rh - 1) * (rh - 1) = z2 at *
        generalize mv * 4294967296 = z3 at *
        generalize ah * 4294967296 = z4 at *
        clear SR SRO SRP l0 l1 l2 l7 l8 m0 a9 hb11 hb12 i0 j0 i1 j1 i2 j2
        by_cases hz : rh = 0
        · subst hz
          go_wp2_with fail
          go_wp2_with fail
          refine (SR'.out _).mono ?_
          rintro e w31 ⟨rfl, hb31⟩
          obtain ⟨hc31, hf31⟩ := bcell hb31
          have hz31 := hb31.size
          try simp only [World.size_alloc, World.size_setCell] at hz31
          try have : w.heap.size < w31.heap.size := by omega
          try have : w.heap.size < w31.heap.size + 1 := by omega
          try have : w.heap.size ≤ w31.heap.size := by omega
          try have : w.heap.size + 1 < w31.heap.size := by omega
          try have : w.heap.size + 1 < w31.heap.size + 1 := by omega
          try have : w.heap.size + 1 ≤ w31.heap.size := by omega
          have c31_0_0 : w31.cell? ⟨w.heap.size, 0, none⟩ = some (.int .i64 (al)) := by go_simp
          have c31_0_1 : w31.cell? ⟨w.heap.size, 1, none⟩ = some (.int .i64 (ah)) := by go_simp
          clear hc31 hf31
          go_wp2_with fail
          refine (OM.out _).mono ?_
          rintro e w32 ⟨rfl, hb32⟩
          obtain ⟨hc32, hf32⟩ := bcell hb32
          have hz32 := hb32.size
          try simp only [World.size_alloc, World.size_setCell] at hz32
          try have : w.heap.size < w32.heap.size := by omega
          try have : w.heap.size ≤ w32.heap.size := by omega
          try have : w.heap.size + 1 < w32.heap.size := by omega
          try have : w.heap.size + 1 ≤ w32.heap.size := by omega
          try have : w31.heap.size < w32.heap.size := by omega
          try have : w31.heap.size ≤ w32.heap.size := by omega
          have c32_0_0 : w32.cell? ⟨w.heap.size, 0, none⟩ = some (.int .i64 (al)) := by go_simp
          have c32_0_1 : w32.cell? ⟨w.heap.size, 1, none⟩ = some (.int .i64 (ah)) := by go_simp
          have c32_1_0 : w32.cell? ⟨w31.heap.size, 0, none⟩ = some (.int .i64 (rl)) := by go_simp
          have c32_1_1 : w32.cell? ⟨w31.heap.size, 1, none⟩ = some (.int .i64 (0)) := by go_simp
          clear hc32 hf32 c31_0_0 c31_0_1
          go_wp2_with fail
          refine (UM.out _).mono ?_
          rintro e w33 ⟨rfl, hb33⟩
          obtain ⟨hc33, hf33⟩ := bcell hb33
          have hz33 := hb33.size
          try simp only [World.size_alloc, World.size_setCell] at hz33
          try have : w.heap.size < w33.heap.size := by omega
          try have : w.heap.size < w33.heap.size + 1 := by omega
          try have : w.heap.size ≤ w33.heap.size := by omega
          try have : w.heap.size + 1 < w33.heap.size := by omega
          try have : w.heap.size + 1 < w33.heap.size + 1 := by omega
          try have : w.heap.size + 1 ≤ w33.heap.size := by omega
          try have : w31.heap.size < w33.heap.size := by omega
          try have : w31.heap.size < w33.heap.size + 1 := by omega
          try have : w31.heap.size ≤ w33.heap.size := by omega
          have c33_0_0 : w33.cell? ⟨w.heap.size, 0, none⟩ = some (.int .i64 (al)) := by go_simp
          have c33_0_1 : w33.cell? ⟨w.heap.size, 1, none⟩ = some (.int .i64 (ah)) := by go_simp
          have c33_1_0 : w33.cell? ⟨w31.heap.size, 0, none⟩ = some (.int .i64 (rl)) := by go_simp
          have c33_1_1 : w33.cell? ⟨w31.heap.size, 1, none⟩ = some (.int .i64 (0)) := by go_simp
          clear hc33 hf33 c32_0_0 c32_0_1 c32_1_0 c32_1_1
          go_wp2_with fail
          refine (OA.out _).mono ?_
          rintro e w34 ⟨rfl, hb34⟩
          obtain ⟨hc34, hf34⟩ := bcell hb34
          have hz34 := hb34.size
          try simp only [World.size_alloc, World.size_setCell] at hz34
          try have : w.heap.size < w34.heap.size := by omega
          try have : w.heap.size ≤ w34.heap.size := by omega
          try have : w.heap.size + 1 < w34.heap.size := by omega
          try have : w.heap.size + 1 ≤ w34.heap.size := by omega
          try have : w31.heap.size < w34.heap.size := by omega
          try have : w31.heap.size ≤ w34.heap.size := by omega
          try have : w33.heap.size < w34.heap.size := by omega
          try have : w33.heap.size ≤ w34.heap.size := by omega
          have c34_0_0 : w34.cell? ⟨w.heap.size, 0, none⟩ = some (.int .i64 (al)) := by go_simp
          have c34_0_1 : w34.cell? ⟨w.heap.size, 1, none⟩ = some (.int .i64 (ah)) := by go_simp
          have c34_1_0 : w34.cell? ⟨w31.heap.size, 0, none⟩ = some (.int .i64 (rl)) := by go_simp
          have c34_1_1 : w34.cell? ⟨w31.heap.size, 1, none⟩ = some (.int .i64 (0)) := by go_simp
          have c34_2_0 : w34.cell? ⟨w33.heap.size, 0, none⟩ = some (.int .i64 (wH (z3))) := by go_simp
          have c34_2_1 : w34.cell? ⟨w33.heap.size, 1, none⟩ = some (.int .u64 (wL (z3))) := by go_simp
          clear hc34 hf34 c33_0_0 c33_0_1 c33_1_0 c33_1_1
          go_wp2_with fail
          refine (UA.out _).mono ?_
          rintro e w35 ⟨rfl, hb35⟩
          obtain ⟨hc35, hf35⟩ := bcell hb35
          have hz35 := hb35.size
          try simp only [World.size_alloc, World.size_setCell] at hz35
          try have : w.heap.size < w35.heap.size := by omega
          try have : w.heap.size < w35.heap.size + 1 := by omega
          try have : w.heap.size ≤ w35.heap.size := by omega
          try have : w.heap.size + 1 < w35.heap.size := by omega
          try have : w.heap.size + 1 < w35.heap.size + 1 := by omega
          try have : w.heap.size + 1 ≤ w35.heap.size := by omega
          try have : w31.heap.size < w35.heap.size := by omega
          try have : w31.heap.size < w35.heap.size + 1 := by omega
          try have : w31.heap.size ≤ w35.heap.size := by omega
          try have : w33.heap.size < w35.heap.size := by omega
          try have : w33.heap.size < w35.heap.size + 1 := by omega
          try have : w33.heap.size ≤ w35.heap.size := by omega
          have c35_0_0 : w35.cell? ⟨w.heap.size, 0, none⟩ = some (.int .i64 (al)) := by go_simp
          have c35_0_1 : w35.cell? ⟨w.heap.size, 1, none⟩ = some (.int .i64 (ah)) := by go_simp
          have c35_1_0 : w35.cell? ⟨w31.heap.size, 0, none⟩ = some (.int .i64 (rl)) := by go_simp
          have c35_1_1 : w35.cell? ⟨w31.heap.size, 1, none⟩ = some (.int .i64 (0)) := by go_simp
          have c35_2_0 : w35.cell? ⟨w33.heap.size, 0, none⟩ = some (.int .i64 (wH (z3))) := by go_simp
          have c35_2_1 : w35.cell? ⟨w33.heap.size, 1, none⟩ = some (.int .u64 (wL (z3))) := by go_simp
          clear hc35 hf35 c34_0_0 c34_0_1 c34_1_0 c34_1_1 c34_2_0 c34_2_1
          go_wp2_with fail
          refine QT.quiet_b (by kernel_rfl) (by kernel_rfl) ?_
          repeat (first
            | go_big_quiet_skip
            | (go_big_quiet_want; go_big_quiet_op; first
              | go_big_quiet_on
              | (apply Exists.intro
                 refine ⟨fun _ => ?_, ?_⟩
                 · first
                     | rfl
                     | (intro hC; obtain ⟨hcq, hfq⟩ := bcellB hC; go_simp; done)
                     | (intro hC; obtain ⟨hcq, hfq⟩ := bcellB hC; go_simp; rfl)
                     | (intro hC; have hcq := bcellG hC; go_simp; done)
                     | (intro hC; have hcq := bcellG hC; go_simp; rfl)
                     | (intro hC; go_at_call 11; (first | (with_reducible refine (TT.out _).mono ?_)); (intro e w2 hw; exact ⟨hw.1, qtrans (by simp) hC hw.2⟩))
                     | (intro hC; go_at_call 14; (first | (with_reducible refine (LL.out _).mono ?_)); (intro e w2 hw; exact ⟨hw.1, qtrans (by simp) hC hw.2⟩))
                 go_big_quiet_on)))
          refine wpQuiet_nil ?_
          intro w9 hC9
          obtain ⟨hc9, hf9⟩ := bcellB hC9
          have hz9 := hC9.size
          go_wp2_with fail
          try simp only [World.size_alloc, World.size_setCell] at hz9
          have y4 : w31.heap.size < w9.heap.size := by omega
          refine QT.quiet_b (by kernel_rfl) (by kernel_rfl) ?_
          repeat (first
            | go_big_quiet_skip
            | (go_big_quiet_want; go_big_quiet_op; first
              | go_big_quiet_on
              | (apply Exists.intro
                 refine ⟨fun _ => ?_, ?_⟩
                 · first
                     | rfl
                     | (intro hC; obtain ⟨hcq, hfq⟩ := bcellB hC; go_simp; done)
                     | (intro hC; obtain ⟨hcq, hfq⟩ := bcellB hC; go_simp; rfl)
                     | (intro hC; have hcq := bcellG hC; go_simp; done)
                     | (intro hC; have hcq := bcellG hC; go_simp; rfl)
                 go_big_quiet_on)))
          refine wpQuiet_nil ?_
          intro w9 hC9
          obtain ⟨hc9, hf9⟩ := bcellB hC9
          have hz9 := hC9.size
          go_wp2
          go_ret
          exact ⟨rfl, (by repeat (first | with_reducible exact Below.refl _ _ | with_reducible refine bdrew ?_ | ((with_reducible first | refine bset ?_ ?_ | refine ball ?_ ?_ | refine bth (by assumption) ?_ ?_); first | omega | (simp <;> omega))))⟩
        · have LV := hide (LU.out hz)
          have g6 : (rh == 0) = false := beq_eq_false_iff_ne.2 hz
          clear LU
          go_wp2_with fail
          go_wp2_with fail
          refine (SR'.out _).mono ?_
          rintro e w31 ⟨rfl, hb31⟩
          obtain ⟨hc31, hf31⟩ := bcell hb31
          have hz31 := hb31.size
          try simp only [World.size_alloc, World.size_setCell] at hz31
          try have : w.heap.size < w31.heap.size := by omega
          try have : w.heap.size < w31.heap.size + 1 := by omega
          try have : w.heap.size ≤ w31.heap.size := by omega
          try have : w.heap.size + 1 < w31.heap.size := by omega
          try have : w.heap.size + 1 < w31.heap.size + 1 := by omega
          try have : w.heap.size + 1 ≤ w31.heap.size := by omega
          have c31_0_0 : w31.cell? ⟨w.heap.size, 0, none⟩ = some (.int .i64 (al)) := by go_simp
          have c31_0_1 : w31.cell? ⟨w.heap.size, 1, none⟩ = some (.int .i64 (ah)) := by go_simp
          clear hc31 hf31
          go_wp2_with fail
          refine (OM.out _).mono ?_
          rintro e w32 ⟨rfl, hb32⟩
          obtain ⟨hc32, hf32⟩ := bcell hb32
          have hz32 := hb32.size
          try simp only [World.size_alloc, World.size_setCell] at hz32
          try have : w.heap.size < w32.heap.size := by omega
          try have : w.heap.size ≤ w32.heap.size := by omega
          try have : w.heap.size + 1 < w32.heap.size := by omega
          try have : w.heap.size + 1 ≤ w32.heap.size := by omega
          try have : w31.heap.size < w32.heap.size := by omega
          try have : w31.heap.size ≤ w32.heap.size := by omega
          have c32_0_0 : w32.cell? ⟨w.heap.size, 0, none⟩ = some (.int .i64 (al)) := by go_simp
          have c32_0_1 : w32.cell? ⟨w.heap.size, 1, none⟩ = some (.int .i64 (ah)) := by go_simp
          have c32_1_0 : w32.cell? ⟨w31.heap.size, 0, none⟩ = some (.int .i64 (rl)) := by go_simp
          have c32_1_1 : w32.cell? ⟨w31.heap.size, 1, none⟩ = some (.int .i64 (rh)) := by go_simp
          clear hc32 hf32 c31_0_0 c31_0_1
          go_wp2_with fail
          refine (UM.out _).mono ?_
          rintro e w33 ⟨rfl, hb33⟩
          obtain ⟨hc33, hf33⟩ := bcell hb33
          have hz33 := hb33.size
          try simp only [World.size_alloc, World.size_setCell] at hz33
          try have : w.heap.size < w33.heap.size := by omega
          try have : w.heap.size < w33.heap.size + 1 := by omega
          try have : w.heap.size ≤ w33.heap.size := by omega
          try have : w.heap.size + 1 < w33.heap.size := by omega
          try have : w.heap.size + 1 < w33.heap.size + 1 := by omega
          try have : w.heap.size + 1 ≤ w33.heap.size := by omega
          try have : w31.heap.size < w33.heap.size := by omega
          try have : w31.heap.size < w33.heap.size + 1 := by omega
          try have : w31.heap.size ≤ w33.heap.size := by omega
          have c33_0_0 : w33.cell? ⟨w.heap.size, 0, none⟩ = some (.int .i64 (al)) := by go_simp
          have c33_0_1 : w33.cell? ⟨w.heap.size, 1, none⟩ = some (.int .i64 (ah)) := by go_simp
          have c33_1_0 : w33.cell? ⟨w31.heap.size, 0, none⟩ = some (.int .i64 (rl)) := by go_simp
          have c33_1_1 : w33.cell? ⟨w31.heap.size, 1, none⟩ = some (.int .i64 (rh)) := by go_simp
          clear hc33 hf33 c32_0_0 c32_0_1 c32_1_0 c32_1_1
          go_wp2_with fail
          refine (OA.out _).mono ?_
          rintro e w34 ⟨rfl, hb34⟩
          obtain ⟨hc34, hf34⟩ := bcell hb34
          have hz34 := hb34.size
          try simp only [World.size_alloc, World.size_setCell] at hz34
          try have : w.heap.size < w34.heap.size := by omega
          try have : w.heap.size ≤ w34.heap.size := by omega
          try have : w.heap.size + 1 < w34.heap.size := by omega
          try have : w.heap.size + 1 ≤ w34.heap.size := by omega
          try have : w31.heap.size < w34.heap.size := by omega
          try have : w31.heap.size ≤ w34.heap.size := by omega
          try have : w33.heap.size < w34.heap.size := by omega
          try have : w33.heap.size ≤ w34.heap.size := by omega
          have c34_0_0 : w34.cell? ⟨w.heap.size, 0, none⟩ = some (.int .i64 (al)) := by go_simp
          have c34_0_1 : w34.cell? ⟨w.heap.size, 1, none⟩ = some (.int .i64 (ah)) := by go_simp
          have c34_1_0 : w34.cell? ⟨w31.heap.size, 0, none⟩ = some (.int .i64 (rl)) := by go_simp
          have c34_1_1 : w34.cell? ⟨w31.heap.size, 1, none⟩ = some (.int .i64 (rh)) := by go_simp
          have c34_2_0 : w34.cell? ⟨w33.heap.size, 0, none⟩ = some (.int .i64 (wH (z3))) := by go_simp
          have c34_2_1 : w34.cell? ⟨w33.heap.size, 1, none⟩ = some (.int .u64 (wL (z3))) := by go_simp
          clear hc34 hf34 c33_0_0 c33_0_1 c33_1_0 c33_1_1
          go_wp2_with fail
          refine (UA.out _).mono ?_
          rintro e w35 ⟨rfl, hb35⟩
          obtain ⟨hc35, hf35⟩ := bcell hb35
          have hz35 := hb35.size
          try simp only [World.size_alloc, World.size_setCell] at hz35
          try have : w.heap.size < w35.heap.size := by omega
          try have : w.heap.size < w35.heap.size + 1 := by omega
          try have : w.heap.size ≤ w35.heap.size := by omega
          try have : w.heap.size + 1 < w35.heap.size := by omega
          try have : w.heap.size + 1 < w35.heap.size + 1 := by omega
          try have : w.heap.size + 1 ≤ w35.heap.size := by omega
          try have : w31.heap.size < w35.heap.size := by omega
          try have : w31.heap.size < w35.heap.size + 1 := by omega
          try have : w31.heap.size ≤ w35.heap.size := by omega
          try have : w33.heap.size < w35.heap.size := by omega
          try have : w33.heap.size < w35.heap.size + 1 := by omega
          try have : w33.heap.size ≤ w35.heap.size := by omega
          have c35_0_0 : w35.cell? ⟨w.heap.size, 0, none⟩ = some (.int .i64 (al)) := by go_simp
          have c35_0_1 : w35.cell? ⟨w.heap.size, 1, none⟩ = some (.int .i64 (ah)) := by go_simp
          have c35_1_0 : w35.cell? ⟨w31.heap.size, 0, none⟩ = some (.int .i64 (rl)) := by go_simp
          have c35_1_1 : w35.cell? ⟨w31.heap.size, 1, none⟩ = some (.int .i64 (rh)) := by go_simp
          have c35_2_0 : w35.cell? ⟨w33.heap.size, 0, none⟩ = some (.int .i64 (wH (z3))) := by go_simp
          have c35_2_1 : w35.cell? ⟨w33.heap.size, 1, none⟩ = some (.int .u64 (wL (z3))) := by go_simp
          clear hc35 hf35 c34_0_0 c34_0_1 c34_1_0 c34_1_1 c34_2_0 c34_2_1
          go_wp2_with fail
          refine QT.quiet_b (by kernel_rfl) (by kernel_rfl) ?_
          repeat (first
            | go_big_quiet_skip
            | (go_big_quiet_want; go_big_quiet_op; first
              | go_big_quiet_on
              | (apply Exists.intro
                 refine ⟨fun _ => ?_, ?_⟩
                 · first
                     | rfl
                     | (intro hC; obtain ⟨hcq, hfq⟩ := bcellB hC; go_simp; done)
                     | (intro hC; obtain ⟨hcq, hfq⟩ := bcellB hC; go_simp; rfl)
                     | (intro hC; have hcq := bcellG hC; go_simp; done)
                     | (intro hC; have hcq := bcellG hC; go_simp; rfl)
                     | (intro hC; go_at_call 11; (first | (with_reducible refine (TT.out _).mono ?_)); (intro e w2 hw; exact ⟨hw.1, qtrans (by simp) hC hw.2⟩))
                     | (intro hC; go_at_call 14; (first | (with_reducible refine (LL.out _).mono ?_)); (intro e w2 hw; exact ⟨hw.1, qtrans (by simp) hC hw.2⟩))
                 go_big_quiet_on)))
          refine wpQuiet_nil ?_
          intro w9 hC9
          obtain ⟨hc9, hf9⟩ := bcellB hC9
          have hz9 := hC9.size
          go_wp2_with fail
          try simp only [World.size_alloc, World.size_setCell] at hz9
          have y4 : w31.heap.size < w9.heap.size := by omega
          have y5 : w35.heap.size < w9.heap.size := by omega
          refine QT.quiet_b (by kernel_rfl) (by kernel_rfl) ?_
          repeat (first
            | go_big_quiet_skip
            | (go_big_quiet_want; go_big_quiet_op; first
              | go_big_quiet_on
              | (apply Exists.intro
                 refine ⟨fun _ => ?_, ?_⟩
                 · first
                     | rfl
                     | (intro hC; obtain ⟨hcq, hfq⟩ := bcellB hC; go_simp; done)
                     | (intro hC; obtain ⟨hcq, hfq⟩ := bcellB hC; go_simp; rfl)
                     | (intro hC; have hcq := bcellG hC; go_simp; done)
                     | (intro hC; have hcq := bcellG hC; go_simp; rfl)
                     | (intro hC; go_at_call 11; (first | (with_reducible refine (TU.out _).mono ?_)); (intro e w2 hw; exact ⟨hw.1, qtrans (by simp) hC hw.2⟩))
                     | (intro hC; go_at_call 14; (first | (with_reducible refine (LV.out _).mono ?_)); (intro e w2 hw; exact ⟨hw.1, qtrans (by simp) hC hw.2⟩))
                 go_big_quiet_on)))
          refine wpQuiet_nil ?_
          intro w9 hC9
          obtain ⟨hc9, hf9⟩ := bcellB hC9
          have hz9 := hC9.size
          go_wp2
          go_ret
          exact ⟨rfl, (by repeat (first | with_reducible exact Below.refl _ _ | with_reducible refine bdrew ?_ | ((with_reducible first | refine bset ?_ ?_ | refine ball ?_ ?_ | refine bth (by assumption) ?_ ?_); first | omega | (simp <;> omega))))⟩
end lawSpanTight
end Go.Proofs.YtbfbnmmgmkbieabDoor
