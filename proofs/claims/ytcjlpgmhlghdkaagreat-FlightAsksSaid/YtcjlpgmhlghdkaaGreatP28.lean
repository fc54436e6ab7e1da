/- Packed: AkD AkE AkR AkP AkLt. -/
import Derived.Test.YtcjlpgmhlghdkaaGreatP5
import Derived.Test.YtcjlpgmhlghdkaaGreatP25
import Derived.Test.YtcjlpgmhlghdkaaGreatP27
set_option linter.unusedVariables false
set_option linter.unusedSimpArgs false
namespace Go.Proofs.YtcjlpgmhlghdkaaGreat
section
set_option maxRecDepth 1000000
open Go.RowKit
namespace SX
noncomputable def stepD (s : FD.Sp) (x : FP.Pr) : FD.Sp × Int :=
 if v0 3 [x.a.lo, x.a.hi, x.b.lo, x.b.hi] 2 = 0 then
  if v0 1 [s.lo, s.hi, v0 3 [x.a.lo, x.a.hi, x.b.lo, x.b.hi] 0, v0 3 [x.a.lo, x.a.hi, x.b.lo, x.b.hi] 1] 2 = 0 then (⟨v0 1 [s.lo, s.hi, v0 3 [x.a.lo, x.a.hi, x.b.lo, x.b.hi] 0, v0 3 [x.a.lo, x.a.hi, x.b.lo, x.b.hi] 1] 0, v0 1 [s.lo, s.hi, v0 3 [x.a.lo, x.a.hi, x.b.lo, x.b.hi] 0, v0 3 [x.a.lo, x.a.hi, x.b.lo, x.b.hi] 1] 1, v0_R64 _ _ _, v0_R64 _ _ _⟩, 0)
  else (.zero, v0 1 [s.lo, s.hi, v0 3 [x.a.lo, x.a.hi, x.b.lo, x.b.hi] 0, v0 3 [x.a.lo, x.a.hi, x.b.lo, x.b.hi] 1] 2)
 else (.zero, v0 3 [x.a.lo, x.a.hi, x.b.lo, x.b.hi] 2)
def patSD : List LV := [.v (.agg [.a (.int .i64 (.var 0)), .a (.int .i64 (.var 1))]), .v (.agg [.a (.int .i64 (.var 2)), .a (.int .i64 (.var 3)), .a (.int .i64 (.var 4)), .a (.int .i64 (.var 5))])]
theorem stepDB : readB Tryz.prog S00 shp0 KF 3000 (2^240) 106 patSD [] = true := by kernel_rfl
def litSD : LV := .tup [.agg [.a (.int .i64 (.ite (.cmp .eql (.var 169608831948245483906) (.lit 0)) (.ite (.cmp .eql (.var 197866436551650316066) (.lit 0)) (.var 197866436551650316064) (.lit 0)) (.lit 0))), .a (.int .i64 (.ite (.cmp .eql (.var 169608831948245483906) (.lit 0)) (.ite (.cmp .eql (.var 197866436551650316066) (.lit 0)) (.var 197866436551650316065) (.lit 0)) (.lit 0)))], .s (.a (.int .i64 (.ite (.cmp .eql (.var 169608831948245483906) (.lit 0)) (.var 197866436551650316066) (.var 169608831948245483906))))]
theorem stepD_lit : (rd Tryz.prog KF 3000 (2^240) 106 patSD []).1 = litSD := eq_of_beq (by kernel_rfl)
theorem stepD_in (s : FD.Sp) (x : FP.Pr) (W : World) : Calls Tryz.prog 106 #[FD.spv s, FP.prv x] W fun e W' => e = .returned (.tuple #[FD.spv (stepD s x).1, .int .i64 (stepD s x).2]) ∧ Below W.heap.size W W' := by
 obtain ⟨ε, h0, -, -, -, hR, hs, hok⟩ := read_ob hmix (by decide) stepDB (fun s L k => val0_R64 _ _ _ _ s L k) T0 (w := W) (L := [s.lo, s.hi, x.a.lo, x.a.hi, x.b.lo, x.b.hi]) (by
   intro y hy
   simp only [List.mem_cons, List.not_mem_nil, or_false] at hy
   rcases hy with rfl | rfl | rfl | rfl | rfl | rfl
   ·exact s.ok.1
   ·exact s.ok.2
   ·exact x.a.ok.1
   ·exact x.a.ok.2
   ·exact x.b.ok.1
   ·exact x.b.ok.2) (fun ε _ e1 e2 e3 e4 f args mem res upd k1 k2 k3 k4 => con00 W ε e1 e2 e3 e4 W (Below.refl _ _) f args mem res upd k1 k2 k3 k4)
 have i0 : ε.i 0 = s.lo := h0 0 (by decide)
 have i1 : ε.i 1 = s.hi := h0 1 (by decide)
 have i2 : ε.i 2 = x.a.lo := h0 2 (by decide)
 have i3 : ε.i 3 = x.a.hi := h0 3 (by decide)
 have i4 : ε.i 4 = x.b.lo := h0 4 (by decide)
 have i5 : ε.i 5 = x.b.hi := h0 5 (by decide)
 have run := hok rfl W (fun _ => 0) (Below.refl _ _) (by simp) (by simp)
 rw [stepD_lit] at run
 obtain ⟨m0, c0⟩ := sat_call hs (s := 3) (base := 169608831948245483904) (args := [.v (.agg [.a (.int .i64 (.var 2)), .a (.int .i64 (.var 3))]), .v (.agg [.a (.int .i64 (.var 4)), .a (.int .i64 (.var 5))])]) (by kernel_rfl)
 have c0_0 : ε.i 169608831948245483904 = _ := c0 0 (by omega)
 have c0_1 : ε.i 169608831948245483905 = _ := c0 1 (by omega)
 have c0_2 : ε.i 169608831948245483906 = _ := c0 2 (by omega)
 clear c0
 obtain ⟨m1, c1⟩ := sat_call hs (s := 1) (base := 197866436551650316064) (args := [.v (.agg [.a (.int .i64 (.var 0)), .a (.int .i64 (.var 1))]), .v (.agg [.a (.int .i64 (.ite (.cmp .eql (.var 169608831948245483906) (.lit 0)) (.var 169608831948245483904) (.lit 0))), .a (.int .i64 (.ite (.cmp .eql (.var 169608831948245483906) (.lit 0)) (.var 169608831948245483905) (.lit 0)))])]) (by kernel_rfl)
 have c1_0 : ε.i 197866436551650316064 = _ := c1 0 (by omega)
 have c1_1 : ε.i 197866436551650316065 = _ := c1 1 (by omega)
 have c1_2 : ε.i 197866436551650316066 = _ := c1 2 (by omega)
 clear c1
 have ea : (patSD.map (LV.den ε fun _ => 0)).toArray = #[FD.spv s, FP.prv x] := by
  show #[Value.agg #[.int .i64 (ε.i 0), .int .i64 (ε.i 1)], Value.agg #[.int .i64 (ε.i 2), .int .i64 (ε.i 3), .int .i64 (ε.i 4), .int .i64 (ε.i 5)]] = _
  rw [i0, i1, i2, i3, i4, i5]
  try rfl
 rw [ea] at run
 refine run.mono fun e w' ⟨q1, _, q3⟩ => ⟨q1.trans ?_, ⟨q3.os, q3.tape, q3.output, q3.size, fun k hk => q3.block k hk (by simp)⟩⟩
 clear run hok q1 q3
 simp only [List.flatMap_cons, List.flatMap_nil, argInts, V1.cells, SV.ints, E.den, List.append_nil, List.singleton_append, List.cons_append, List.nil_append, i0, i1, i2, i3, i4, i5] at c0_0 c0_1 c0_2 c1_0 c1_1 c1_2
 congr 1
 simp only [litSD, LV.den, V1.den, SV.den, AV.den, E.den, CO.den, List.map_cons, List.map_nil]
 have V : ∀ s L k, S00.val s L k = v0 s L k := fun _ _ _ => rfl
 simp only [CO.den, beq_iff_eq, V] at c0_0 c0_1 c0_2 c1_0 c1_1 c1_2 ⊢
 simp only [c0_0, c0_1, c0_2] at c1_0 c1_1 c1_2
 by_cases h2 : v0 3 [x.a.lo, x.a.hi, x.b.lo, x.b.hi] 2 = 0
 ·simp only [h2, if_true] at c1_0 c1_1 c1_2
  by_cases h3 : v0 1 [s.lo, s.hi, v0 3 [x.a.lo, x.a.hi, x.b.lo, x.b.hi] 0, v0 3 [x.a.lo, x.a.hi, x.b.lo, x.b.hi] 1] 2 = 0
  ·simp [stepD, h2, h3, c0_0, c0_1, c0_2, c1_0, c1_1, c1_2, FD.spv]
  ·simp [stepD, h2, h3, c0_0, c0_1, c0_2, c1_0, c1_1, c1_2, FD.spv, FD.Sp.zero]
 ·simp [stepD, h2, c0_0, c0_1, c0_2, FD.spv, FD.Sp.zero]
theorem foldSP_zero (f : FD.Sp → FP.Pr → FD.Sp × Int) : ∀ (l : List FP.Pr) (s : FD.Sp), (FP.foldS f s l).2 ≠ 0 → (FP.foldS f s l).1 = .zero
 | [], s, h => absurd rfl h
 | x :: xs, s, h => by
  simp only [FP.foldS] at h ⊢
  split
  ·rename_i h0
   rw [if_pos h0] at h
   exact foldSP_zero f xs _ h
  ·rfl
theorem stepD2 (s : FD.Sp) (x : FP.Pr) : R64 (stepD s x).2 := by
 unfold stepD
 split
 ·split
  ·exact R64_0
  ·exact v0_R64 1 _ 2
 ·exact v0_R64 3 _ 2
theorem foldSP2 : ∀ (l : List FP.Pr) (s : FD.Sp), R64 (FP.foldS stepD s l).2
 | [], s => R64_0
 | x :: xs, s => by
  simp only [FP.foldS]
  split
  ·exact foldSP2 xs _
  ·exact stepD2 _ _
def prL (L : List Int) (i : Nat) : FP.Pr := ⟨spL L i, spL L (i + 3)⟩
noncomputable def foldD (L : List Int) : FD.Sp × Int := FP.foldS stepD .zero [prL L 0, prL L 1, prL L 2]
theorem foldD2 (L : List Int) : R64 (foldD L).2 := foldSP2 _ _
def syD : List (Nat × Nat × Nat) := (104, 71, 1) :: sy
noncomputable def KD : Cfg := ⟨fun f => !(syD.any fun x => x.1 == f), fun f => ct.contains f, stdRes Tryz.prog (fun f => syD.lookup f), fun _ _ => none⟩
noncomputable def SD (L : List Int) : Sig := ⟨fun f => syD.lookup f, fun s l k => if s = 71 then sp3 (foldD L).1.lo (foldD L).1.hi (foldD L).2 k else v0 s l k⟩
def cells12 : Cells := [some (.a (.int .i64 (.var 6))), some (.a (.int .i64 (.var 7))), some (.a (.int .i64 (.var 8))), some (.a (.int .i64 (.var 9))), some (.a (.int .i64 (.var 10))), some (.a (.int .i64 (.var 11)))]
def foldShapeD (args : List LV) (mem : List (Nat × Cells)) : Bool := match args, mem with
 | [.v (.s (.fn g [] [.ptr A 0, .ptr B 0])), .v (.agg [.a (.int .i64 a), .a (.int .i64 b)]), .v (.s (.fn h [] []))], [(1, d), (B', [some (.a (.sl 1 0 3 3))]), (0, c), (A', [some (.a (.sl 0 0 3 3))])] => g == 126 && h == 106 && A == A' && B == B' && !(A == 0) && !(A == 1) && !(B == 0) && !(B == 1) && !(A == B) && c == cells6 && d == cells12 && a == .lit 0 && b == .lit 0
 | _, _ => false
def shpD (f : FuncId) (args : List LV) (mem : List (Nat × Cells)) : Bool := if f == 104 then foldShapeD args mem else shp0 f args mem
theorem sy_no71 {f s z : Nat} (h : sy.lookup f = some (s, z)) : s ≠ 71 := by
 have := List.all_eq_true.1 (show sy.all (fun x => x.2.1 != 71) = true by kernel_rfl) _ (lookup_mem h)
 simpa using this
theorem foldD_ok {L : List Int} (hL : ∀ x ∈ L, R64 x) {ε : Env} (hi : ∀ v, v < top → ε.i v = L.getD v 0) {w : World} {args : List LV} {mem : List (Nat × Cells)} {res : LV} {upd : List (Nat × Cells)} (h : foldShapeD args mem = true)
  (hstd : stdRes Tryz.prog (SD L).sym 104 args mem = some (res, upd)) (hsat : Ob.sat (SD L) ε (.call (.blit true) 104 args mem res upd)) : Ob.ok Tryz.prog ε w (.call (.blit true) 104 args mem res upd) := by
 unfold foldShapeD at h
 split at h
 case h_2 => cases h
 rename_i g A B a b hh d B' c A'
 simp only [Bool.and_eq_true, beq_iff_eq, Bool.not_eq_true', beq_eq_false_iff_ne] at h
 obtain ⟨⟨⟨⟨⟨⟨⟨⟨⟨⟨⟨⟨rfl, rfl⟩, rfl⟩, rfl⟩, hA0⟩, hA1⟩, hB0⟩, hB1⟩, hAB⟩, rfl⟩, rfl⟩, rfl⟩, rfl⟩ := h
 obtain ⟨MM, hMM⟩ : ∃ MM : List (Nat × Cells), MM = [(1, cells12), (B, [some (.a (.sl 1 0 3 3))]), (0, cells6), (A, [some (.a (.sl 0 0 3 3))])] := ⟨_, rfl⟩
 rw [← hMM] at hstd hsat ⊢
 obtain ⟨base, hbase⟩ : ∃ base, callBase 71 [.v (.s (.fn 126 [] [.ptr A 0, .ptr B 0])), .v (.agg [.a (.int .i64 (.lit 0)), .a (.int .i64 (.lit 0))]), .v (.s (.fn 106 [] []))] MM = base := ⟨_, rfl⟩
 have hs : (SD L).sym 104 = some (71, 1) := rfl
 have hres' : res = .tup [zeroLess1 (.var (base + 2)) (.agg [.a (.int .i64 (.var base)), .a (.int .i64 (.var (base + 1)))]), .s (.a (.int .i64 (.var (base + 2))))] ∧ upd = [] := by
  unfold stdRes at hstd
  rw [hs, Tryz.func104] at hstd
  have hm : ∃ m, nameRes Tryz.prog Tryz.f104 base = some (.tup [.agg [.a (.int .i64 (.var base)), .a (.int .i64 (.var (base + 1)))], .s (.a (.int .i64 (.var (base + 2))))], m) := ⟨base + 3, by kernel_rfl⟩
  obtain ⟨m, hm⟩ := hm
  simp [stdVal, hbase, hm, zeroLess1, zeroLess, mkIte] at hstd
  simp [zeroLess1, zeroLess, hstd]
 obtain ⟨rfl, rfl⟩ := hres'
 have hcn : callNo (SD L) 104 [.v (.s (.fn 126 [] [.ptr A 0, .ptr B 0])), .v (.agg [.a (.int .i64 (.lit 0)), .a (.int .i64 (.lit 0))]), .v (.s (.fn 106 [] []))] MM = some (base / 32, 71, [.v (.s (.fn 126 [] [.ptr A 0, .ptr B 0])), .v (.agg [.a (.int .i64 (.lit 0)), .a (.int .i64 (.lit 0))]), .v (.s (.fn 106 [] []))]) := by
  unfold callNo
  rw [hs, ← hbase]
  rfl
 have hb32 : base / 32 * 32 = base := by rw [← hbase]; exact base32 _ _ _
 have hv := fun k hk => (hsat _ _ _ hcn k hk).1
 rw [hb32] at hv
 have v0 : ε.i base = (foldD L).1.lo := hv 0 (by omega)
 have v1 : ε.i (base + 1) = (foldD L).1.hi := hv 1 (by omega)
 have v2 : ε.i (base + 2) = (foldD L).2 := hv 2 (by omega)
 intro _ w2 ρ hw2 hblk hinj
 rw [hMM] at hblk
 have e10 : ((1 : Nat) == 0) = false := rfl
 have bA0 : (A == 0) = false := by simpa using hA0
 have bA1 : (A == 1) = false := by simpa using hA1
 have bB0 : (B == 0) = false := by simpa using hB0
 have bB1 : (B == 1) = false := by simpa using hB1
 have bAB : (A == B) = false := by simpa using hAB
 have b0B : ((0 : Nat) == B) = false := by simpa using fun h => hB0 h.symm
 obtain ⟨_, b2, b3⟩ := hblk 0 cells6 (by simp [List.lookup, b0B])
 obtain ⟨_, f2, f3⟩ := hblk 1 cells12 (by simp [List.lookup])
 obtain ⟨_, d2, d3⟩ := hblk A [some (.a (.sl 0 0 3 3))] (by simp [List.lookup, bA0, bA1, bAB])
 obtain ⟨_, g2, g3⟩ := hblk B [some (.a (.sl 1 0 3 3))] (by simp [List.lookup, bB1])
 have cl : ∀ j, j < 6 → w2.cell? ⟨ρ 0, j, none⟩ = some (.int .i64 (clampI (L.getD j 0))) := fun j hj => by
  have hg : cells6[j]? = some (some (.a (.int .i64 (.var j)))) := by
   unfold cells6
   rcases j with _ | _ | _ | _ | _ | _ | j
   any_goals rfl
   omega
  obtain ⟨v, c1, _, c3⟩ := b3 j _ hg
  rw [c1, c3 _ rfl]
  show some (Value.int .i64 (ε.i j)) = _
  rw [hi j (by unfold top; omega), clampI_eq]
  exact envL_R64 (T := T0) hL j
 have cm : ∀ j, j < 6 → w2.cell? ⟨ρ 1, j, none⟩ = some (.int .i64 (clampI (L.getD (j + 6) 0))) := fun j hj => by
  have hg : cells12[j]? = some (some (.a (.int .i64 (.var (j + 6))))) := by
   unfold cells12
   rcases j with _ | _ | _ | _ | _ | _ | j
   any_goals rfl
   omega
  obtain ⟨v, c1, _, c3⟩ := f3 j _ hg
  rw [c1, c3 _ rfl]
  show some (Value.int .i64 (ε.i (j + 6))) = _
  rw [hi (j + 6) (by unfold top; omega), clampI_eq]
  exact envL_R64 (T := T0) hL (j + 6)
 have csA : w2.cell? ⟨ρ A, 0, none⟩ = some (.slice (some ⟨ρ 0, 0, none⟩) 3 3) := by
  obtain ⟨sv, c1, _, c3⟩ := d3 0 _ rfl
  rw [c1, c3 _ rfl]; rfl
 have csB : w2.cell? ⟨ρ B, 0, none⟩ = some (.slice (some ⟨ρ 1, 0, none⟩) 3 3) := by
  obtain ⟨sv, c1, _, c3⟩ := g3 0 _ rfl
  rw [c1, c3 _ rfl]; rfl
 refine Calls.mono (FP.foldp_any stepD stepD_in (ρ A) (ρ B) (ρ 0) 0 3 (ρ 1) 0 3 3 (fun j => clampI (L.getD (j * 2) 0)) (fun j => clampI (L.getD (j * 2 + 1) 0)) (fun j => clampI (L.getD ((j + 3) * 2) 0)) (fun j => clampI (L.getD ((j + 3) * 2 + 1) 0)) (fun j => ⟨clampI_R64 _, clampI_R64 _⟩) (fun j => ⟨clampI_R64 _, clampI_R64 _⟩) (by omega) .zero w2 d2 g2 b2 f2 csA csB
  (fun j hj => ⟨by rw [Nat.zero_add]; exact cl (j * 2) (by omega), by rw [Nat.zero_add]; exact cl (j * 2 + 1) (by omega)⟩)
  (fun j hj => ⟨by rw [Nat.zero_add]; have := cm (j * 2) (by omega); rw [show j * 2 + 6 = (j + 3) * 2 by omega] at this; exact this, by rw [Nat.zero_add]; have := cm (j * 2 + 1) (by omega); rw [show j * 2 + 1 + 6 = (j + 3) * 2 + 1 by omega] at this; exact this⟩)) fun e w' ⟨q1, q2⟩ => ⟨?_, by simp, Ext.of_below q2 _⟩
 have q3 : e = .returned (.tuple #[FD.spv (foldD L).1, .int .i64 (foldD L).2]) := q1
 have hz : (foldD L).2 ≠ 0 → (foldD L).1 = .zero := foldSP_zero _ _ _
 rw [q3]
 clear q1 q3
 refine congrArg Ending.returned ?_
 generalize foldD L = F at v0 v1 v2 hz ⊢
 show Value.tuple #[FD.spv F.1, .int .i64 F.2] = Value.tuple #[.agg #[.int .i64 ((mkIte (mkEq 200 (.var (base + 2)) (.lit 0)) (.var base) (.lit 0)).den ε).1, .int .i64 ((mkIte (mkEq 200 (.var (base + 2)) (.lit 0)) (.var (base + 1)) (.lit 0)).den ε).1], .int .i64 (ε.i (base + 2))]
 simp only [mkIte_den, mkEq_den, E.den, v0, v1, v2, beq_iff_eq]
 by_cases h0 : F.2 = 0
 ·simp only [h0, if_true]
 ·simp only [h0, if_false, hz h0]
  rfl
end SX
end
section
set_option maxRecDepth 1000000
open Go.RowKit
namespace SX
def okD (L : List Int) : Bool := vB (L.getD 0 0) (L.getD 1 0) && vB (L.getD 2 0) (L.getD 3 0) && vB (L.getD 4 0) (L.getD 5 0) && vB (L.getD 6 0) (L.getD 7 0) && vB (L.getD 8 0) (L.getD 9 0) && vB (L.getD 10 0) (L.getD 11 0)
noncomputable def dtV (L : List Int) (k : Nat) : Int := if okD L = true then sp3 (foldD L).1.lo (foldD L).1.hi (foldD L).2 k else if k = 2 then 2 else 0
def patD : List LV := [.v (.s (.a (.sl 0 0 3 3))), .v (.s (.a (.sl 1 0 3 3)))]
def memD : List (Nat × Cells) := [(0, cells6), (1, cells12)]
theorem conD {L : List Int} (hL : ∀ x ∈ L, R64 x) (w : World) (ε : Env) (h0 : ∀ v, v < top → ε.i v = L.getD v 0) (h1 : ε.sa = T0.sa) (h2 : ε.sn = T0.sn) (h3 : ε.sc = T0.sc) (h4 : ∀ i, R64 (ε.i i)) : ∀ f args mem res upd, shpD f args mem = true → stdRes Tryz.prog (SD L).sym f args mem = some (res, upd) → rngOb (.call (.blit true) f args mem res upd) = true → Ob.sat (SD L) ε (.call (.blit true) f args mem res upd) → Ob.ok Tryz.prog ε w (.call (.blit true) f args mem res upd) := by
 intro f args mem res upd k1 k2 k3 k4
 unfold shpD at k1
 split at k1
 ·rename_i hf
  have hf := eq_of_beq hf
  subst hf
  exact foldD_ok hL h0 k1 k2 k4
 ·rename_i hf
  have hsym : (SD L).sym f = S00.sym f := by
   have hb : (f == 104) = false := by simpa using hf
   show List.lookup f ((104, 71, 1) :: sy) = List.lookup f sy
   rw [List.lookup, hb]
  rw [std_of hsym] at k2
  refine con00 w ε h1 h2 h3 h4 w (Below.refl _ _) f args mem res upd k1 k2 k3 (sat_of hsym (fun s z hs L' k => ?_) k4)
  show (if s = 71 then _ else _) = _
  rw [if_neg (sy_no71 hs)]; rfl
theorem SD_v {L : List Int} {s : Nat} (h : s ≠ 71) (l : List Int) (k : Nat) : (SD L).val s l k = v0 s l k := if_neg h
theorem v0_9d (l : List Int) (k : Nat) : v0 9 l k = if vB (l.getD 0 0) (l.getD 1 0) then 0 else 2 := rfl
theorem sdotB (L : List Int) : readB2 Tryz.prog (SD L) shpD KD 3000 (2^240) 67 patD memD = true := by kernel_rfl
def lit_sdot : LV := .tup [.agg [.a (.int .i64 (.ite (.cmp .eql (.var 6888647360554087342) (.lit 0)) (.ite (.cmp .eql (.var 210225207092861979266) (.lit 0)) (.var 210225207092861979264) (.lit 0)) (.lit 0))), .a (.int .i64 (.ite (.cmp .eql (.var 6888647360554087342) (.lit 0)) (.ite (.cmp .eql (.var 210225207092861979266) (.lit 0)) (.var 210225207092861979265) (.lit 0)) (.lit 0)))], .s (.a (.int .i64 (.ite (.cmp .eql (.var 6888647360554087342) (.lit 0)) (.var 210225207092861979266) (.var 6888647360554087342))))]
theorem sdot_lit : (rd2 Tryz.prog KD 3000 (2^240) 67 patD memD).1 = lit_sdot := eq_of_beq (by kernel_rfl)
theorem sdot_in {L : List Int} (hL : ∀ x ∈ L, R64 x) (w : World) : ∃ ε : Env, (∀ v, v < top → ε.i v = L.getD v 0) ∧ Ob.ok Tryz.prog ε w (.call (.blit true) 67 patD memD lit_sdot []) ∧ ∀ ρ, lit_sdot.den ε ρ = .tuple #[.agg #[.int .i64 (dtV L 0), .int .i64 (dtV L 1)], .int .i64 (dtV L 2)] := by
 obtain ⟨ε, h0, -, -, -, hR, hs, hok⟩ := read_ob2 hmix (by decide) (sdotB L) (fun s l k => by
   show R64 (if s = 71 then _ else _)
   split
   ·exact sp3_R64 (foldD L).1.ok.1 (foldD L).1.ok.2 (foldD2 L) k
   ·exact v0_R64 _ _ _) T0 (w := w) hL (conD hL w)
 rw [sdot_lit] at hok
 refine ⟨ε, h0, hok, fun ρ => ?_⟩
 clear hok
 obtain ⟨m0, c0⟩ := sat_call hs (s := 9) (base := 183958120548362611040) (args := [.v (.agg [.a (.int .i64 (.var 0)), .a (.int .i64 (.var 1))])]) (by kernel_rfl)
 have c0_0 : ε.i 183958120548362611040 = _ := c0 0 (by omega)
 clear c0
 obtain ⟨m1, c1⟩ := sat_call hs (s := 9) (base := 184877719958844856960) (args := [.v (.agg [.a (.int .i64 (.var 2)), .a (.int .i64 (.var 3))])]) (by kernel_rfl)
 have c1_0 : ε.i 184877719958844856960 = _ := c1 0 (by omega)
 clear c1
 obtain ⟨m2, c2⟩ := sat_call hs (s := 9) (base := 185797319369327102880) (args := [.v (.agg [.a (.int .i64 (.var 4)), .a (.int .i64 (.var 5))])]) (by kernel_rfl)
 have c2_0 : ε.i 185797319369327102880 = _ := c2 0 (by omega)
 clear c2
 obtain ⟨m3, c3⟩ := sat_call hs (s := 9) (base := 186716918779809348800) (args := [.v (.agg [.a (.int .i64 (.var 6)), .a (.int .i64 (.var 7))])]) (by kernel_rfl)
 have c3_0 : ε.i 186716918779809348800 = _ := c3 0 (by omega)
 clear c3
 obtain ⟨m4, c4⟩ := sat_call hs (s := 9) (base := 187636518190291594720) (args := [.v (.agg [.a (.int .i64 (.var 8)), .a (.int .i64 (.var 9))])]) (by kernel_rfl)
 have c4_0 : ε.i 187636518190291594720 = _ := c4 0 (by omega)
 clear c4
 obtain ⟨m5, c5⟩ := sat_call hs (s := 9) (base := 188556117600773840640) (args := [.v (.agg [.a (.int .i64 (.var 10)), .a (.int .i64 (.var 11))])]) (by kernel_rfl)
 have c5_0 : ε.i 188556117600773840640 = _ := c5 0 (by omega)
 clear c5
 obtain ⟨m6, c6⟩ := sat_call hs (s := 71) (base := 210225207092861979264) (args := [.v (.s (SV.fn 126 [] [AV.ptr 35336941295567686591665950014858370316549677937512379162432124025852395522 0, AV.ptr 35336942980564353288580937181546813255276595039833905571217904094828036098 0])), .v (.agg [.a (.int .i64 (.lit 0)), .a (.int .i64 (.lit 0))]), .v (.s (SV.fn 106 [] []))]) (by kernel_rfl)
 have c6_0 : ε.i 210225207092861979264 = _ := c6 0 (by omega)
 have c6_1 : ε.i 210225207092861979265 = _ := c6 1 (by omega)
 have c6_2 : ε.i 210225207092861979266 = _ := c6 2 (by omega)
 clear c6
 have q0 := sat_eq hs (v := 6888647360554087342) (e := (.ite (.cmp .eql (.var 183958120548362611040) (.lit 0)) (.ite (.cmp .eql (.var 184877719958844856960) (.lit 0)) (.ite (.cmp .eql (.var 185797319369327102880) (.lit 0)) (.ite (.cmp .eql (.var 186716918779809348800) (.lit 0)) (.ite (.cmp .eql (.var 187636518190291594720) (.lit 0)) (.ite (.cmp .eql (.var 188556117600773840640) (.lit 0)) (.lit 0) (.lit 2)) (.lit 2)) (.lit 2)) (.lit 2)) (.lit 2)) (.lit 2))) (by kernel_rfl)
 simp only [List.flatMap_cons, List.flatMap_nil, argInts, V1.cells, SV.ints, E.den, List.append_nil, List.singleton_append, List.cons_append, List.nil_append, CO.den, beq_iff_eq] at c0_0 c1_0 c2_0 c3_0 c4_0 c5_0 c6_0 c6_1 c6_2 q0
 simp only [SD_v (L := L) (s := 9) (by decide), SD_v (L := L) (s := 3) (by decide), SD_v (L := L) (s := 1) (by decide), v0_9d, List.getD_cons_zero, List.getD_cons_succ] at c0_0 c1_0 c2_0 c3_0 c4_0 c5_0 c6_0 c6_1 c6_2
 have i0 : ε.i 0 = L.getD 0 0 := h0 0 (by decide)
 have i1 : ε.i 1 = L.getD 1 0 := h0 1 (by decide)
 have i2 : ε.i 2 = L.getD 2 0 := h0 2 (by decide)
 have i3 : ε.i 3 = L.getD 3 0 := h0 3 (by decide)
 have i4 : ε.i 4 = L.getD 4 0 := h0 4 (by decide)
 have i5 : ε.i 5 = L.getD 5 0 := h0 5 (by decide)
 have i6 : ε.i 6 = L.getD 6 0 := h0 6 (by decide)
 have i7 : ε.i 7 = L.getD 7 0 := h0 7 (by decide)
 have i8 : ε.i 8 = L.getD 8 0 := h0 8 (by decide)
 have i9 : ε.i 9 = L.getD 9 0 := h0 9 (by decide)
 have i10 : ε.i 10 = L.getD 10 0 := h0 10 (by decide)
 have i11 : ε.i 11 = L.getD 11 0 := h0 11 (by decide)
 clear hs h0
 simp only [i0, i1, i2, i3, i4, i5, i6, i7, i8, i9, i10, i11] at c0_0 c1_0 c2_0 c3_0 c4_0 c5_0 c6_0 c6_1 c6_2
 simp only [lit_sdot, LV.den, V1.den, SV.den, AV.den, E.den, CO.den, beq_iff_eq, List.map_cons, List.map_nil]
 have f0 : ε.i 210225207092861979264 = (foldD L).1.lo := c6_0
 have f1 : ε.i 210225207092861979265 = (foldD L).1.hi := c6_1
 have f2 : ε.i 210225207092861979266 = (foldD L).2 := c6_2
 have hz : (foldD L).2 ≠ 0 → (foldD L).1 = .zero := foldSP_zero _ _ _
 have zl : FD.Sp.zero.lo = 0 := rfl
 have zh : FD.Sp.zero.hi = 0 := rfl
 clear c6_0 c6_1 c6_2
 unfold dtV okD
 generalize foldD L = F at f0 f1 f2 hz ⊢
 generalize vB (L.getD 0 0) (L.getD 1 0) = B0 at c0_0 ⊢
 generalize vB (L.getD 2 0) (L.getD 3 0) = B1 at c1_0 ⊢
 generalize vB (L.getD 4 0) (L.getD 5 0) = B2 at c2_0 ⊢
 generalize vB (L.getD 6 0) (L.getD 7 0) = B3 at c3_0 ⊢
 generalize vB (L.getD 8 0) (L.getD 9 0) = B4 at c4_0 ⊢
 generalize vB (L.getD 10 0) (L.getD 11 0) = B5 at c5_0 ⊢
 cases B0
 ·simp [q0, c0_0]
 cases B1
 ·simp [q0, c0_0, c1_0]
 cases B2
 ·simp [q0, c0_0, c1_0, c2_0]
 cases B3
 ·simp [q0, c0_0, c1_0, c2_0, c3_0]
 cases B4
 ·simp [q0, c0_0, c1_0, c2_0, c3_0, c4_0]
 cases B5
 ·simp [q0, c0_0, c1_0, c2_0, c3_0, c4_0, c5_0]
 by_cases hF : F.2 = 0
 ·simp [q0, c0_0, c1_0, c2_0, c3_0, c4_0, c5_0, f0, f1, f2, hF, sp3]
 ·simp [q0, c0_0, c1_0, c2_0, c3_0, c4_0, c5_0, f0, f1, f2, hF, hz hF, zl, zh, sp3]
theorem rdotB (L : List Int) : readB2 Tryz.prog (SD L) shpD KD 3000 (2^240) 69 patD memD = true := by kernel_rfl
def lit_rdot : LV := .tup [.agg [.a (.int .i64 (.ite (.cmp .eql (.var 4671117638481768425) (.lit 0)) (.ite (.cmp .eql (.var 6790969258578067070) (.lit 0)) (.ite (.cmp .eql (.var 149543184064339789122) (.lit 0)) (.ite (.cmp .eql (.var 187757038616469035234) (.lit 0)) (.ite (.cmp .eql (.var 171448030769209975746) (.lit 0)) (.ite (.cmp .eql (.var 209446783238242584162) (.lit 0)) (.ite (.cmp .eql (.var 193352877474080162370) (.lit 0)) (.ite (.cmp .eql (.var 207047919316128115778) (.lit 0)) (.var 207047919316128115776) (.lit 0)) (.lit 0)) (.lit 0)) (.lit 0)) (.lit 0)) (.lit 0)) (.lit 0)) (.lit 0))), .a (.int .i64 (.ite (.cmp .eql (.var 4671117638481768425) (.lit 0)) (.ite (.cmp .eql (.var 6790969258578067070) (.lit 0)) (.ite (.cmp .eql (.var 149543184064339789122) (.lit 0)) (.ite (.cmp .eql (.var 187757038616469035234) (.lit 0)) (.ite (.cmp .eql (.var 171448030769209975746) (.lit 0)) (.ite (.cmp .eql (.var 209446783238242584162) (.lit 0)) (.ite (.cmp .eql (.var 193352877474080162370) (.lit 0)) (.ite (.cmp .eql (.var 207047919316128115778) (.lit 0)) (.var 207047919316128115777) (.lit 0)) (.lit 0)) (.lit 0)) (.lit 0)) (.lit 0)) (.lit 0)) (.lit 0)) (.lit 0)))], .s (.a (.int .i64 (.ite (.cmp .eql (.var 4671117638481768425) (.lit 0)) (.ite (.cmp .eql (.var 6790969258578067070) (.lit 0)) (.ite (.cmp .eql (.var 149543184064339789122) (.lit 0)) (.ite (.cmp .eql (.var 187757038616469035234) (.lit 0)) (.ite (.cmp .eql (.var 171448030769209975746) (.lit 0)) (.ite (.cmp .eql (.var 209446783238242584162) (.lit 0)) (.ite (.cmp .eql (.var 193352877474080162370) (.lit 0)) (.ite (.cmp .eql (.var 207047919316128115778) (.lit 0)) (.lit 0) (.var 207047919316128115778)) (.var 193352877474080162370)) (.var 209446783238242584162)) (.var 171448030769209975746)) (.var 187757038616469035234)) (.var 149543184064339789122)) (.lit 2)) (.lit 2))))]
theorem rdot_lit : (rd2 Tryz.prog KD 3000 (2^240) 69 patD memD).1 = lit_rdot := eq_of_beq (by kernel_rfl)
theorem rdot_in {L : List Int} (hL : ∀ x ∈ L, R64 x) (w : World) : ∃ ε : Env, (∀ v, v < top → ε.i v = L.getD v 0) ∧ Ob.ok Tryz.prog ε w (.call (.blit true) 69 patD memD lit_rdot []) ∧ ∀ ρ, lit_rdot.den ε ρ = .tuple #[.agg #[.int .i64 (dtV L 0), .int .i64 (dtV L 1)], .int .i64 (dtV L 2)] := by
 obtain ⟨ε, h0, -, -, -, hR, hs, hok⟩ := read_ob2 hmix (by decide) (rdotB L) (fun s l k => by
   show R64 (if s = 71 then _ else _)
   split
   ·exact sp3_R64 (foldD L).1.ok.1 (foldD L).1.ok.2 (foldD2 L) k
   ·exact v0_R64 _ _ _) T0 (w := w) hL (conD hL w)
 rw [rdot_lit] at hok
 refine ⟨ε, h0, hok, fun ρ => ?_⟩
 clear hok
 obtain ⟨m0, c0⟩ := sat_call hs (s := 9) (base := 183958120548362611040) (args := [.v (.agg [.a (.int .i64 (.var 0)), .a (.int .i64 (.var 1))])]) (by kernel_rfl)
 have c0_0 : ε.i 183958120548362611040 = _ := c0 0 (by omega)
 clear c0
 obtain ⟨m1, c1⟩ := sat_call hs (s := 9) (base := 184877719958844856960) (args := [.v (.agg [.a (.int .i64 (.var 2)), .a (.int .i64 (.var 3))])]) (by kernel_rfl)
 have c1_0 : ε.i 184877719958844856960 = _ := c1 0 (by omega)
 clear c1
 obtain ⟨m2, c2⟩ := sat_call hs (s := 9) (base := 185797319369327102880) (args := [.v (.agg [.a (.int .i64 (.var 4)), .a (.int .i64 (.var 5))])]) (by kernel_rfl)
 have c2_0 : ε.i 185797319369327102880 = _ := c2 0 (by omega)
 clear c2
 obtain ⟨m3, c3⟩ := sat_call hs (s := 9) (base := 186716918779809348800) (args := [.v (.agg [.a (.int .i64 (.var 6)), .a (.int .i64 (.var 7))])]) (by kernel_rfl)
 have c3_0 : ε.i 186716918779809348800 = _ := c3 0 (by omega)
 clear c3
 obtain ⟨m4, c4⟩ := sat_call hs (s := 9) (base := 187636518190291594720) (args := [.v (.agg [.a (.int .i64 (.var 8)), .a (.int .i64 (.var 9))])]) (by kernel_rfl)
 have c4_0 : ε.i 187636518190291594720 = _ := c4 0 (by omega)
 clear c4
 obtain ⟨m5, c5⟩ := sat_call hs (s := 9) (base := 188556117600773840640) (args := [.v (.agg [.a (.int .i64 (.var 10)), .a (.int .i64 (.var 11))])]) (by kernel_rfl)
 have c5_0 : ε.i 188556117600773840640 = _ := c5 0 (by omega)
 clear c5
 obtain ⟨m6, c6⟩ := sat_call hs (s := 3) (base := 149543184064339789120) (args := [.v (.agg [.a (.int .i64 (.var 0)), .a (.int .i64 (.var 1))]), .v (.agg [.a (.int .i64 (.var 6)), .a (.int .i64 (.var 7))])]) (by kernel_rfl)
 have c6_0 : ε.i 149543184064339789120 = _ := c6 0 (by omega)
 have c6_1 : ε.i 149543184064339789121 = _ := c6 1 (by omega)
 have c6_2 : ε.i 149543184064339789122 = _ := c6 2 (by omega)
 clear c6
 obtain ⟨m7, c7⟩ := sat_call hs (s := 1) (base := 187757038616469035232) (args := [.v (.agg [.a (.int .i64 (.lit 0)), .a (.int .i64 (.lit 0))]), .v (.agg [.a (.int .i64 (.ite (.cmp .eql (.var 149543184064339789122) (.lit 0)) (.var 149543184064339789120) (.lit 0))), .a (.int .i64 (.ite (.cmp .eql (.var 149543184064339789122) (.lit 0)) (.var 149543184064339789121) (.lit 0)))])]) (by kernel_rfl)
 have c7_0 : ε.i 187757038616469035232 = _ := c7 0 (by omega)
 have c7_1 : ε.i 187757038616469035233 = _ := c7 1 (by omega)
 have c7_2 : ε.i 187757038616469035234 = _ := c7 2 (by omega)
 clear c7
 obtain ⟨m8, c8⟩ := sat_call hs (s := 3) (base := 171448030769209975744) (args := [.v (.agg [.a (.int .i64 (.var 2)), .a (.int .i64 (.var 3))]), .v (.agg [.a (.int .i64 (.var 8)), .a (.int .i64 (.var 9))])]) (by kernel_rfl)
 have c8_0 : ε.i 171448030769209975744 = _ := c8 0 (by omega)
 have c8_1 : ε.i 171448030769209975745 = _ := c8 1 (by omega)
 have c8_2 : ε.i 171448030769209975746 = _ := c8 2 (by omega)
 clear c8
 obtain ⟨m9, c9⟩ := sat_call hs (s := 1) (base := 209446783238242584160) (args := [.v (.agg [.a (.int .i64 (.ite (.cmp .eql (.var 187757038616469035234) (.lit 0)) (.var 187757038616469035232) (.lit 0))), .a (.int .i64 (.ite (.cmp .eql (.var 187757038616469035234) (.lit 0)) (.var 187757038616469035233) (.lit 0)))]), .v (.agg [.a (.int .i64 (.ite (.cmp .eql (.var 171448030769209975746) (.lit 0)) (.var 171448030769209975744) (.lit 0))), .a (.int .i64 (.ite (.cmp .eql (.var 171448030769209975746) (.lit 0)) (.var 171448030769209975745) (.lit 0)))])]) (by kernel_rfl)
 have c9_0 : ε.i 209446783238242584160 = _ := c9 0 (by omega)
 have c9_1 : ε.i 209446783238242584161 = _ := c9 1 (by omega)
 have c9_2 : ε.i 209446783238242584162 = _ := c9 2 (by omega)
 clear c9
 obtain ⟨m10, c10⟩ := sat_call hs (s := 3) (base := 193352877474080162368) (args := [.v (.agg [.a (.int .i64 (.var 4)), .a (.int .i64 (.var 5))]), .v (.agg [.a (.int .i64 (.var 10)), .a (.int .i64 (.var 11))])]) (by kernel_rfl)
 have c10_0 : ε.i 193352877474080162368 = _ := c10 0 (by omega)
 have c10_1 : ε.i 193352877474080162369 = _ := c10 1 (by omega)
 have c10_2 : ε.i 193352877474080162370 = _ := c10 2 (by omega)
 clear c10
 obtain ⟨m11, c11⟩ := sat_call hs (s := 1) (base := 207047919316128115776) (args := [.v (.agg [.a (.int .i64 (.ite (.cmp .eql (.var 209446783238242584162) (.lit 0)) (.var 209446783238242584160) (.lit 0))), .a (.int .i64 (.ite (.cmp .eql (.var 209446783238242584162) (.lit 0)) (.var 209446783238242584161) (.lit 0)))]), .v (.agg [.a (.int .i64 (.ite (.cmp .eql (.var 193352877474080162370) (.lit 0)) (.var 193352877474080162368) (.lit 0))), .a (.int .i64 (.ite (.cmp .eql (.var 193352877474080162370) (.lit 0)) (.var 193352877474080162369) (.lit 0)))])]) (by kernel_rfl)
 have c11_0 : ε.i 207047919316128115776 = _ := c11 0 (by omega)
 have c11_1 : ε.i 207047919316128115777 = _ := c11 1 (by omega)
 have c11_2 : ε.i 207047919316128115778 = _ := c11 2 (by omega)
 clear c11
 have q0 := sat_eq hs (v := 4671117638481768425) (e := (.ite (.cmp .eql (.var 183958120548362611040) (.lit 0)) (.ite (.cmp .eql (.var 184877719958844856960) (.lit 0)) (.ite (.cmp .eql (.var 185797319369327102880) (.lit 0)) (.lit 0) (.lit 2)) (.lit 2)) (.lit 2))) (by kernel_rfl)
 have q1 := sat_eq hs (v := 6790969258578067070) (e := (.ite (.cmp .eql (.var 186716918779809348800) (.lit 0)) (.ite (.cmp .eql (.var 187636518190291594720) (.lit 0)) (.ite (.cmp .eql (.var 188556117600773840640) (.lit 0)) (.lit 0) (.lit 2)) (.lit 2)) (.lit 2))) (by kernel_rfl)
 simp only [List.flatMap_cons, List.flatMap_nil, argInts, V1.cells, SV.ints, E.den, List.append_nil, List.singleton_append, List.cons_append, List.nil_append, CO.den, beq_iff_eq] at c0_0 c1_0 c2_0 c3_0 c4_0 c5_0 c6_0 c6_1 c6_2 c7_0 c7_1 c7_2 c8_0 c8_1 c8_2 c9_0 c9_1 c9_2 c10_0 c10_1 c10_2 c11_0 c11_1 c11_2 q0 q1
 simp only [SD_v (L := L) (s := 9) (by decide), SD_v (L := L) (s := 3) (by decide), SD_v (L := L) (s := 1) (by decide), v0_9d, List.getD_cons_zero, List.getD_cons_succ] at c0_0 c1_0 c2_0 c3_0 c4_0 c5_0 c6_0 c6_1 c6_2 c7_0 c7_1 c7_2 c8_0 c8_1 c8_2 c9_0 c9_1 c9_2 c10_0 c10_1 c10_2 c11_0 c11_1 c11_2
 have i0 : ε.i 0 = L.getD 0 0 := h0 0 (by decide)
 have i1 : ε.i 1 = L.getD 1 0 := h0 1 (by decide)
 have i2 : ε.i 2 = L.getD 2 0 := h0 2 (by decide)
 have i3 : ε.i 3 = L.getD 3 0 := h0 3 (by decide)
 have i4 : ε.i 4 = L.getD 4 0 := h0 4 (by decide)
 have i5 : ε.i 5 = L.getD 5 0 := h0 5 (by decide)
 have i6 : ε.i 6 = L.getD 6 0 := h0 6 (by decide)
 have i7 : ε.i 7 = L.getD 7 0 := h0 7 (by decide)
 have i8 : ε.i 8 = L.getD 8 0 := h0 8 (by decide)
 have i9 : ε.i 9 = L.getD 9 0 := h0 9 (by decide)
 have i10 : ε.i 10 = L.getD 10 0 := h0 10 (by decide)
 have i11 : ε.i 11 = L.getD 11 0 := h0 11 (by decide)
 clear hs h0
 simp only [i0, i1, i2, i3, i4, i5, i6, i7, i8, i9, i10, i11] at c0_0 c1_0 c2_0 c3_0 c4_0 c5_0 c6_0 c6_1 c6_2 c7_0 c7_1 c7_2 c8_0 c8_1 c8_2 c9_0 c9_1 c9_2 c10_0 c10_1 c10_2 c11_0 c11_1 c11_2
 simp only [lit_rdot, LV.den, V1.den, SV.den, AV.den, E.den, CO.den, beq_iff_eq, List.map_cons, List.map_nil]
 have l0 : (spL L 0).lo = L.getD 0 0 := clampI_eq (envL_R64 (T := T0) hL 0)
 have g0 : (spL L 0).hi = L.getD 1 0 := clampI_eq (envL_R64 (T := T0) hL 1)
 have l1 : (spL L 1).lo = L.getD 2 0 := clampI_eq (envL_R64 (T := T0) hL 2)
 have g1 : (spL L 1).hi = L.getD 3 0 := clampI_eq (envL_R64 (T := T0) hL 3)
 have l2 : (spL L 2).lo = L.getD 4 0 := clampI_eq (envL_R64 (T := T0) hL 4)
 have g2 : (spL L 2).hi = L.getD 5 0 := clampI_eq (envL_R64 (T := T0) hL 5)
 have l3 : (spL L 3).lo = L.getD 6 0 := clampI_eq (envL_R64 (T := T0) hL 6)
 have g3 : (spL L 3).hi = L.getD 7 0 := clampI_eq (envL_R64 (T := T0) hL 7)
 have l4 : (spL L 4).lo = L.getD 8 0 := clampI_eq (envL_R64 (T := T0) hL 8)
 have g4 : (spL L 4).hi = L.getD 9 0 := clampI_eq (envL_R64 (T := T0) hL 9)
 have l5 : (spL L 5).lo = L.getD 10 0 := clampI_eq (envL_R64 (T := T0) hL 10)
 have g5 : (spL L 5).hi = L.getD 11 0 := clampI_eq (envL_R64 (T := T0) hL 11)
 have zl : FD.Sp.zero.lo = 0 := rfl
 have zh : FD.Sp.zero.hi = 0 := rfl
 unfold dtV okD foldD prL
 generalize vB (L.getD 0 0) (L.getD 1 0) = B0 at c0_0 ⊢
 generalize vB (L.getD 2 0) (L.getD 3 0) = B1 at c1_0 ⊢
 generalize vB (L.getD 4 0) (L.getD 5 0) = B2 at c2_0 ⊢
 generalize vB (L.getD 6 0) (L.getD 7 0) = B3 at c3_0 ⊢
 generalize vB (L.getD 8 0) (L.getD 9 0) = B4 at c4_0 ⊢
 generalize vB (L.getD 10 0) (L.getD 11 0) = B5 at c5_0 ⊢
 generalize spL L 0 = s0 at *
 generalize spL L 1 = s1 at *
 generalize spL L 2 = s2 at *
 generalize spL L 3 = s3 at *
 generalize spL L 4 = s4 at *
 generalize spL L 5 = s5 at *
 clear hL
 generalize L.getD 0 0 = x0 at *
 generalize L.getD 1 0 = x1 at *
 generalize L.getD 2 0 = x2 at *
 generalize L.getD 3 0 = x3 at *
 generalize L.getD 4 0 = x4 at *
 generalize L.getD 5 0 = x5 at *
 generalize L.getD 6 0 = x6 at *
 generalize L.getD 7 0 = x7 at *
 generalize L.getD 8 0 = x8 at *
 generalize L.getD 9 0 = x9 at *
 generalize L.getD 10 0 = x10 at *
 generalize L.getD 11 0 = x11 at *
 cases B0
 ·simp [q0, q1, c0_0]
 cases B1
 ·simp [q0, q1, c0_0, c1_0]
 cases B2
 ·simp [q0, q1, c0_0, c1_0, c2_0]
 cases B3
 ·simp [q0, q1, c0_0, c1_0, c2_0, c3_0]
 cases B4
 ·simp [q0, q1, c0_0, c1_0, c2_0, c3_0, c4_0]
 cases B5
 ·simp [q0, q1, c0_0, c1_0, c2_0, c3_0, c4_0, c5_0]
 have qa : ε.i 4671117638481768425 = 0 := by simp [q0, q1, c0_0, c1_0, c2_0, c3_0, c4_0, c5_0]
 have qb : ε.i 6790969258578067070 = 0 := by simp [q0, q1, c0_0, c1_0, c2_0, c3_0, c4_0, c5_0]
 clear q0 q1 c0_0 c1_0 c2_0 c3_0 c4_0 c5_0
 by_cases e0 : v0 3 [x0, x1, x6, x7] 2 = 0
 rotate_left
 ·simp [qa, qb, FP.foldS, stepD, sp3, l0, g0, l1, g1, l2, g2, l3, g3, l4, g4, l5, g5, zl, zh, c6_0, c6_1, c6_2, e0]
 simp only [c6_0, c6_1, c6_2, e0, if_true] at c7_0 c7_1 c7_2
 by_cases e1 : v0 1 [0, 0, v0 3 [x0, x1, x6, x7] 0, v0 3 [x0, x1, x6, x7] 1] 2 = 0
 rotate_left
 ·simp [qa, qb, FP.foldS, stepD, sp3, l0, g0, l1, g1, l2, g2, l3, g3, l4, g4, l5, g5, zl, zh, c6_0, c6_1, c6_2, c7_0, c7_1, c7_2, e0, e1]
 simp only [c7_0, c7_1, c7_2, e1, if_true] at c9_0 c9_1 c9_2
 by_cases e2 : v0 3 [x2, x3, x8, x9] 2 = 0
 rotate_left
 ·simp [qa, qb, FP.foldS, stepD, sp3, l0, g0, l1, g1, l2, g2, l3, g3, l4, g4, l5, g5, zl, zh, c6_0, c6_1, c6_2, c7_0, c7_1, c7_2, c8_0, c8_1, c8_2, e0, e1, e2]
 simp only [c8_0, c8_1, c8_2, e2, if_true] at c9_0 c9_1 c9_2
 by_cases e3 : v0 1 [v0 1 [0, 0, v0 3 [x0, x1, x6, x7] 0, v0 3 [x0, x1, x6, x7] 1] 0, v0 1 [0, 0, v0 3 [x0, x1, x6, x7] 0, v0 3 [x0, x1, x6, x7] 1] 1, v0 3 [x2, x3, x8, x9] 0, v0 3 [x2, x3, x8, x9] 1] 2 = 0
 rotate_left
 ·simp [qa, qb, FP.foldS, stepD, sp3, l0, g0, l1, g1, l2, g2, l3, g3, l4, g4, l5, g5, zl, zh, c6_0, c6_1, c6_2, c7_0, c7_1, c7_2, c8_0, c8_1, c8_2, c9_0, c9_1, c9_2, e0, e1, e2, e3]
 simp only [c9_0, c9_1, c9_2, e3, if_true] at c11_0 c11_1 c11_2
 by_cases e4 : v0 3 [x4, x5, x10, x11] 2 = 0
 rotate_left
 ·simp [qa, qb, FP.foldS, stepD, sp3, l0, g0, l1, g1, l2, g2, l3, g3, l4, g4, l5, g5, zl, zh, c6_0, c6_1, c6_2, c7_0, c7_1, c7_2, c8_0, c8_1, c8_2, c9_0, c9_1, c9_2, c10_0, c10_1, c10_2, e0, e1, e2, e3, e4]
 simp only [c10_0, c10_1, c10_2, e4, if_true] at c11_0 c11_1 c11_2
 by_cases e5 : v0 1 [v0 1 [v0 1 [0, 0, v0 3 [x0, x1, x6, x7] 0, v0 3 [x0, x1, x6, x7] 1] 0, v0 1 [0, 0, v0 3 [x0, x1, x6, x7] 0, v0 3 [x0, x1, x6, x7] 1] 1, v0 3 [x2, x3, x8, x9] 0, v0 3 [x2, x3, x8, x9] 1] 0, v0 1 [v0 1 [0, 0, v0 3 [x0, x1, x6, x7] 0, v0 3 [x0, x1, x6, x7] 1] 0, v0 1 [0, 0, v0 3 [x0, x1, x6, x7] 0, v0 3 [x0, x1, x6, x7] 1] 1, v0 3 [x2, x3, x8, x9] 0, v0 3 [x2, x3, x8, x9] 1] 1, v0 3 [x4, x5, x10, x11] 0, v0 3 [x4, x5, x10, x11] 1] 2 = 0
 rotate_left
 ·simp [qa, qb, FP.foldS, stepD, sp3, l0, g0, l1, g1, l2, g2, l3, g3, l4, g4, l5, g5, zl, zh, c6_0, c6_1, c6_2, c7_0, c7_1, c7_2, c8_0, c8_1, c8_2, c9_0, c9_1, c9_2, c10_0, c10_1, c10_2, c11_0, c11_1, c11_2, e0, e1, e2, e3, e4, e5]
 simp [qa, qb, FP.foldS, stepD, sp3, l0, g0, l1, g1, l2, g2, l3, g3, l4, g4, l5, g5, zl, zh, c6_0, c6_1, c6_2, c7_0, c7_1, c7_2, c8_0, c8_1, c8_2, c9_0, c9_1, c9_2, c10_0, c10_1, c10_2, c11_0, c11_1, c11_2, e0, e1, e2, e3, e4, e5]
end SX
end
section
set_option maxRecDepth 1000000
open Go.RowKit
namespace SX
def dtShape (args : List LV) (mem : List (Nat × Cells)) : Bool := match args, mem with
 | [.v (.s (.a (.sl b 0 3 3))), .v (.s (.a (.sl c 0 3 3)))], [(c', [some (.a (.int .i64 e6)), some (.a (.int .i64 e7)), some (.a (.int .i64 e8)), some (.a (.int .i64 e9)), some (.a (.int .i64 e10)), some (.a (.int .i64 e11))]), (b', [some (.a (.int .i64 e0)), some (.a (.int .i64 e1)), some (.a (.int .i64 e2)), some (.a (.int .i64 e3)), some (.a (.int .i64 e4)), some (.a (.int .i64 e5))])] => b == b' && c == c' && !(b == c) && rngE e0 && rngE e1 && rngE e2 && rngE e3 && rngE e4 && rngE e5 && rngE e6 && rngE e7 && rngE e8 && rngE e9 && rngE e10 && rngE e11
 | _, _ => false
theorem dtV_R64 (L : List Int) (k : Nat) : R64 (dtV L k) := by
 unfold dtV
 split
 ·exact sp3_R64 (foldD L).1.ok.1 (foldD L).1.ok.2 (foldD2 L) k
 ·split
  ·unfold R64; omega
  ·exact R64_0
theorem dtV_zero (L : List Int) (h : dtV L 2 ≠ 0) : dtV L 0 = 0 ∧ dtV L 1 = 0 := by
 unfold dtV at *
 split
 ·rename_i h1
  rw [if_pos h1] at h
  have := foldSP_zero stepD [prL L 0, prL L 1, prL L 2] .zero h
  exact ⟨congrArg FD.Sp.lo this, congrArg FD.Sp.hi this⟩
 ·exact ⟨rfl, rfl⟩
theorem dt_ok {S : Sig} {q : FuncId} (hs : S.sym q = some (17, 1)) (hval : ∀ L k, S.val 17 L k = dtV L k) {fn : Func} (hfn : Tryz.prog.funcs[q]? = some fn)
  (hres : ∀ base, ∃ m, nameRes Tryz.prog fn base = some (.tup [.agg [.a (.int .i64 (.var base)), .a (.int .i64 (.var (base + 1)))], .s (.a (.int .i64 (.var (base + 2))))], m))
  (hrd : ∀ {L : List Int}, (∀ x ∈ L, R64 x) → ∀ w : World, ∃ ε : Env, (∀ v, v < top → ε.i v = L.getD v 0) ∧ ∃ r, Ob.ok Tryz.prog ε w (.call (.blit true) q patD memD r []) ∧ ∀ ρ, r.den ε ρ = .tuple #[.agg #[.int .i64 (dtV L 0), .int .i64 (dtV L 1)], .int .i64 (dtV L 2)])
  {ε : Env} (hε : ∀ i, R64 (ε.i i)) {w : World} {args : List LV} {mem : List (Nat × Cells)} {res : LV} {upd : List (Nat × Cells)} (h : dtShape args mem = true)
  (hstd : stdRes Tryz.prog S.sym q args mem = some (res, upd)) (hsat : Ob.sat S ε (.call (.blit true) q args mem res upd)) : Ob.ok Tryz.prog ε w (.call (.blit true) q args mem res upd) := by
 unfold dtShape at h
 split at h
 case h_2 => cases h
 rename_i b c c' e6 e7 e8 e9 e10 e11 b' e0 e1 e2 e3 e4 e5
 simp only [Bool.and_eq_true, beq_iff_eq, Bool.not_eq_true', beq_eq_false_iff_ne] at h
 obtain ⟨⟨⟨⟨⟨⟨⟨⟨⟨⟨⟨⟨⟨⟨rfl, rfl⟩, hbc⟩, r0⟩, r1⟩, r2⟩, r3⟩, r4⟩, r5⟩, r6⟩, r7⟩, r8⟩, r9⟩, r10⟩, r11⟩ := h
 obtain ⟨cs, hcs⟩ : ∃ cs : Cells, [some (SV.a (.int .i64 e0)), some (.a (.int .i64 e1)), some (.a (.int .i64 e2)), some (.a (.int .i64 e3)), some (.a (.int .i64 e4)), some (.a (.int .i64 e5))] = cs := ⟨_, rfl⟩
 obtain ⟨ds, hds⟩ : ∃ ds : Cells, [some (SV.a (.int .i64 e6)), some (.a (.int .i64 e7)), some (.a (.int .i64 e8)), some (.a (.int .i64 e9)), some (.a (.int .i64 e10)), some (.a (.int .i64 e11))] = ds := ⟨_, rfl⟩
 rw [hcs, hds] at hstd hsat ⊢
 obtain ⟨base, hbase⟩ : ∃ base, callBase 17 [.v (.s (.a (.sl b 0 3 3))), .v (.s (.a (.sl c 0 3 3)))] [(c, ds), (b, cs)] = base := ⟨_, rfl⟩
 have hres' : res = .tup [zeroLess1 (.var (base + 2)) (.agg [.a (.int .i64 (.var base)), .a (.int .i64 (.var (base + 1)))]), .s (.a (.int .i64 (.var (base + 2))))] ∧ upd = [] := by
  unfold stdRes at hstd
  rw [hs, hfn] at hstd
  obtain ⟨m, hm⟩ := hres base
  simp [stdVal, hbase, hm, zeroLess1, zeroLess, mkIte] at hstd
  simp [zeroLess1, zeroLess, hstd]
 obtain ⟨rfl, rfl⟩ := hres'
 have hcn : callNo S q [.v (.s (.a (.sl b 0 3 3))), .v (.s (.a (.sl c 0 3 3)))] [(c, ds), (b, cs)] = some (base / 32, 17, [.v (.s (.a (.sl b 0 3 3))), .v (.s (.a (.sl c 0 3 3)))]) := by
  unfold callNo
  rw [hs, ← hbase]
  rfl
 have hb32 : base / 32 * 32 = base := by rw [← hbase]; exact base32 _ _ _
 have hv := fun k hk => (hsat _ _ _ hcn k hk).1
 rw [hb32] at hv
 have bbc : (b == c) = false := by simpa using hbc
 obtain ⟨L, hLd⟩ : ∃ L, [(e0.den ε).1, (e1.den ε).1, (e2.den ε).1, (e3.den ε).1, (e4.den ε).1, (e5.den ε).1, (e6.den ε).1, (e7.den ε).1, (e8.den ε).1, (e9.den ε).1, (e10.den ε).1, (e11.den ε).1] = L := ⟨_, rfl⟩
 have hLL : ([.v (.s (.a (.sl b 0 3 3))), .v (.s (.a (.sl c 0 3 3)))] : List LV).flatMap (argInts ε [(c, ds), (b, cs)]) = L := by
  rw [← hLd, ← hcs, ← hds]
  simp [argInts, List.lookup, cellsInts, SV.ints, bbc]
 simp only [hLL, hval] at hv
 have v0 : ε.i base = dtV L 0 := hv 0 (by omega)
 have v1 : ε.i (base + 1) = dtV L 1 := hv 1 (by omega)
 have v2 : ε.i (base + 2) = dtV L 2 := hv 2 (by omega)
 have hL : ∀ x ∈ L, R64 x := by
  rw [← hLd]
  intro x hx
  simp only [List.mem_cons, List.not_mem_nil, or_false] at hx
  rcases hx with rfl | rfl | rfl | rfl | rfl | rfl | rfl | rfl | rfl | rfl | rfl | rfl
  ·exact rngE_spec hε r0
  ·exact rngE_spec hε r1
  ·exact rngE_spec hε r2
  ·exact rngE_spec hε r3
  ·exact rngE_spec hε r4
  ·exact rngE_spec hε r5
  ·exact rngE_spec hε r6
  ·exact rngE_spec hε r7
  ·exact rngE_spec hε r8
  ·exact rngE_spec hε r9
  ·exact rngE_spec hε r10
  ·exact rngE_spec hε r11
 obtain ⟨ε', h0, r, hok, hr⟩ := hrd hL w
 intro _ w2 ρ hw2 hblk hinj
 obtain ⟨b1, b2, b3⟩ := hblk b cs (by simp [List.lookup, bbc])
 obtain ⟨c1, c2, c3⟩ := hblk c ds (by simp [List.lookup])
 have hρ : ρ b ≠ ρ c := fun e => hbc (hinj b c (by simp [List.lookup, bbc]) (by simp [List.lookup]) e)
 rw [← hLd] at h0
 have hB : ∀ (j : Nat) es, memD.lookup j = some es → Blk ε' (fun i => if i = 0 then ρ b else ρ c) w.heap.size w2 j es := fun j es hj => by
  unfold memD at hj
  simp only [List.lookup] at hj
  split at hj
  ·rename_i hh
   have hj0 : j = 0 := by simpa using hh
   cases hj
   subst hj0
   refine ⟨b1, b2, fun j c' hj => ?_⟩
   have key : ∀ e : E, cs[j]? = some (some (.a (.int .i64 e))) → c' = some (.a (.int .i64 (.var j))) → ε'.i j = (e.den ε).1 → ∃ v, w2.cell? ⟨ρ b, j, none⟩ = some v ∧ w2.frozen? ⟨ρ b, j, none⟩ = false ∧ ∀ s, c' = some s → v = s.den ε' (fun i => if i = 0 then ρ b else ρ c) := by
    intro e he hc hi
    obtain ⟨v, q1, q2, q3⟩ := b3 j _ he
    refine ⟨v, q1, q2, fun s hs => ?_⟩
    rw [hc] at hs
    cases hs
    rw [q3 _ rfl]
    simp only [SV.den, AV.den, E.den, hi]
   unfold cells6 at hj
   rw [← hcs] at key
   rcases j with _ | _ | _ | _ | _ | _ | j
   ·exact key e0 rfl (by simpa using hj.symm) (h0 0 (by decide))
   ·exact key e1 rfl (by simpa using hj.symm) (h0 1 (by decide))
   ·exact key e2 rfl (by simpa using hj.symm) (h0 2 (by decide))
   ·exact key e3 rfl (by simpa using hj.symm) (h0 3 (by decide))
   ·exact key e4 rfl (by simpa using hj.symm) (h0 4 (by decide))
   ·exact key e5 rfl (by simpa using hj.symm) (h0 5 (by decide))
   ·simp at hj
  ·split at hj
   ·rename_i hh
    have hj1 : j = 1 := by simpa using hh
    cases hj
    subst hj1
    refine ⟨c1, c2, fun j c' hj => ?_⟩
    have key : ∀ e : E, ds[j]? = some (some (.a (.int .i64 e))) → c' = some (.a (.int .i64 (.var (j + 6)))) → ε'.i (j + 6) = (e.den ε).1 → ∃ v, w2.cell? ⟨ρ c, j, none⟩ = some v ∧ w2.frozen? ⟨ρ c, j, none⟩ = false ∧ ∀ s, c' = some s → v = s.den ε' (fun i => if i = 0 then ρ b else ρ c) := by
     intro e he hc hi
     obtain ⟨v, q1, q2, q3⟩ := c3 j _ he
     refine ⟨v, q1, q2, fun s hs => ?_⟩
     rw [hc] at hs
     cases hs
     rw [q3 _ rfl]
     simp only [SV.den, AV.den, E.den, hi]
    unfold cells12 at hj
    rw [← hds] at key
    rcases j with _ | _ | _ | _ | _ | _ | j
    ·exact key e6 rfl (by simpa using hj.symm) (h0 6 (by decide))
    ·exact key e7 rfl (by simpa using hj.symm) (h0 7 (by decide))
    ·exact key e8 rfl (by simpa using hj.symm) (h0 8 (by decide))
    ·exact key e9 rfl (by simpa using hj.symm) (h0 9 (by decide))
    ·exact key e10 rfl (by simpa using hj.symm) (h0 10 (by decide))
    ·exact key e11 rfl (by simpa using hj.symm) (h0 11 (by decide))
    ·simp at hj
   ·cases hj
 have run := hok rfl w2 (fun i => if i = 0 then ρ b else ρ c) hw2 hB (fun c1 c2 h1 h2 he => by
  have z : ∀ c, (memD.lookup c).isSome = true → c = 0 ∨ c = 1 := fun c hc => by
   unfold memD at hc
   simp only [List.lookup] at hc
   split at hc
   ·rename_i hh; exact .inl (by simpa using hh)
   ·split at hc
    ·rename_i hh; exact .inr (by simpa using hh)
    ·cases hc
  rcases z c1 h1 with rfl | rfl <;> rcases z c2 h2 with rfl | rfl
  ·rfl
  ·exact absurd he hρ
  ·exact absurd he.symm hρ
  ·rfl)
 refine Calls.mono run fun e w' ⟨q1, _, q3⟩ => ⟨?_, by simp, Ext.mono q3 (by simp)⟩
 have q4 := q1.trans (congrArg Ending.returned (hr _))
 rw [q4]
 refine congrArg Ending.returned ?_
 show _ = Value.tuple #[.agg #[.int .i64 ((mkIte (mkEq 200 (.var (base + 2)) (.lit 0)) (.var base) (.lit 0)).den ε).1, .int .i64 ((mkIte (mkEq 200 (.var (base + 2)) (.lit 0)) (.var (base + 1)) (.lit 0)).den ε).1], .int .i64 (ε.i (base + 2))]
 have hz := dtV_zero L
 clear q1 q4 run hok hr h0 hv hsat hstd
 simp only [mkIte_den, mkEq_den, E.den, v0, v1, v2, beq_iff_eq]
 generalize dtV L 0 = y0 at *
 generalize dtV L 1 = y1 at *
 generalize dtV L 2 = y2 at *
 by_cases h : y2 = 0
 ·simp only [h, if_true]
 ·obtain ⟨k0, k1⟩ := hz h
  simp only [h, if_false, k0, k1]
noncomputable def valI (S : Sig) (T : Env) (f g : FuncId) (pat : List LV) (L : List Int) : Int := clampI ((intE (rd Tryz.prog KF 3000 (2^240) f pat []).1).den ((envL T (L.map clampI)).solve S ((rd Tryz.prog KF 3000 (2^240) f pat []).2.2 ++ (rd Tryz.prog KF 3000 (2^240) g pat []).2.2))).1
noncomputable def envM (S : Sig) (T : Env) (f g : FuncId) (rest : List LV) (L : List Int) : Env := (envL T (L.map clampI)).solve S ((rd Tryz.prog KF 3000 (2^240) f (ptrP rest) memP).2.2 ++ (rd Tryz.prog KF 3000 (2^240) g (ptrP rest) memP).2.2)
noncomputable def valM (S : Sig) (T : Env) (f g : FuncId) (rest : List LV) (L : List Int) (k : Nat) : Int := match k with
 | 0 => clampI ((spE0 (rd Tryz.prog KF 3000 (2^240) f (ptrP rest) memP).1).den (envM S T f g rest L)).1
 | 1 => clampI ((spE1 (rd Tryz.prog KF 3000 (2^240) f (ptrP rest) memP).1).den (envM S T f g rest L)).1
 | 31 => clampI ((cellE (rd Tryz.prog KF 3000 (2^240) f (ptrP rest) memP).2.1).den (envM S T f g rest L)).1
 | _ => 0
theorem valM_R64 (S : Sig) (T : Env) (f g : FuncId) (rest : List LV) (L : List Int) (k : Nat) : R64 (valM S T f g rest L k) := by
 unfold valM
 split
 ·exact clampI_R64 _
 ·exact clampI_R64 _
 ·exact clampI_R64 _
 ·exact R64_0
noncomputable def val1 (n : Nat) (at_ lo hi : Nat → Int) (T : Env) (s : Nat) (L : List Int) (k : Nat) : Int := if s ≤ 11 then val0 n at_ lo hi s L k else match s with
 | 16 => nmV L k
 | 17 => dtV L k
 | 30 => valI (S0 n at_ lo hi) T 14 18 pat30 L
 | 32 => valI (S0 n at_ lo hi) T 40 43 pat32 L
 | 34 => valI (S0 n at_ lo hi) T 28 34 pat34 L
 | 42 => valM (S0 n at_ lo hi) T 48 19 pat42 L k
 | 43 => valM (S0 n at_ lo hi) T 30 36 pat43 L k
 | 44 => valM (S0 n at_ lo hi) T 23 26 pat44 L k
 | 46 => valM (S0 n at_ lo hi) T 32 38 pat46 L k
 | 48 => valM (S0 n at_ lo hi) T 31 37 pat48 L k
 | _ => 0
theorem val1_R64 (n : Nat) (at_ lo hi : Nat → Int) (T : Env) (s : Nat) (L : List Int) (k : Nat) : R64 (val1 n at_ lo hi T s L k) := by
 unfold val1
 split
 ·exact val0_R64 _ _ _ _ _ _ _
 ·split
  all_goals first
   | exact nmV_R64 _ _
   | exact dtV_R64 _ _
   | exact clampI_R64 _
   | exact valM_R64 _ _ _ _ _ _ _
   | exact R64_0
noncomputable def S1 (n : Nat) (at_ lo hi : Nat → Int) (T : Env) : Sig := ⟨fun f => sy.lookup f, val1 n at_ lo hi T⟩
def whShape (args : List LV) (mem : List (Nat × Cells)) : Bool := mem.isEmpty && (args == [.v (.s (.a (.int .i64 (.lit 2))))])
def shp1 (f : FuncId) (args : List LV) (mem : List (Nat × Cells)) : Bool :=
 if f == 14 || f == 18 then matchLVs pat30 args 0 else
 if f == 40 || f == 43 then matchLVs pat32 args 0 else
 if f == 28 || f == 34 then matchLVs pat34 args 0 else
 if f == 48 || f == 19 then shpM pat42 args mem else
 if f == 30 || f == 36 then shpM pat43 args mem else
 if f == 23 || f == 26 then shpM pat44 args mem else
 if f == 32 || f == 38 then shpM pat46 args mem else
 if f == 31 || f == 37 then shpM pat48 args mem else
 if f == 21 || f == 22 then nmShape args mem else
 if f == 67 || f == 69 then dtShape args mem else
 if f == 39 then whShape args mem else
 shp0 f args mem
theorem shpM_R64 {ε : Env} (hε : ∀ i, R64 (ε.i i)) {rest args : List LV} {mem : List (Nat × Cells)} (h : shpM rest args mem = true) (hr : args.all rngLV = true) (hp : rest.all fsl0LV = true) : ∀ x ∈ args.flatMap (argInts ε []), R64 x := by
 unfold shpM at h
 split at h
 ·simp only [Bool.and_eq_true] at h
  intro x hx
  rw [List.flatMap_cons] at hx
  rcases List.mem_append.1 hx with hx | hx
  ·simp [argInts, V1.cells, SV.ints] at hx
  ·simp only [List.all_cons, Bool.and_eq_true] at hr
   exact matchLVs_R64 hε h.1.2 hr.2 hp x hx
 ·cases h
theorem shp0_le {f : FuncId} {args : List LV} {mem : List (Nat × Cells)} {s z : Nat} (h : shp0 f args mem = true) (hs : sy.lookup f = some (s, z)) : s ≤ 11 := by
 unfold shp0 at h
 split at h
 ·rename_i p hp
  have := List.all_eq_true.1 (show shpL.all (fun x => match sy.lookup x.1 with | some y => decide (y.1 ≤ 11) | none => true) = true by kernel_rfl) _ (lookup_mem hp)
  simp only [hs, decide_eq_true_eq] at this
  exact this
 ·cases h
theorem con1 (n cap : Nat) (A : Option Addr) (at_ lo hi : Nat → Int) (w0 : World) (hT : 0 < n → ∃ ad, A = some ad ∧ Tab w0 ad n at_ lo hi) (hI : ∀ i, i < n → I64 (at_ i) ∧ I64 (lo i) ∧ I64 (hi i)) (T : Env) (hA : T.sa 0 = A) (hn : T.sn 0 = n) (hcp : T.sc 0 = cap) :
  Con Tryz.prog (S1 n at_ lo hi T) shp1 T w0 := by
 have c0 := con0 n cap A at_ lo hi w0 hT hI T hA hn hcp
 intro ε h1 h2 h3 hε w hw f args mem res upd hsh hstd hr hsat
 have ht : ε.sa = T.sa ∧ ε.sn = T.sn ∧ ε.sc = T.sc := ⟨h1, h2, h3⟩
 have hS0 : ∀ s l k, R64 ((S0 n at_ lo hi).val s l k) := fun s l k => val0_R64 _ _ _ _ s l k
 unfold shp1 at hsh
 by_cases hf : (f == 14 || f == 18) = true
 ·rw [if_pos hf] at hsh
  have hq : f = 14 ∨ f = 18 := by simp only [Bool.or_eq_true, beq_iff_eq] at hf; exact hf
  have hR := matchLVs_R64 hε hsh (rngOb_args hr) (by kernel_rfl)
  rcases hq with rfl | rfl
  ·exact pairI_con hmix (by decide) (pair30 n at_ lo hi) (of_decide_eq_true (by kernel_rfl)) hS0 c0 (s := 30) (fun L => rfl) (.inl rfl) rfl Tryz.func14 (fun base => ⟨base + 1, by kernel_rfl⟩) ε ht hw hsh hR hstd hsat
  ·exact pairI_con hmix (by decide) (pair30 n at_ lo hi) (of_decide_eq_true (by kernel_rfl)) hS0 c0 (s := 30) (fun L => rfl) (.inr rfl) rfl Tryz.func18 (fun base => ⟨base + 1, by kernel_rfl⟩) ε ht hw hsh hR hstd hsat
 rw [if_neg hf] at hsh
 clear hf
 by_cases hf : (f == 40 || f == 43) = true
 ·rw [if_pos hf] at hsh
  have hq : f = 40 ∨ f = 43 := by simp only [Bool.or_eq_true, beq_iff_eq] at hf; exact hf
  have hR := matchLVs_R64 hε hsh (rngOb_args hr) (by kernel_rfl)
  rcases hq with rfl | rfl
  ·exact pairI2_con hmix (by decide) (pair32 n at_ lo hi) (heq32 n at_ lo hi) (of_decide_eq_true (by kernel_rfl)) hS0 c0 (s := 32) (fun L => rfl) (.inl rfl) rfl Tryz.func40 (fun base => ⟨base + 1, by kernel_rfl⟩) ε ht hw hsh hR hstd hsat
  ·exact pairI2_con hmix (by decide) (pair32 n at_ lo hi) (heq32 n at_ lo hi) (of_decide_eq_true (by kernel_rfl)) hS0 c0 (s := 32) (fun L => rfl) (.inr rfl) rfl Tryz.func43 (fun base => ⟨base + 1, by kernel_rfl⟩) ε ht hw hsh hR hstd hsat
 rw [if_neg hf] at hsh
 clear hf
 by_cases hf : (f == 28 || f == 34) = true
 ·rw [if_pos hf] at hsh
  have hq : f = 28 ∨ f = 34 := by simp only [Bool.or_eq_true, beq_iff_eq] at hf; exact hf
  have hR := matchLVs_R64 hε hsh (rngOb_args hr) (by kernel_rfl)
  rcases hq with rfl | rfl
  ·exact pairI2_con hmix (by decide) (pair34 n at_ lo hi) (heq34 n at_ lo hi) (of_decide_eq_true (by kernel_rfl)) hS0 c0 (s := 34) (fun L => rfl) (.inl rfl) rfl Tryz.func28 (fun base => ⟨base + 1, by kernel_rfl⟩) ε ht hw hsh hR hstd hsat
  ·exact pairI2_con hmix (by decide) (pair34 n at_ lo hi) (heq34 n at_ lo hi) (of_decide_eq_true (by kernel_rfl)) hS0 c0 (s := 34) (fun L => rfl) (.inr rfl) rfl Tryz.func34 (fun base => ⟨base + 1, by kernel_rfl⟩) ε ht hw hsh hR hstd hsat
 rw [if_neg hf] at hsh
 clear hf
 by_cases hf : (f == 48 || f == 19) = true
 ·rw [if_pos hf] at hsh
  have hq : f = 48 ∨ f = 19 := by simp only [Bool.or_eq_true, beq_iff_eq] at hf; exact hf
  have hR := shpM_R64 hε hsh (rngOb_args hr) (by kernel_rfl)
  rcases hq with rfl | rfl
  ·exact pairM_con hmix (by decide) (pair42 n at_ lo hi) (of_decide_eq_true (by kernel_rfl)) hS0 c0 (s := 42) (fun L => rfl) (fun L => rfl) (fun L => rfl) (.inl rfl) rfl Tryz.func48 (fun base => ⟨base + 2, by kernel_rfl⟩) ε ht hε hw hsh hR hstd hsat
  ·exact pairM_con hmix (by decide) (pair42 n at_ lo hi) (of_decide_eq_true (by kernel_rfl)) hS0 c0 (s := 42) (fun L => rfl) (fun L => rfl) (fun L => rfl) (.inr rfl) rfl Tryz.func19 (fun base => ⟨base + 2, by kernel_rfl⟩) ε ht hε hw hsh hR hstd hsat
 rw [if_neg hf] at hsh
 clear hf
 by_cases hf : (f == 30 || f == 36) = true
 ·rw [if_pos hf] at hsh
  have hq : f = 30 ∨ f = 36 := by simp only [Bool.or_eq_true, beq_iff_eq] at hf; exact hf
  have hR := shpM_R64 hε hsh (rngOb_args hr) (by kernel_rfl)
  rcases hq with rfl | rfl
  ·exact pairM_con hmix (by decide) (pair43 n at_ lo hi) (of_decide_eq_true (by kernel_rfl)) hS0 c0 (s := 43) (fun L => rfl) (fun L => rfl) (fun L => rfl) (.inl rfl) rfl Tryz.func30 (fun base => ⟨base + 2, by kernel_rfl⟩) ε ht hε hw hsh hR hstd hsat
  ·exact pairM_con hmix (by decide) (pair43 n at_ lo hi) (of_decide_eq_true (by kernel_rfl)) hS0 c0 (s := 43) (fun L => rfl) (fun L => rfl) (fun L => rfl) (.inr rfl) rfl Tryz.func36 (fun base => ⟨base + 2, by kernel_rfl⟩) ε ht hε hw hsh hR hstd hsat
 rw [if_neg hf] at hsh
 clear hf
 by_cases hf : (f == 23 || f == 26) = true
 ·rw [if_pos hf] at hsh
  have hq : f = 23 ∨ f = 26 := by simp only [Bool.or_eq_true, beq_iff_eq] at hf; exact hf
  have hR := shpM_R64 hε hsh (rngOb_args hr) (by kernel_rfl)
  rcases hq with rfl | rfl
  ·exact pairM_con hmix (by decide) (pair44 n at_ lo hi) (of_decide_eq_true (by kernel_rfl)) hS0 c0 (s := 44) (fun L => rfl) (fun L => rfl) (fun L => rfl) (.inl rfl) rfl Tryz.func23 (fun base => ⟨base + 2, by kernel_rfl⟩) ε ht hε hw hsh hR hstd hsat
  ·exact pairM_con hmix (by decide) (pair44 n at_ lo hi) (of_decide_eq_true (by kernel_rfl)) hS0 c0 (s := 44) (fun L => rfl) (fun L => rfl) (fun L => rfl) (.inr rfl) rfl Tryz.func26 (fun base => ⟨base + 2, by kernel_rfl⟩) ε ht hε hw hsh hR hstd hsat
 rw [if_neg hf] at hsh
 clear hf
 by_cases hf : (f == 32 || f == 38) = true
 ·rw [if_pos hf] at hsh
  have hq : f = 32 ∨ f = 38 := by simp only [Bool.or_eq_true, beq_iff_eq] at hf; exact hf
  have hR := shpM_R64 hε hsh (rngOb_args hr) (by kernel_rfl)
  rcases hq with rfl | rfl
  ·exact pairM_con hmix (by decide) (pair46 n at_ lo hi) (of_decide_eq_true (by kernel_rfl)) hS0 c0 (s := 46) (fun L => rfl) (fun L => rfl) (fun L => rfl) (.inl rfl) rfl Tryz.func32 (fun base => ⟨base + 2, by kernel_rfl⟩) ε ht hε hw hsh hR hstd hsat
  ·exact pairM_con hmix (by decide) (pair46 n at_ lo hi) (of_decide_eq_true (by kernel_rfl)) hS0 c0 (s := 46) (fun L => rfl) (fun L => rfl) (fun L => rfl) (.inr rfl) rfl Tryz.func38 (fun base => ⟨base + 2, by kernel_rfl⟩) ε ht hε hw hsh hR hstd hsat
 rw [if_neg hf] at hsh
 clear hf
 by_cases hf : (f == 31 || f == 37) = true
 ·rw [if_pos hf] at hsh
  have hq : f = 31 ∨ f = 37 := by simp only [Bool.or_eq_true, beq_iff_eq] at hf; exact hf
  have hR := shpM_R64 hε hsh (rngOb_args hr) (by kernel_rfl)
  rcases hq with rfl | rfl
  ·exact pairM_con hmix (by decide) (pair48 n at_ lo hi) (of_decide_eq_true (by kernel_rfl)) hS0 c0 (s := 48) (fun L => rfl) (fun L => rfl) (fun L => rfl) (.inl rfl) rfl Tryz.func31 (fun base => ⟨base + 2, by kernel_rfl⟩) ε ht hε hw hsh hR hstd hsat
  ·exact pairM_con hmix (by decide) (pair48 n at_ lo hi) (of_decide_eq_true (by kernel_rfl)) hS0 c0 (s := 48) (fun L => rfl) (fun L => rfl) (fun L => rfl) (.inr rfl) rfl Tryz.func37 (fun base => ⟨base + 2, by kernel_rfl⟩) ε ht hε hw hsh hR hstd hsat
 rw [if_neg hf] at hsh
 clear hf
 by_cases hf : (f == 21 || f == 22) = true
 ·rw [if_pos hf] at hsh
  have hq : f = 21 ∨ f = 22 := by simp only [Bool.or_eq_true, beq_iff_eq] at hf; exact hf
  rcases hq with rfl | rfl
  ·exact nm_ok rfl (fun _ _ => rfl) Tryz.func21 (fun base => ⟨base + 3, by kernel_rfl⟩) (fun {L} hL w => by obtain ⟨ε, h0, hok, hr⟩ := snorm_in hL w; exact ⟨ε, h0, _, hok, hr⟩) hε hsh hstd hsat
  ·exact nm_ok rfl (fun _ _ => rfl) Tryz.func22 (fun base => ⟨base + 3, by kernel_rfl⟩) (fun {L} hL w => by obtain ⟨ε, h0, hok, hr⟩ := rnorm_in hL w; exact ⟨ε, h0, _, hok, hr⟩) hε hsh hstd hsat
 rw [if_neg hf] at hsh
 clear hf
 by_cases hf : (f == 67 || f == 69) = true
 ·rw [if_pos hf] at hsh
  have hq : f = 67 ∨ f = 69 := by simp only [Bool.or_eq_true, beq_iff_eq] at hf; exact hf
  rcases hq with rfl | rfl
  ·exact dt_ok rfl (fun _ _ => rfl) Tryz.func67 (fun base => ⟨base + 3, by kernel_rfl⟩) (fun {L} hL w => by obtain ⟨ε, h0, hok, hr⟩ := sdot_in hL w; exact ⟨ε, h0, _, hok, hr⟩) hε hsh hstd hsat
  ·exact dt_ok rfl (fun _ _ => rfl) Tryz.func69 (fun base => ⟨base + 3, by kernel_rfl⟩) (fun {L} hL w => by obtain ⟨ε, h0, hok, hr⟩ := rdot_in hL w; exact ⟨ε, h0, _, hok, hr⟩) hε hsh hstd hsat
 rw [if_neg hf] at hsh
 clear hf
 by_cases hf : (f == 39) = true
 ·rw [if_pos hf] at hsh
  have hq : f = 39 := eq_of_beq hf
  subst hq
  unfold whShape at hsh
  simp only [Bool.and_eq_true, Bool.or_eq_true, beq_iff_eq, List.isEmpty_iff] at hsh
  obtain ⟨rfl, hsh⟩ := hsh
  have hS00 : ∀ s l k, R64 (S00.val s l k) := fun s l k => val0_R64 _ _ _ _ s l k
  have hc := fun (ε : Env) (_ : ∀ v, v < top → ε.i v = ([] : List Int).getD v 0) e1 e2 e3 e4 f args mem res upd k1 k2 k3 k4 => con00 w ε e1 e2 e3 e4 w (Below.refl _ _) f args mem res upd k1 k2 k3 k4
  rcases hsh with rfl
  ·have hz : stdRes Tryz.prog (S1 n at_ lo hi T).sym 39 [.v (.s (.a (.int .i64 (.lit 2))))] [] = some (.v (.agg [.a (.int .i64 (.lit 8589934592)), .a (.int .i64 (.lit 8589934592))]), []) := by
    unfold stdRes; rw [show (S1 n at_ lo hi T).sym 39 = some (60, 4) from rfl, Tryz.func39]; rfl
   rw [hz] at hstd
   cases hstd
   obtain ⟨ε', -, -, -, -, -, -, hok⟩ := read_ob hmix (by decide) whole2 hS00 T0 (w := w) (L := []) (by simp) hc
   rw [whole2_lit] at hok
   intro _ w2 ρ hw2 hblk hinj
   have run := hok rfl w2 ρ hw2 (fun b cs h => by cases h) hinj
   rw [show List.map (LV.den ε' ρ) [LV.v (.s (.a (.int .i64 (.lit 2))))] = List.map (LV.den ε ρ) [LV.v (.s (.a (.int .i64 (.lit 2))))] from rfl] at run
   exact Calls.mono run fun e w' ⟨q1, _, q3⟩ => ⟨q1.trans rfl, by simp, q3⟩
 rw [if_neg hf] at hsh
 clear hf
 ·have hsym : (S1 n at_ lo hi T).sym f = (S0 n at_ lo hi).sym f := rfl
  rw [std_of hsym] at hstd
  refine c0 ε h1 h2 h3 hε w hw f args mem res upd hsh hstd hr (sat_of hsym (fun s z hs L' k => ?_) hsat)
  show (if s ≤ 11 then _ else _) = _
  rw [if_pos (shp0_le hsh hs)]; rfl
end SX
end
section
set_option maxRecDepth 1000000
open Go.RowKit
namespace SX
def sz3 : List (Option Nat) := [some 2, none]
theorem nm_cases (L : List Int) : (vB (L.getD 0 0) (L.getD 1 0) = true ∧ vB (L.getD 2 0) (L.getD 3 0) = true ∧ vB (L.getD 4 0) (L.getD 5 0) = true) ∨ nmV L 2 = 2 := by
 by_cases h : (vB (L.getD 0 0) (L.getD 1 0) && vB (L.getD 2 0) (L.getD 3 0) && vB (L.getD 4 0) (L.getD 5 0)) = true
 ·left
  simp only [Bool.and_eq_true] at h
  exact ⟨h.1.1, h.1.2, h.2⟩
 ·right
  unfold nmV
  rw [if_neg h, if_pos rfl]
def pat90 : List LV := [.v (.agg [.a (.int .i64 (.var 0)), .a (.int .i64 (.var 1)), .a (.int .i64 (.var 2)), .a (.int .i64 (.var 3)), .a (.int .i64 (.var 4)), .a (.int .i64 (.var 5)), .a (.int .i64 (.var 6)), .a (.int .i64 (.var 7)), .a (.int .i64 (.var 8)), .a (.int .i64 (.var 9)), .a (.int .i64 (.var 10)), .a (.int .i64 (.var 11)), .a (.int .i64 (.var 12)), .a (.int .i64 (.var 13))]), .v (.agg [.a (.int .i64 (.var 14)), .a (.int .i64 (.var 15)), .a (.int .i64 (.var 16)), .a (.int .i64 (.var 17)), .a (.int .i64 (.var 18)), .a (.int .i64 (.var 19))])]
theorem pair90 (n : Nat) (at_ lo hi : Nat → Int) (T : Env) : pairG Tryz.prog (S1 n at_ lo hi T) shp1 KF 3000 (2^240) 4 5 pat90 sz3 = true := by kernel_rfl
def l_heP : List E := [(.ite (.cmp .eql (.var 212311224018084962752) (.lit 0)) (.ite (.cmp .eql (.var 190395316421738332480) (.lit 0)) (.ite (.cmp .eql (.var 191314915832220578400) (.lit 0)) (.ite (.cmp .eql (.var 192234515242702824320) (.lit 0)) (.ite (.cmp .eql (.var 188482923080007227007) (.lit 0)) (.var 188482923080007226976) (.lit 0)) (.lit 0)) (.lit 0)) (.lit 0)) (.lit 0)),
 (.ite (.cmp .eql (.var 212311224018084962752) (.lit 0)) (.ite (.cmp .eql (.var 190395316421738332480) (.lit 0)) (.ite (.cmp .eql (.var 191314915832220578400) (.lit 0)) (.ite (.cmp .eql (.var 192234515242702824320) (.lit 0)) (.ite (.cmp .eql (.var 188482923080007227007) (.lit 0)) (.var 188482923080007226977) (.lit 0)) (.lit 0)) (.lit 0)) (.lit 0)) (.lit 0)),
 (.ite (.cmp .eql (.var 212311224018084962752) (.lit 0)) (.ite (.cmp .eql (.var 190395316421738332480) (.lit 0)) (.ite (.cmp .eql (.var 191314915832220578400) (.lit 0)) (.ite (.cmp .eql (.var 192234515242702824320) (.lit 0)) (.var 188482923080007227007) (.lit 2)) (.lit 2)) (.lit 2)) (.lit 2))]
theorem l_heP_is : flatLV (rd Tryz.prog KF 3000 (2^240) 4 pat90 []).1 = l_heP := eq_of_beq (by kernel_rfl)
def l_heQ : List E := [(.ite (.cmp .eql (.var 212311224018084962752) (.lit 0)) (.ite (.cmp .eql (.var 190395316421738332480) (.lit 0)) (.ite (.cmp .eql (.var 191314915832220578400) (.lit 0)) (.ite (.cmp .eql (.var 192234515242702824320) (.lit 0)) (.ite (.cmp .eql (.var 188482923080007227007) (.lit 0)) (.var 188482923080007226976) (.lit 0)) (.lit 0)) (.lit 0)) (.lit 0)) (.lit 0)),
 (.ite (.cmp .eql (.var 212311224018084962752) (.lit 0)) (.ite (.cmp .eql (.var 190395316421738332480) (.lit 0)) (.ite (.cmp .eql (.var 191314915832220578400) (.lit 0)) (.ite (.cmp .eql (.var 192234515242702824320) (.lit 0)) (.ite (.cmp .eql (.var 188482923080007227007) (.lit 0)) (.var 188482923080007226977) (.lit 0)) (.lit 0)) (.lit 0)) (.lit 0)) (.lit 0)),
 (.ite (.cmp .eql (.var 212311224018084962752) (.lit 0)) (.ite (.cmp .eql (.var 190395316421738332480) (.lit 0)) (.ite (.cmp .eql (.var 191314915832220578400) (.lit 0)) (.ite (.cmp .eql (.var 192234515242702824320) (.lit 0)) (.ite (.cmp .eql (.var 188482923080007227007) (.lit 0)) (.lit 0) (.var 188482923080007227007)) (.lit 2)) (.lit 2)) (.lit 2)) (.lit 2))]
theorem l_heQ_is : flatLV (rd Tryz.prog KF 3000 (2^240) 5 pat90 []).1 = l_heQ := eq_of_beq (by kernel_rfl)
theorem heq90 {n : Nat} {at_ lo hi : Nat → Int} {T : Env} {ε : Env} (hs : ∀ ob ∈ ((rd Tryz.prog KF 3000 (2^240) 4 pat90 []).2.2 ++ (rd Tryz.prog KF 3000 (2^240) 5 pat90 []).2.2), ob.sat (S1 n at_ lo hi T) ε) : ∀ k, k < 3 → ((resE (rd Tryz.prog KF 3000 (2^240) 5 pat90 []).1 k).den ε).1 = ((resE (rd Tryz.prog KF 3000 (2^240) 4 pat90 []).1 k).den ε).1 := by
 intro k hk
 unfold resE
 rw [l_heQ_is, l_heP_is]
 clear hs
 rcases k with _ | _ | _ | k
 all_goals first | omega | (simp only [l_heP, l_heQ, List.getD_cons_zero, List.getD_cons_succ, E.den, co_eql]; try grind)
def pat91 : List LV := [.v (.agg [.a (.int .i64 (.var 0)), .a (.int .i64 (.var 1)), .a (.int .i64 (.var 2)), .a (.int .i64 (.var 3)), .a (.int .i64 (.var 4)), .a (.int .i64 (.var 5))])]
theorem pair91 (n : Nat) (at_ lo hi : Nat → Int) (T : Env) : pairG Tryz.prog (S1 n at_ lo hi T) shp1 KF 3000 (2^240) 6 7 pat91 sz3 = true := by kernel_rfl
def l_spP : List E := [(.ite (.cmp .eql (.var 183958120548362611040) (.lit 0)) (.ite (.cmp .eql (.var 184877719958844856960) (.lit 0)) (.ite (.cmp .eql (.var 185797319369327102880) (.lit 0)) (.ite (.cmp .eql (.var 169563655531252024162) (.lit 0)) (.var 169563655531252024160) (.lit 0)) (.lit 0)) (.lit 0)) (.lit 0)),
 (.ite (.cmp .eql (.var 183958120548362611040) (.lit 0)) (.ite (.cmp .eql (.var 184877719958844856960) (.lit 0)) (.ite (.cmp .eql (.var 185797319369327102880) (.lit 0)) (.ite (.cmp .eql (.var 169563655531252024162) (.lit 0)) (.var 169563655531252024161) (.lit 0)) (.lit 0)) (.lit 0)) (.lit 0)),
 (.ite (.cmp .eql (.var 183958120548362611040) (.lit 0)) (.ite (.cmp .eql (.var 184877719958844856960) (.lit 0)) (.ite (.cmp .eql (.var 185797319369327102880) (.lit 0)) (.var 169563655531252024162) (.lit 2)) (.lit 2)) (.lit 2))]
theorem l_spP_is : flatLV (rd Tryz.prog KF 3000 (2^240) 6 pat91 []).1 = l_spP := eq_of_beq (by kernel_rfl)
def l_spQ : List E := [(.ite (.cmp .eql (.var 169563655531252024162) (.lit 0)) (.var 169563655531252024160) (.lit 0)),
 (.ite (.cmp .eql (.var 169563655531252024162) (.lit 0)) (.var 169563655531252024161) (.lit 0)),
 (E.var 169563655531252024162)]
theorem l_spQ_is : flatLV (rd Tryz.prog KF 3000 (2^240) 7 pat91 []).1 = l_spQ := eq_of_beq (by kernel_rfl)
theorem heq91 {n : Nat} {at_ lo hi : Nat → Int} {T : Env} {ε : Env} (hs : ∀ ob ∈ ((rd Tryz.prog KF 3000 (2^240) 6 pat91 []).2.2 ++ (rd Tryz.prog KF 3000 (2^240) 7 pat91 []).2.2), ob.sat (S1 n at_ lo hi T) ε) : ∀ k, k < 3 → ((resE (rd Tryz.prog KF 3000 (2^240) 7 pat91 []).1 k).den ε).1 = ((resE (rd Tryz.prog KF 3000 (2^240) 6 pat91 []).1 k).den ε).1 := by
 intro k hk
 unfold resE
 rw [l_spQ_is, l_spP_is]
 obtain ⟨m, c⟩ := sat_call (S := S1 n at_ lo hi T) (fun ob hb => hs ob (List.mem_append_left _ hb)) (s := 9) (base := 183958120548362611040) (args := [.v (.agg [.a (.int .i64 (.var 0)), .a (.int .i64 (.var 1))])]) (by kernel_rfl)
 have c0 : ε.i 183958120548362611040 = if vB (ε.i 0) (ε.i 1) then 0 else 2 := c 0 (by omega)
 clear c m
 obtain ⟨m, c⟩ := sat_call (S := S1 n at_ lo hi T) (fun ob hb => hs ob (List.mem_append_left _ hb)) (s := 9) (base := 184877719958844856960) (args := [.v (.agg [.a (.int .i64 (.var 2)), .a (.int .i64 (.var 3))])]) (by kernel_rfl)
 have c1 : ε.i 184877719958844856960 = if vB (ε.i 2) (ε.i 3) then 0 else 2 := c 0 (by omega)
 clear c m
 obtain ⟨m, c⟩ := sat_call (S := S1 n at_ lo hi T) (fun ob hb => hs ob (List.mem_append_left _ hb)) (s := 9) (base := 185797319369327102880) (args := [.v (.agg [.a (.int .i64 (.var 4)), .a (.int .i64 (.var 5))])]) (by kernel_rfl)
 have c2 : ε.i 185797319369327102880 = if vB (ε.i 4) (ε.i 5) then 0 else 2 := c 0 (by omega)
 clear c m
 have nn := sat_callM (S := S1 n at_ lo hi T) (fun ob hb => hs ob (List.mem_append_left _ hb)) (s := 16) (base := 169563655531252024160) (args := [.v (.s (.a (AV.sl 1 0 3 3)))]) (mem := [(1, [some (.a (.int .i64 (.var 0))), some (.a (.int .i64 (.var 1))), some (.a (.int .i64 (.var 2))), some (.a (.int .i64 (.var 3))), some (.a (.int .i64 (.var 4))), some (.a (.int .i64 (.var 5)))])]) (by kernel_rfl)
 have n2 : ε.i 169563655531252024162 = nmV [ε.i 0, ε.i 1, ε.i 2, ε.i 3, ε.i 4, ε.i 5] 2 := nn 2 (by omega)
 clear nn
 rcases nm_cases [ε.i 0, ε.i 1, ε.i 2, ε.i 3, ε.i 4, ε.i 5] with ⟨v0, v1, v2⟩ | hn
 ·simp only [List.getD_cons_zero, List.getD_cons_succ] at v0 v1 v2
  rw [v0, if_pos rfl] at c0
  rw [v1, if_pos rfl] at c1
  rw [v2, if_pos rfl] at c2
  clear n2 hs
  rcases k with _ | _ | _ | k
  all_goals first | omega | simp only [l_spP, l_spQ, List.getD_cons_zero, List.getD_cons_succ, E.den, co_eql, c0, c1, c2, if_true]
 ·rw [hn] at n2
  clear hs c0 c1 c2
  rcases k with _ | _ | _ | k
  all_goals first | omega | (simp only [l_spP, l_spQ, List.getD_cons_zero, List.getD_cons_succ, E.den, co_eql, n2]; grind)
def pat92 : List LV := [.v (.agg [.a (.int .i64 (.var 0)), .a (.int .i64 (.var 1)), .a (.int .i64 (.var 2)), .a (.int .i64 (.var 3)), .a (.int .i64 (.var 4)), .a (.int .i64 (.var 5))]), .v (.agg [.a (.int .i64 (.var 6)), .a (.int .i64 (.var 7)), .a (.int .i64 (.var 8)), .a (.int .i64 (.var 9)), .a (.int .i64 (.var 10)), .a (.int .i64 (.var 11))])]
theorem pair92 (n : Nat) (at_ lo hi : Nat → Int) (T : Env) : pairG Tryz.prog (S1 n at_ lo hi T) shp1 KF 3000 (2^240) 8 9 pat92 sz3 = true := by kernel_rfl
def l_clP : List E := [(.ite (.cmp .eql (.var 183958120548362611040) (.lit 0)) (.ite (.cmp .eql (.var 184877719958844856960) (.lit 0)) (.ite (.cmp .eql (.var 185797319369327102880) (.lit 0)) (.ite (.cmp .eql (.var 186716918779809348800) (.lit 0)) (.ite (.cmp .eql (.var 187636518190291594720) (.lit 0)) (.ite (.cmp .eql (.var 188556117600773840640) (.lit 0)) (.ite (.cmp .eql (.var 161511445877578853599) (.lit 0)) (.var 161511445877578853568) (.lit 0)) (.lit 0)) (.lit 0)) (.lit 0)) (.lit 0)) (.lit 0)) (.lit 0)),
 (.ite (.cmp .eql (.var 183958120548362611040) (.lit 0)) (.ite (.cmp .eql (.var 184877719958844856960) (.lit 0)) (.ite (.cmp .eql (.var 185797319369327102880) (.lit 0)) (.ite (.cmp .eql (.var 186716918779809348800) (.lit 0)) (.ite (.cmp .eql (.var 187636518190291594720) (.lit 0)) (.ite (.cmp .eql (.var 188556117600773840640) (.lit 0)) (.ite (.cmp .eql (.var 161511445877578853599) (.lit 0)) (.var 161511445877578853569) (.lit 0)) (.lit 0)) (.lit 0)) (.lit 0)) (.lit 0)) (.lit 0)) (.lit 0)),
 (.ite (.cmp .eql (.var 183958120548362611040) (.lit 0)) (.ite (.cmp .eql (.var 184877719958844856960) (.lit 0)) (.ite (.cmp .eql (.var 185797319369327102880) (.lit 0)) (.ite (.cmp .eql (.var 186716918779809348800) (.lit 0)) (.ite (.cmp .eql (.var 187636518190291594720) (.lit 0)) (.ite (.cmp .eql (.var 188556117600773840640) (.lit 0)) (.var 161511445877578853599) (.lit 2)) (.lit 2)) (.lit 2)) (.lit 2)) (.lit 2)) (.lit 2))]
theorem l_clP_is : flatLV (rd Tryz.prog KF 3000 (2^240) 8 pat92 []).1 = l_clP := eq_of_beq (by kernel_rfl)
def l_clQ : List E := [(.ite (.cmp .eql (.var 183958120548362611040) (.lit 0)) (.ite (.cmp .eql (.var 184877719958844856960) (.lit 0)) (.ite (.cmp .eql (.var 185797319369327102880) (.lit 0)) (.ite (.cmp .eql (.var 186716918779809348800) (.lit 0)) (.ite (.cmp .eql (.var 187636518190291594720) (.lit 0)) (.ite (.cmp .eql (.var 188556117600773840640) (.lit 0)) (.ite (.cmp .eql (.var 161511445877578853599) (.lit 0)) (.var 161511445877578853568) (.lit 0)) (.lit 0)) (.lit 0)) (.lit 0)) (.lit 0)) (.lit 0)) (.lit 0)),
 (.ite (.cmp .eql (.var 183958120548362611040) (.lit 0)) (.ite (.cmp .eql (.var 184877719958844856960) (.lit 0)) (.ite (.cmp .eql (.var 185797319369327102880) (.lit 0)) (.ite (.cmp .eql (.var 186716918779809348800) (.lit 0)) (.ite (.cmp .eql (.var 187636518190291594720) (.lit 0)) (.ite (.cmp .eql (.var 188556117600773840640) (.lit 0)) (.ite (.cmp .eql (.var 161511445877578853599) (.lit 0)) (.var 161511445877578853569) (.lit 0)) (.lit 0)) (.lit 0)) (.lit 0)) (.lit 0)) (.lit 0)) (.lit 0)),
 (.ite (.cmp .eql (.var 183958120548362611040) (.lit 0)) (.ite (.cmp .eql (.var 184877719958844856960) (.lit 0)) (.ite (.cmp .eql (.var 185797319369327102880) (.lit 0)) (.ite (.cmp .eql (.var 186716918779809348800) (.lit 0)) (.ite (.cmp .eql (.var 187636518190291594720) (.lit 0)) (.ite (.cmp .eql (.var 188556117600773840640) (.lit 0)) (.ite (.cmp .eql (.var 161511445877578853599) (.lit 0)) (.lit 0) (.var 161511445877578853599)) (.lit 2)) (.lit 2)) (.lit 2)) (.lit 2)) (.lit 2)) (.lit 2))]
theorem l_clQ_is : flatLV (rd Tryz.prog KF 3000 (2^240) 9 pat92 []).1 = l_clQ := eq_of_beq (by kernel_rfl)
theorem heq92 {n : Nat} {at_ lo hi : Nat → Int} {T : Env} {ε : Env} (hs : ∀ ob ∈ ((rd Tryz.prog KF 3000 (2^240) 8 pat92 []).2.2 ++ (rd Tryz.prog KF 3000 (2^240) 9 pat92 []).2.2), ob.sat (S1 n at_ lo hi T) ε) : ∀ k, k < 3 → ((resE (rd Tryz.prog KF 3000 (2^240) 9 pat92 []).1 k).den ε).1 = ((resE (rd Tryz.prog KF 3000 (2^240) 8 pat92 []).1 k).den ε).1 := by
 intro k hk
 unfold resE
 rw [l_clQ_is, l_clP_is]
 clear hs
 rcases k with _ | _ | _ | k
 all_goals first | omega | (simp only [l_clP, l_clQ, List.getD_cons_zero, List.getD_cons_succ, E.den, co_eql]; try grind)
def pat93 : List LV := [.v (.agg [.a (.int .i64 (.var 0)), .a (.int .i64 (.var 1)), .a (.int .i64 (.var 2)), .a (.int .i64 (.var 3)), .a (.int .i64 (.var 4)), .a (.int .i64 (.var 5)), .a (.int .i64 (.var 6)), .a (.int .i64 (.var 7)), .a (.int .i64 (.var 8)), .a (.int .i64 (.var 9)), .a (.int .i64 (.var 10)), .a (.int .i64 (.var 11)), .a (.int .i64 (.var 12)), .a (.int .i64 (.var 13))]), .v (.s (.a (.fsl 0))), .v (.agg [.a (.int .i64 (.var 15)), .a (.int .i64 (.var 16)), .a (.int .i64 (.var 17)), .a (.int .i64 (.var 18)), .a (.int .i64 (.var 19)), .a (.int .i64 (.var 20)), .a (.int .i64 (.var 21)), .a (.int .i64 (.var 22)), .a (.int .i64 (.var 23)), .a (.int .i64 (.var 24)), .a (.int .i64 (.var 25)), .a (.int .i64 (.var 26)), .a (.int .i64 (.var 27)), .a (.int .i64 (.var 28)), .a (.int .i64 (.var 29)), .a (.int .i64 (.var 30))])]
theorem pair93 (n : Nat) (at_ lo hi : Nat → Int) (T : Env) : pairG Tryz.prog (S1 n at_ lo hi T) shp1 KF 3000 (2^240) 10 11 pat93 sz3 = true := by kernel_rfl
def l_prP : List E := [(.ite (.cmp .eql (.var 212311224018084962752) (.lit 0)) (.ite (.cmp .eql (.var 161403815110179096448) (.lit 0)) (.ite (.cmp .eql (.var 154325717539099551584) (.lit 0)) (.ite (.cmp .eql (.var 187963299944502180831) (.lit 0)) (.var 187963299944502180800) (.lit 0)) (.lit 0)) (.lit 0)) (.lit 0)),
 (.ite (.cmp .eql (.var 212311224018084962752) (.lit 0)) (.ite (.cmp .eql (.var 161403815110179096448) (.lit 0)) (.ite (.cmp .eql (.var 154325717539099551584) (.lit 0)) (.ite (.cmp .eql (.var 187963299944502180831) (.lit 0)) (.var 187963299944502180801) (.lit 0)) (.lit 0)) (.lit 0)) (.lit 0)),
 (.ite (.cmp .eql (.var 212311224018084962752) (.lit 0)) (.ite (.cmp .eql (.var 161403815110179096448) (.lit 0)) (.ite (.cmp .eql (.var 154325717539099551584) (.lit 0)) (.var 187963299944502180831) (.lit 2)) (.lit 2)) (.lit 2))]
theorem l_prP_is : flatLV (rd Tryz.prog KF 3000 (2^240) 10 pat93 []).1 = l_prP := eq_of_beq (by kernel_rfl)
def l_prQ : List E := [(.ite (.cmp .eql (.var 212311224018084962752) (.lit 0)) (.ite (.cmp .eql (.var 161403815110179096448) (.lit 0)) (.ite (.cmp .eql (.var 154325717539099551584) (.lit 0)) (.ite (.cmp .eql (.var 187963299944502180831) (.lit 0)) (.var 187963299944502180800) (.lit 0)) (.lit 0)) (.lit 0)) (.lit 0)),
 (.ite (.cmp .eql (.var 212311224018084962752) (.lit 0)) (.ite (.cmp .eql (.var 161403815110179096448) (.lit 0)) (.ite (.cmp .eql (.var 154325717539099551584) (.lit 0)) (.ite (.cmp .eql (.var 187963299944502180831) (.lit 0)) (.var 187963299944502180801) (.lit 0)) (.lit 0)) (.lit 0)) (.lit 0)),
 (.ite (.cmp .eql (.var 212311224018084962752) (.lit 0)) (.ite (.cmp .eql (.var 161403815110179096448) (.lit 0)) (.ite (.cmp .eql (.var 154325717539099551584) (.lit 0)) (.ite (.cmp .eql (.var 187963299944502180831) (.lit 0)) (.lit 0) (.var 187963299944502180831)) (.lit 2)) (.lit 2)) (.lit 2))]
theorem l_prQ_is : flatLV (rd Tryz.prog KF 3000 (2^240) 11 pat93 []).1 = l_prQ := eq_of_beq (by kernel_rfl)
theorem heq93 {n : Nat} {at_ lo hi : Nat → Int} {T : Env} {ε : Env} (hs : ∀ ob ∈ ((rd Tryz.prog KF 3000 (2^240) 10 pat93 []).2.2 ++ (rd Tryz.prog KF 3000 (2^240) 11 pat93 []).2.2), ob.sat (S1 n at_ lo hi T) ε) : ∀ k, k < 3 → ((resE (rd Tryz.prog KF 3000 (2^240) 11 pat93 []).1 k).den ε).1 = ((resE (rd Tryz.prog KF 3000 (2^240) 10 pat93 []).1 k).den ε).1 := by
 intro k hk
 unfold resE
 rw [l_prQ_is, l_prP_is]
 clear hs
 rcases k with _ | _ | _ | k
 all_goals first | omega | (simp only [l_prP, l_prQ, List.getD_cons_zero, List.getD_cons_succ, E.den, co_eql]; try grind)
section
variable (n : Nat) (at_ lo hi : Nat → Int)
noncomputable def valG90 (T : Env) (L : List Int) (k : Nat) : Int := clampI ((resE (rd Tryz.prog KF 3000 (2^240) 4 pat90 []).1 k).den ((envL T (L.map clampI)).solve (S1 n at_ lo hi T) ((rd Tryz.prog KF 3000 (2^240) 4 pat90 []).2.2 ++ (rd Tryz.prog KF 3000 (2^240) 5 pat90 []).2.2))).1
noncomputable def valG91 (T : Env) (L : List Int) (k : Nat) : Int := clampI ((resE (rd Tryz.prog KF 3000 (2^240) 6 pat91 []).1 k).den ((envL T (L.map clampI)).solve (S1 n at_ lo hi T) ((rd Tryz.prog KF 3000 (2^240) 6 pat91 []).2.2 ++ (rd Tryz.prog KF 3000 (2^240) 7 pat91 []).2.2))).1
noncomputable def valG92 (T : Env) (L : List Int) (k : Nat) : Int := clampI ((resE (rd Tryz.prog KF 3000 (2^240) 8 pat92 []).1 k).den ((envL T (L.map clampI)).solve (S1 n at_ lo hi T) ((rd Tryz.prog KF 3000 (2^240) 8 pat92 []).2.2 ++ (rd Tryz.prog KF 3000 (2^240) 9 pat92 []).2.2))).1
noncomputable def valG93 (T : Env) (L : List Int) (k : Nat) : Int := clampI ((resE (rd Tryz.prog KF 3000 (2^240) 10 pat93 []).1 k).den ((envL T (L.map clampI)).solve (S1 n at_ lo hi T) ((rd Tryz.prog KF 3000 (2^240) 10 pat93 []).2.2 ++ (rd Tryz.prog KF 3000 (2^240) 11 pat93 []).2.2))).1
noncomputable def val2 (T : Env) (s : Nat) (L : List Int) (k : Nat) : Int := if s = 90 then valG90 n at_ lo hi T L k else if s = 91 then valG91 n at_ lo hi T L k else if s = 92 then valG92 n at_ lo hi T L k else if s = 93 then valG93 n at_ lo hi T L k else val1 n at_ lo hi T s L k
theorem val2_R64 (T : Env) (s : Nat) (L : List Int) (k : Nat) : R64 (val2 n at_ lo hi T s L k) := by
 unfold val2
 split
 ·exact clampI_R64 _
 ·split
  ·exact clampI_R64 _
  ·split
   ·exact clampI_R64 _
   ·split
    ·exact clampI_R64 _
    ·exact val1_R64 _ _ _ _ _ _ _ _
noncomputable def S2 (T : Env) : Sig := ⟨fun f => sy.lookup f, val2 n at_ lo hi T⟩
end
theorem nom90 : ((rd Tryz.prog KF 3000 (2^240) 4 pat90 []).2.2 ++ (rd Tryz.prog KF 3000 (2^240) 5 pat90 []).2.2).all (fun ob => !ob.isM) = true := by kernel_rfl
theorem nom91 : ((rd Tryz.prog KF 3000 (2^240) 6 pat91 []).2.2 ++ (rd Tryz.prog KF 3000 (2^240) 7 pat91 []).2.2).all (fun ob => !ob.isM) = true := by kernel_rfl
theorem nom92 : ((rd Tryz.prog KF 3000 (2^240) 8 pat92 []).2.2 ++ (rd Tryz.prog KF 3000 (2^240) 9 pat92 []).2.2).all (fun ob => !ob.isM) = true := by kernel_rfl
theorem nom93 : ((rd Tryz.prog KF 3000 (2^240) 10 pat93 []).2.2 ++ (rd Tryz.prog KF 3000 (2^240) 11 pat93 []).2.2).all (fun ob => !ob.isM) = true := by kernel_rfl
def new2 (f : FuncId) : Bool := [4, 5, 6, 7, 8, 9, 10, 11].contains f
def shp2 (f : FuncId) (args : List LV) (mem : List (Nat × Cells)) : Bool := if f == 4 || f == 5 then matchLVs pat90 args 0 else if f == 6 || f == 7 then matchLVs pat91 args 0 else if f == 8 || f == 9 then matchLVs pat92 args 0 else if f == 10 || f == 11 then matchLVs pat93 args 0 else shp1 f args mem
def lst1 : List FuncId := [14, 18, 40, 43, 28, 34, 48, 19, 30, 36, 23, 26, 32, 38, 31, 37, 21, 22, 67, 69, 39] ++ shpL.map (·.1)
theorem shp1_mem {f : FuncId} {args : List LV} {mem : List (Nat × Cells)} (h : shp1 f args mem = true) : f ∈ lst1 := by
 unfold shp1 at h
 unfold lst1
 by_cases hf : (f == 14 || f == 18) = true
 ·refine List.mem_append_left _ ?_
  simp only [Bool.or_eq_true, beq_iff_eq] at hf
  first | (rcases hf with rfl | rfl <;> decide) | (subst hf; decide)
 rw [if_neg hf] at h
 clear hf
 by_cases hf : (f == 40 || f == 43) = true
 ·refine List.mem_append_left _ ?_
  simp only [Bool.or_eq_true, beq_iff_eq] at hf
  first | (rcases hf with rfl | rfl <;> decide) | (subst hf; decide)
 rw [if_neg hf] at h
 clear hf
 by_cases hf : (f == 28 || f == 34) = true
 ·refine List.mem_append_left _ ?_
  simp only [Bool.or_eq_true, beq_iff_eq] at hf
  first | (rcases hf with rfl | rfl <;> decide) | (subst hf; decide)
 rw [if_neg hf] at h
 clear hf
 by_cases hf : (f == 48 || f == 19) = true
 ·refine List.mem_append_left _ ?_
  simp only [Bool.or_eq_true, beq_iff_eq] at hf
  first | (rcases hf with rfl | rfl <;> decide) | (subst hf; decide)
 rw [if_neg hf] at h
 clear hf
 by_cases hf : (f == 30 || f == 36) = true
 ·refine List.mem_append_left _ ?_
  simp only [Bool.or_eq_true, beq_iff_eq] at hf
  first | (rcases hf with rfl | rfl <;> decide) | (subst hf; decide)
 rw [if_neg hf] at h
 clear hf
 by_cases hf : (f == 23 || f == 26) = true
 ·refine List.mem_append_left _ ?_
  simp only [Bool.or_eq_true, beq_iff_eq] at hf
  first | (rcases hf with rfl | rfl <;> decide) | (subst hf; decide)
 rw [if_neg hf] at h
 clear hf
 by_cases hf : (f == 32 || f == 38) = true
 ·refine List.mem_append_left _ ?_
  simp only [Bool.or_eq_true, beq_iff_eq] at hf
  first | (rcases hf with rfl | rfl <;> decide) | (subst hf; decide)
 rw [if_neg hf] at h
 clear hf
 by_cases hf : (f == 31 || f == 37) = true
 ·refine List.mem_append_left _ ?_
  simp only [Bool.or_eq_true, beq_iff_eq] at hf
  first | (rcases hf with rfl | rfl <;> decide) | (subst hf; decide)
 rw [if_neg hf] at h
 clear hf
 by_cases hf : (f == 21 || f == 22) = true
 ·refine List.mem_append_left _ ?_
  simp only [Bool.or_eq_true, beq_iff_eq] at hf
  first | (rcases hf with rfl | rfl <;> decide) | (subst hf; decide)
 rw [if_neg hf] at h
 clear hf
 by_cases hf : (f == 67 || f == 69) = true
 ·refine List.mem_append_left _ ?_
  simp only [Bool.or_eq_true, beq_iff_eq] at hf
  first | (rcases hf with rfl | rfl <;> decide) | (subst hf; decide)
 rw [if_neg hf] at h
 clear hf
 by_cases hf : (f == 39) = true
 ·refine List.mem_append_left _ ?_
  simp only [Bool.or_eq_true, beq_iff_eq] at hf
  first | (rcases hf with rfl | rfl <;> decide) | (subst hf; decide)
 rw [if_neg hf] at h
 clear hf
 refine List.mem_append_right _ ?_
 unfold shp0 at h
 split at h
 ·rename_i p hp
  exact List.mem_map.2 ⟨_, lookup_mem hp, rfl⟩
 ·cases h
theorem shp1_s {f : FuncId} {args : List LV} {mem : List (Nat × Cells)} {s z : Nat} (h : shp1 f args mem = true) (hs : sy.lookup f = some (s, z)) : s < 90 := by
 have := List.all_eq_true.1 (show lst1.all (fun x => match sy.lookup x with | some y => decide (y.1 < 90) | none => true) = true by kernel_rfl) _ (shp1_mem h)
 simp only [hs, decide_eq_true_eq] at this
 exact this
theorem con2 (n cap : Nat) (A : Option Addr) (at_ lo hi : Nat → Int) (w0 : World) (hT : 0 < n → ∃ ad, A = some ad ∧ Tab w0 ad n at_ lo hi) (hI : ∀ i, i < n → I64 (at_ i) ∧ I64 (lo i) ∧ I64 (hi i)) (T : Env) (hA : T.sa 0 = A) (hn : T.sn 0 = n) (hcp : T.sc 0 = cap) :
  Con Tryz.prog (S2 n at_ lo hi T) shp2 T w0 := by
 have c1 := con1 n cap A at_ lo hi w0 hT hI T hA hn hcp
 have hS1 : ∀ s l k, R64 ((S1 n at_ lo hi T).val s l k) := fun s l k => val1_R64 _ _ _ _ _ s l k
 refine con_ext (S := S1 n at_ lo hi T) (shp := shp1) new2 (fun _ => rfl) (fun f args mem hf h => ?_) (fun f args mem s z h hs L k => ?_) c1 (fun ε ht hε w hw f args mem res upd hf hsh hstd hr hsat => ?_)
 ·have hh : ∀ x, x ∈ [4, 5, 6, 7, 8, 9, 10, 11] → (f == x) = false := fun x hx => by
   cases hc : f == x
   ·rfl
   ·have : f = x := eq_of_beq hc
    subst this
    unfold new2 at hf
    rw [List.contains_iff_mem.2 hx] at hf
    cases hf
  simpa only [shp2, hh 4 (by decide), hh 5 (by decide), hh 6 (by decide), hh 7 (by decide), hh 8 (by decide), hh 9 (by decide), hh 10 (by decide), hh 11 (by decide), Bool.or_false, Bool.false_eq_true, if_false] using h
 ·have := shp1_s h hs
  show val2 n at_ lo hi T s L k = val1 n at_ lo hi T s L k
  unfold val2
  rw [if_neg (by omega), if_neg (by omega), if_neg (by omega), if_neg (by omega)]
 ·have hf' : f ∈ [4, 5, 6, 7, 8, 9, 10, 11] := List.contains_iff_mem.1 hf
  simp only [List.mem_cons, List.not_mem_nil, or_false] at hf'
  have hv90 : ∀ L k, k < sizeSh sz3 → (S2 n at_ lo hi T).val 90 L k = valG90 n at_ lo hi T L k := fun L k _ => by
   show val2 n at_ lo hi T 90 L k = _
   unfold val2
   rw [if_pos rfl]
  have hv91 : ∀ L k, k < sizeSh sz3 → (S2 n at_ lo hi T).val 91 L k = valG91 n at_ lo hi T L k := fun L k _ => by
   show val2 n at_ lo hi T 91 L k = _
   unfold val2
   rw [if_neg (by omega), if_pos rfl]
  have hv92 : ∀ L k, k < sizeSh sz3 → (S2 n at_ lo hi T).val 92 L k = valG92 n at_ lo hi T L k := fun L k _ => by
   show val2 n at_ lo hi T 92 L k = _
   unfold val2
   rw [if_neg (by omega), if_neg (by omega), if_pos rfl]
  have hv93 : ∀ L k, k < sizeSh sz3 → (S2 n at_ lo hi T).val 93 L k = valG93 n at_ lo hi T L k := fun L k _ => by
   show val2 n at_ lo hi T 93 L k = _
   unfold val2
   rw [if_neg (by omega), if_neg (by omega), if_neg (by omega), if_pos rfl]
  rcases hf' with rfl | rfl | rfl | rfl | rfl | rfl | rfl | rfl
  ·exact pairG_con hmix (by decide) (pair90 n at_ lo hi T) (of_decide_eq_true (by kernel_rfl)) hS1 c1 (s := 90) (fun ε' w' hw' a1 a2 a3 a4 a5 a6 ob hb hm => by have := List.all_eq_true.1 nom90 ob hb; rw [hm] at this; cases this) (fun ε' _ a5 a6 k hk => heq90 a6 k hk) hv90 (.inl rfl) rfl Tryz.func4 (fun base => ⟨base + 3, by kernel_rfl⟩) ε ht hw hsh (matchLVs_R64 hε hsh (rngOb_args hr) (by kernel_rfl)) hstd hsat
  ·exact pairG_con hmix (by decide) (pair90 n at_ lo hi T) (of_decide_eq_true (by kernel_rfl)) hS1 c1 (s := 90) (fun ε' w' hw' a1 a2 a3 a4 a5 a6 ob hb hm => by have := List.all_eq_true.1 nom90 ob hb; rw [hm] at this; cases this) (fun ε' _ a5 a6 k hk => heq90 a6 k hk) hv90 (.inr rfl) rfl Tryz.func5 (fun base => ⟨base + 3, by kernel_rfl⟩) ε ht hw hsh (matchLVs_R64 hε hsh (rngOb_args hr) (by kernel_rfl)) hstd hsat
  ·exact pairG_con hmix (by decide) (pair91 n at_ lo hi T) (of_decide_eq_true (by kernel_rfl)) hS1 c1 (s := 91) (fun ε' w' hw' a1 a2 a3 a4 a5 a6 ob hb hm => by have := List.all_eq_true.1 nom91 ob hb; rw [hm] at this; cases this) (fun ε' _ a5 a6 k hk => heq91 a6 k hk) hv91 (.inl rfl) rfl Tryz.func6 (fun base => ⟨base + 3, by kernel_rfl⟩) ε ht hw hsh (matchLVs_R64 hε hsh (rngOb_args hr) (by kernel_rfl)) hstd hsat
  ·exact pairG_con hmix (by decide) (pair91 n at_ lo hi T) (of_decide_eq_true (by kernel_rfl)) hS1 c1 (s := 91) (fun ε' w' hw' a1 a2 a3 a4 a5 a6 ob hb hm => by have := List.all_eq_true.1 nom91 ob hb; rw [hm] at this; cases this) (fun ε' _ a5 a6 k hk => heq91 a6 k hk) hv91 (.inr rfl) rfl Tryz.func7 (fun base => ⟨base + 3, by kernel_rfl⟩) ε ht hw hsh (matchLVs_R64 hε hsh (rngOb_args hr) (by kernel_rfl)) hstd hsat
  ·exact pairG_con hmix (by decide) (pair92 n at_ lo hi T) (of_decide_eq_true (by kernel_rfl)) hS1 c1 (s := 92) (fun ε' w' hw' a1 a2 a3 a4 a5 a6 ob hb hm => by have := List.all_eq_true.1 nom92 ob hb; rw [hm] at this; cases this) (fun ε' _ a5 a6 k hk => heq92 a6 k hk) hv92 (.inl rfl) rfl Tryz.func8 (fun base => ⟨base + 3, by kernel_rfl⟩) ε ht hw hsh (matchLVs_R64 hε hsh (rngOb_args hr) (by kernel_rfl)) hstd hsat
  ·exact pairG_con hmix (by decide) (pair92 n at_ lo hi T) (of_decide_eq_true (by kernel_rfl)) hS1 c1 (s := 92) (fun ε' w' hw' a1 a2 a3 a4 a5 a6 ob hb hm => by have := List.all_eq_true.1 nom92 ob hb; rw [hm] at this; cases this) (fun ε' _ a5 a6 k hk => heq92 a6 k hk) hv92 (.inr rfl) rfl Tryz.func9 (fun base => ⟨base + 3, by kernel_rfl⟩) ε ht hw hsh (matchLVs_R64 hε hsh (rngOb_args hr) (by kernel_rfl)) hstd hsat
  ·exact pairG_con hmix (by decide) (pair93 n at_ lo hi T) (of_decide_eq_true (by kernel_rfl)) hS1 c1 (s := 93) (fun ε' w' hw' a1 a2 a3 a4 a5 a6 ob hb hm => by have := List.all_eq_true.1 nom93 ob hb; rw [hm] at this; cases this) (fun ε' _ a5 a6 k hk => heq93 a6 k hk) hv93 (.inl rfl) rfl Tryz.func10 (fun base => ⟨base + 3, by kernel_rfl⟩) ε ht hw hsh (matchLVs_R64 hε hsh (rngOb_args hr) (by kernel_rfl)) hstd hsat
  ·exact pairG_con hmix (by decide) (pair93 n at_ lo hi T) (of_decide_eq_true (by kernel_rfl)) hS1 c1 (s := 93) (fun ε' w' hw' a1 a2 a3 a4 a5 a6 ob hb hm => by have := List.all_eq_true.1 nom93 ob hb; rw [hm] at this; cases this) (fun ε' _ a5 a6 k hk => heq93 a6 k hk) hv93 (.inr rfl) rfl Tryz.func11 (fun base => ⟨base + 3, by kernel_rfl⟩) ε ht hw hsh (matchLVs_R64 hε hsh (rngOb_args hr) (by kernel_rfl)) hstd hsat
end SX
end
section
set_option maxRecDepth 1000000
open Go.RowKit
namespace lawFlightAsks
open SX in
def argsF : List LV := [.v (.agg [.a (.int .i64 (.var 0)), .a (.int .i64 (.var 1)), .a (.int .i64 (.var 2)), .a (.int .i64 (.var 3)), .a (.int .i64 (.var 4)), .a (.int .i64 (.var 5)), .a (.int .i64 (.var 6)), .a (.int .i64 (.var 7)), .a (.int .i64 (.var 8)), .a (.int .i64 (.var 9)), .a (.int .i64 (.var 10)), .a (.int .i64 (.var 11)), .a (.int .i64 (.var 12)), .a (.int .i64 (.var 13))]), .v (.agg [.a (.int .i64 (.var 14)), .a (.int .i64 (.var 15)), .a (.int .i64 (.var 16)), .a (.int .i64 (.var 17)), .a (.int .i64 (.var 18)), .a (.int .i64 (.var 19)), .a (.int .i64 (.var 20)), .a (.int .i64 (.var 21)), .a (.int .i64 (.var 22)), .a (.int .i64 (.var 23)), .a (.int .i64 (.var 24)), .a (.int .i64 (.var 25)), .a (.int .i64 (.var 26)), .a (.int .i64 (.var 27)), .a (.int .i64 (.var 28)), .a (.int .i64 (.var 29))]), .v (.s (.a (.fsl 0))), .v (.agg [.a (.int .i64 (.var 31)), .a (.int .i64 (.var 32)), .a (.int .i64 (.var 33)), .a (.int .i64 (.var 34)), .a (.int .i64 (.var 35)), .a (.int .i64 (.var 36)), .a (.int .i64 (.var 37)), .a (.int .i64 (.var 38)), .a (.int .i64 (.var 39)), .a (.int .i64 (.var 40)), .a (.int .i64 (.var 41)), .a (.int .i64 (.var 42)), .a (.int .i64 (.var 43)), .a (.int .i64 (.var 44)), .a (.int .i64 (.var 45))])]
open SX in
def onObs (X : Option (LV × St × Nat × List Ob)) (p : LV → List Ob → Bool) : Bool := match X with | some (v, _, _, obs) => p v obs | none => false
open SX in
def gNub (S : Sig) (obs : List Ob) : Bool := match nub S obs [] with | some r => okObs S ⟨[], [], []⟩ (r.reverse.map (·.2)) | none => false
open SX in
def gShp (P : Program) (S : Sig) (shp : FuncId → List LV → List (Nat × Cells) → Bool) (ob : Ob) : Bool := match ob with | .call pc f args mem res upd => pc == .blit true && shp f args mem && stdRes P S.sym f args mem == some (res, upd) | _ => true
open SX in
theorem split {P : Program} {X : Option (LV × St × Nat × List Ob)} {v0 : LV} {S : Sig} {shp : FuncId → List LV → List (Nat × Cells) → Bool} (h0 : onObs X (fun v _ => v == v0) = true)
  (h1 : onObs X (fun _ obs => gNub S obs) = true) (h2 : onObs X (fun _ obs => obs.all rngOb) = true) (h3 : onObs X (fun _ obs => obs.all (gShp P S shp)) = true) (h5 : onObs X (fun _ obs => obs.all fun ob => !ob.isM) = true) :
  onObs X (fun v obs => v == v0 && goodB P S shp obs) = true := by
 cases X with
 | none => cases h0
 | some x =>
  obtain ⟨v, s, n, obs⟩ := x
  simp only [onObs] at h0 h1 h2 h3 h5 ⊢
  have h4 : goodB P S shp obs = true := by
   unfold goodB goodL
   unfold gNub at h1
   cases hn : nub S obs [] with
   | none => rw [hn] at h1; cases h1
   | some r =>
    rw [hn] at h1
    simp only [Bool.and_eq_true]
    exact ⟨⟨⟨h1, h2⟩, h3⟩, h5⟩
  rw [h0, h4]; rfl
open SX in
theorem law_true' {P : Program} (hmix : P.follows .mixedOrders = true) {S : Sig} {shp : FuncId → List LV → List (Nat × Cells) → Bool} {K : Cfg} {n sp : Nat} (hsp : 0 < sp) {f : FuncId} {args : List LV} {nv nid : Nat}
  (h : onObs (evFn P K n sp f args [] (.blit true) nv nid) (fun v obs => v == .v (.s (.a (.bool (.blit true)))) && goodB P S shp obs) = true) (ha : noIds args = true)
  (hS : ∀ s l k, R64 (S.val s l k)) {T : Env} {w : World} (hc : Con P S shp T w) (ε0 : Env) (h0 : ∀ i, R64 (ε0.i i)) (hT : ε0.sa = T.sa ∧ ε0.sn = T.sn ∧ ε0.sc = T.sc) (hv : ∀ x ∈ args, ∀ ε : Env, (∀ v, v < top → ε.i v = ε0.i v) → ε.sa = ε0.sa → ε.sn = ε0.sn → ε.sc = ε0.sc → x.den ε (fun _ => 0) = x.den ε0 (fun _ => 0)) :
  Calls P f (args.map (LV.den ε0 fun _ => 0)).toArray w (fun e w' => e = .returned (.bool true) ∧ Below w.heap.size w w') :=
 law_true hmix hsp (by unfold onObs at h; exact h) ha hS hc ε0 h0 hT hv
open SX in
theorem lt0 : onObs (evFn Tryz.prog KF 3000 (2^240) 3 argsF [] (.blit true) 0 1) (fun v _ => v == .v (.s (.a (.bool (.blit true))))) = true := by kernel_rfl
open SX in
theorem lt1 (n : Nat) (at_ lo hi : Nat → Int) (T : Env) : onObs (evFn Tryz.prog KF 3000 (2^240) 3 argsF [] (.blit true) 0 1) (fun _ obs => gNub (S2 n at_ lo hi T) obs) = true := by kernel_rfl
open SX in
theorem lt2 : onObs (evFn Tryz.prog KF 3000 (2^240) 3 argsF [] (.blit true) 0 1) (fun _ obs => obs.all rngOb) = true := by kernel_rfl
open SX in
theorem lt3 (n : Nat) (at_ lo hi : Nat → Int) (T : Env) : onObs (evFn Tryz.prog KF 3000 (2^240) 3 argsF [] (.blit true) 0 1) (fun _ obs => obs.all (gShp Tryz.prog (S2 n at_ lo hi T) shp2)) = true := by kernel_rfl
open SX in
theorem lt4 : onObs (evFn Tryz.prog KF 3000 (2^240) 3 argsF [] (.blit true) 0 1) (fun _ obs => obs.all fun ob => !ob.isM) = true := by kernel_rfl
end lawFlightAsks
end
end Go.Proofs.YtcjlpgmhlghdkaaGreat
