/- Packed: AkN AkO AkQ. -/
import Derived.KernelRfl
import Derived.Test.YtcjlpgmhlghdkaaGreatP23
import Derived.Test.YtcjlpgmhlghdkaaGreatP24
set_option linter.unusedVariables false
set_option linter.unusedSimpArgs false
namespace Go.Proofs.YtcjlpgmhlghdkaaGreat
section
set_option maxRecDepth 1000000
open Go.RowKit
namespace SX
def z0 : Nat → Int := fun _ => 0
noncomputable def S00 : Sig := S0 0 z0 z0 z0
def T0 : Env := ⟨fun _ => 0, fun _ => false, fun _ => none, fun _ => 0, fun _ => 0, fun _ => default, fun _ _ => 0⟩
theorem hmix : Tryz.prog.follows .mixedOrders = true := rfl
theorem con00 (w : World) : Con Tryz.prog S00 shp0 T0 w := con0 0 0 none z0 z0 z0 w (fun h => absurd h (Nat.lt_irrefl 0)) (fun i h => absurd h (Nat.not_lt_zero i)) T0 rfl rfl rfl
noncomputable def v0 (s : Nat) (L : List Int) (k : Nat) : Int := val0 0 z0 z0 z0 s L k
theorem v0_R64 (s : Nat) (L : List Int) (k : Nat) : R64 (v0 s L k) := val0_R64 _ _ _ _ _ _ _
noncomputable def stepV (s x : FD.Sp) : FD.Sp × Int :=
 if v0 6 [x.lo, x.hi] 2 = 0 then
  if v0 1 [s.lo, s.hi, v0 6 [x.lo, x.hi] 0, v0 6 [x.lo, x.hi] 1] 2 = 0 then (⟨v0 1 [s.lo, s.hi, v0 6 [x.lo, x.hi] 0, v0 6 [x.lo, x.hi] 1] 0, v0 1 [s.lo, s.hi, v0 6 [x.lo, x.hi] 0, v0 6 [x.lo, x.hi] 1] 1, v0_R64 _ _ _, v0_R64 _ _ _⟩, 0)
  else (.zero, v0 1 [s.lo, s.hi, v0 6 [x.lo, x.hi] 0, v0 6 [x.lo, x.hi] 1] 2)
 else (.zero, v0 6 [x.lo, x.hi] 2)
def patSt : List LV := [.v (.agg [.a (.int .i64 (.var 0)), .a (.int .i64 (.var 1))]), .v (.agg [.a (.int .i64 (.var 2)), .a (.int .i64 (.var 3))])]
theorem stepB : readB Tryz.prog S00 shp0 KF 3000 (2^240) 57 patSt [] = true := by kernel_rfl
def litSt : LV := .tup [.agg [.a (.int .i64 (.ite (.cmp .eql (.var 203744195537112007842) (.lit 0)) (.ite (.cmp .eql (.var 184909600397546296930) (.lit 0)) (.var 184909600397546296928) (.lit 0)) (.lit 0))), .a (.int .i64 (.ite (.cmp .eql (.var 203744195537112007842) (.lit 0)) (.ite (.cmp .eql (.var 184909600397546296930) (.lit 0)) (.var 184909600397546296929) (.lit 0)) (.lit 0)))], .s (.a (.int .i64 (.ite (.cmp .eql (.var 203744195537112007842) (.lit 0)) (.var 184909600397546296930) (.var 203744195537112007842))))]
theorem step_lit : (rd Tryz.prog KF 3000 (2^240) 57 patSt []).1 = litSt := eq_of_beq (by kernel_rfl)
theorem step_in (s x : FD.Sp) (W : World) : Calls Tryz.prog 57 #[FD.spv s, FD.spv x] W fun e W' => e = .returned (.tuple #[FD.spv (stepV s x).1, .int .i64 (stepV s x).2]) ∧ Below W.heap.size W W' := by
 obtain ⟨ε, h0, -, -, -, hR, hs, hok⟩ := read_ob hmix (by decide) stepB (fun s L k => val0_R64 _ _ _ _ s L k) T0 (w := W) (L := [s.lo, s.hi, x.lo, x.hi]) (by
   intro y hy
   simp only [List.mem_cons, List.not_mem_nil, or_false] at hy
   rcases hy with rfl | rfl | rfl | rfl
   ·exact s.ok.1
   ·exact s.ok.2
   ·exact x.ok.1
   ·exact x.ok.2) (fun ε _ e1 e2 e3 e4 f args mem res upd k1 k2 k3 k4 => con00 W ε e1 e2 e3 e4 W (Below.refl _ _) f args mem res upd k1 k2 k3 k4)
 have i0 : ε.i 0 = s.lo := h0 0 (by decide)
 have i1 : ε.i 1 = s.hi := h0 1 (by decide)
 have i2 : ε.i 2 = x.lo := h0 2 (by decide)
 have i3 : ε.i 3 = x.hi := h0 3 (by decide)
 have run := hok rfl W (fun _ => 0) (Below.refl _ _) (by simp) (by simp)
 rw [step_lit] at run
 obtain ⟨m0, c0⟩ := sat_call hs (s := 6) (base := 203744195537112007840) (args := [.v (.agg [.a (.int .i64 (.var 2)), .a (.int .i64 (.var 3))])]) (by kernel_rfl)
 have c0_0 : ε.i 203744195537112007840 = _ := c0 0 (by omega)
 have c0_1 : ε.i 203744195537112007841 = _ := c0 1 (by omega)
 have c0_2 : ε.i 203744195537112007842 = _ := c0 2 (by omega)
 clear c0
 obtain ⟨m1, c1⟩ := sat_call hs (s := 1) (base := 184909600397546296928) (args := [.v (.agg [.a (.int .i64 (.var 0)), .a (.int .i64 (.var 1))]), .v (.agg [.a (.int .i64 (.ite (.cmp .eql (.var 203744195537112007842) (.lit 0)) (.var 203744195537112007840) (.lit 0))), .a (.int .i64 (.ite (.cmp .eql (.var 203744195537112007842) (.lit 0)) (.var 203744195537112007841) (.lit 0)))])]) (by kernel_rfl)
 have c1_0 : ε.i 184909600397546296928 = _ := c1 0 (by omega)
 have c1_1 : ε.i 184909600397546296929 = _ := c1 1 (by omega)
 have c1_2 : ε.i 184909600397546296930 = _ := c1 2 (by omega)
 clear c1
 have ea : (patSt.map (LV.den ε fun _ => 0)).toArray = #[FD.spv s, FD.spv x] := by
  show #[Value.agg #[.int .i64 (ε.i 0), .int .i64 (ε.i 1)], Value.agg #[.int .i64 (ε.i 2), .int .i64 (ε.i 3)]] = _
  rw [i0, i1, i2, i3]
  try rfl
 rw [ea] at run
 refine run.mono fun e w' ⟨q1, _, q3⟩ => ⟨q1.trans ?_, ⟨q3.os, q3.tape, q3.output, q3.size, fun k hk => q3.block k hk (by simp)⟩⟩
 clear run hok q1 q3
 simp only [List.flatMap_cons, List.flatMap_nil, argInts, V1.cells, SV.ints, E.den, List.append_nil, List.singleton_append, List.cons_append, List.nil_append, i0, i1, i2, i3] at c0_0 c0_1 c0_2 c1_0 c1_1 c1_2
 congr 1
 simp only [litSt, LV.den, V1.den, SV.den, AV.den, E.den, CO.den, List.map_cons, List.map_nil]
 have V : ∀ s L k, S00.val s L k = v0 s L k := fun _ _ _ => rfl
 simp only [CO.den, beq_iff_eq, V] at c0_0 c0_1 c0_2 c1_0 c1_1 c1_2 ⊢
 simp only [c0_0, c0_1, c0_2] at c1_0 c1_1 c1_2
 by_cases h2 : v0 6 [x.lo, x.hi] 2 = 0
 ·simp only [h2, if_true] at c1_0 c1_1 c1_2
  by_cases h3 : v0 1 [s.lo, s.hi, v0 6 [x.lo, x.hi] 0, v0 6 [x.lo, x.hi] 1] 2 = 0
  ·simp [stepV, h2, h3, c0_0, c0_1, c0_2, c1_0, c1_1, c1_2, FD.spv]
  ·simp [stepV, h2, h3, c0_0, c0_1, c0_2, c1_0, c1_1, c1_2, FD.spv, FD.Sp.zero]
 ·simp [stepV, h2, c0_0, c0_1, c0_2, FD.spv, FD.Sp.zero]
theorem foldS_zero (f : FD.Sp → FD.Sp → FD.Sp × Int) : ∀ (l : List FD.Sp) (s : FD.Sp), (FD.foldS f s l).2 ≠ 0 → (FD.foldS f s l).1 = .zero
 | [], s, h => absurd rfl h
 | x :: xs, s, h => by
  simp only [FD.foldS] at h ⊢
  split
  ·rename_i h0
   rw [if_pos h0] at h
   exact foldS_zero f xs _ h
  ·rfl
def spL (L : List Int) (i : Nat) : FD.Sp := ⟨clampI (L.getD (i * 2) 0), clampI (L.getD (i * 2 + 1) 0), clampI_R64 _, clampI_R64 _⟩
noncomputable def foldL (L : List Int) : FD.Sp × Int := FD.foldS stepV .zero [spL L 0, spL L 1, spL L 2]
def syN : List (Nat × Nat × Nat) := (55, 70, 1) :: sy
noncomputable def KN : Cfg := ⟨fun f => !(syN.any fun x => x.1 == f), fun f => ct.contains f, stdRes Tryz.prog (fun f => syN.lookup f), fun _ _ => none⟩
noncomputable def SN (L : List Int) : Sig := ⟨fun f => syN.lookup f, fun s l k => if s = 70 then sp3 (foldL L).1.lo (foldL L).1.hi (foldL L).2 k else v0 s l k⟩
def cells6 : Cells := [some (.a (.int .i64 (.var 0))), some (.a (.int .i64 (.var 1))), some (.a (.int .i64 (.var 2))), some (.a (.int .i64 (.var 3))), some (.a (.int .i64 (.var 4))), some (.a (.int .i64 (.var 5)))]
def foldShape (args : List LV) (mem : List (Nat × Cells)) : Bool := match args, mem with
 | [.v (.s (.fn g [] [.ptr B 0])), .v (.agg [.a (.int .i64 a), .a (.int .i64 b)]), .v (.s (.fn h [] []))], [(0, c), (B', [some (.a (.sl 0 0 3 3))])] => g == 85 && h == 57 && B == B' && !(B == 0) && c == cells6 && a == .lit 0 && b == .lit 0
 | _, _ => false
def shpN (f : FuncId) (args : List LV) (mem : List (Nat × Cells)) : Bool := if f == 55 then foldShape args mem else shp0 f args mem
theorem sat_of {S' S : Sig} {f : FuncId} (hsym : S'.sym f = S.sym f) (hval : ∀ s z, S.sym f = some (s, z) → ∀ L k, S'.val s L k = S.val s L k) {ε : Env} {pc : E} {args : List LV} {mem : List (Nat × Cells)} {res : LV} {upd : List (Nat × Cells)} (h : Ob.sat S' ε (.call pc f args mem res upd)) : Ob.sat S ε (.call pc f args mem res upd) := by
 intro base s l hc j hj
 have hc' : callNo S' f args mem = some (base, s, l) := by rw [← hc]; unfold callNo; rw [hsym]
 have := h base s l hc' j hj
 have hz : ∃ z, S.sym f = some (s, z) := by
  unfold callNo at hc
  split at hc
  ·rename_i s' z hs
   simp only [Option.some.injEq, Prod.mk.injEq] at hc
   exact ⟨z, by rw [hs, hc.2.1]⟩
  ·cases hc
 obtain ⟨z, hz⟩ := hz
 rwa [hval s z hz] at this
theorem std_of {S' S : Sig} {f : FuncId} (hsym : S'.sym f = S.sym f) (args : List LV) (mem : List (Nat × Cells)) : stdRes Tryz.prog S'.sym f args mem = stdRes Tryz.prog S.sym f args mem := by
 unfold stdRes; rw [hsym]
theorem sy_no70 {f s z : Nat} (h : sy.lookup f = some (s, z)) : s ≠ 70 := by
 have := List.all_eq_true.1 (show sy.all (fun x => x.2.1 != 70) = true by kernel_rfl) _ (lookup_mem h)
 simpa using this
theorem fold_ok {L : List Int} (hL : ∀ x ∈ L, R64 x) {ε : Env} (hi : ∀ v, v < top → ε.i v = L.getD v 0) {w : World} {args : List LV} {mem : List (Nat × Cells)} {res : LV} {upd : List (Nat × Cells)} (h : foldShape args mem = true)
  (hstd : stdRes Tryz.prog (SN L).sym 55 args mem = some (res, upd)) (hsat : Ob.sat (SN L) ε (.call (.blit true) 55 args mem res upd)) : Ob.ok Tryz.prog ε w (.call (.blit true) 55 args mem res upd) := by
 unfold foldShape at h
 split at h
 case h_2 => cases h
 rename_i g B a b hh c B'
 simp only [Bool.and_eq_true, beq_iff_eq, Bool.not_eq_true', beq_eq_false_iff_ne] at h
 obtain ⟨⟨⟨⟨⟨⟨rfl, rfl⟩, rfl⟩, hB⟩, rfl⟩, rfl⟩, rfl⟩ := h
 obtain ⟨base, hbase⟩ : ∃ base, callBase 70 [.v (.s (.fn 85 [] [.ptr B 0])), .v (.agg [.a (.int .i64 (.lit 0)), .a (.int .i64 (.lit 0))]), .v (.s (.fn 57 [] []))] [(0, cells6), (B, [some (.a (.sl 0 0 3 3))])] = base := ⟨_, rfl⟩
 have hs : (SN L).sym 55 = some (70, 1) := rfl
 have hres' : res = .tup [zeroLess1 (.var (base + 2)) (.agg [.a (.int .i64 (.var base)), .a (.int .i64 (.var (base + 1)))]), .s (.a (.int .i64 (.var (base + 2))))] ∧ upd = [] := by
  unfold stdRes at hstd
  rw [hs, Tryz.func55] at hstd
  have hm : ∃ m, nameRes Tryz.prog Tryz.f55 base = some (.tup [.agg [.a (.int .i64 (.var base)), .a (.int .i64 (.var (base + 1)))], .s (.a (.int .i64 (.var (base + 2))))], m) := ⟨base + 3, by kernel_rfl⟩
  obtain ⟨m, hm⟩ := hm
  simp [stdVal, hbase, hm, zeroLess1, zeroLess, mkIte] at hstd
  simp [zeroLess1, zeroLess, hstd]
 obtain ⟨rfl, rfl⟩ := hres'
 have hcn : callNo (SN L) 55 [.v (.s (.fn 85 [] [.ptr B 0])), .v (.agg [.a (.int .i64 (.lit 0)), .a (.int .i64 (.lit 0))]), .v (.s (.fn 57 [] []))] [(0, cells6), (B, [some (.a (.sl 0 0 3 3))])] = some (base / 32, 70, [.v (.s (.fn 85 [] [.ptr B 0])), .v (.agg [.a (.int .i64 (.lit 0)), .a (.int .i64 (.lit 0))]), .v (.s (.fn 57 [] []))]) := by
  unfold callNo
  rw [hs, ← hbase]
  rfl
 have hb32 : base / 32 * 32 = base := by rw [← hbase]; exact base32 _ _ _
 have hv := fun k hk => (hsat _ _ _ hcn k hk).1
 rw [hb32] at hv
 have v0 : ε.i base = (foldL L).1.lo := hv 0 (by omega)
 have v1 : ε.i (base + 1) = (foldL L).1.hi := hv 1 (by omega)
 have v2 : ε.i (base + 2) = (foldL L).2 := hv 2 (by omega)
 intro _ w2 ρ hw2 hblk hinj
 obtain ⟨_, b2, b3⟩ := hblk 0 cells6 (by simp [List.lookup])
 obtain ⟨_, d2, d3⟩ := hblk B [some (.a (.sl 0 0 3 3))] (by
  have : (B == 0) = false := by simpa using hB
  simp [List.lookup, this])
 have cl : ∀ j, j < 6 → w2.cell? ⟨ρ 0, j, none⟩ = some (.int .i64 (clampI (L.getD j 0))) := fun j hj => by
  have hg : cells6[j]? = some (some (.a (.int .i64 (.var j)))) := by
   unfold cells6
   rcases j with _ | _ | _ | _ | _ | _ | j
   any_goals rfl
   omega
  obtain ⟨v, c1, _, c3⟩ := b3 j _ hg
  rw [c1, c3 _ rfl]
  show some (Value.int .i64 (ε.i j)) = _
  rw [hi j (by unfold top; omega), clampI_eq]
  exact envL_R64 (T := T0) hL j
 obtain ⟨sv, c1, _, c3⟩ := d3 0 _ rfl
 have csv : w2.cell? ⟨ρ B, 0, none⟩ = some (.slice (some ⟨ρ 0, 0, none⟩) 3 3) := by
  rw [c1, c3 _ rfl]; rfl
 refine Calls.mono (FD.fold_any stepV step_in (ρ B) (.slice (some ⟨ρ 0, 0, none⟩) 3 3) 3 (fun j => clampI (L.getD (j * 2) 0)) (fun j => clampI (L.getD (j * 2 + 1) 0)) (fun j => ⟨clampI_R64 _, clampI_R64 _⟩) (by omega) .zero w2 d2 csv
  (.inr ⟨ρ 0, 0, 3, rfl, b2, fun j hj => ⟨by rw [Nat.zero_add]; exact cl (j * 2) (by omega), by rw [Nat.zero_add]; exact cl (j * 2 + 1) (by omega)⟩⟩)) fun e w' ⟨q1, q2⟩ => ⟨?_, by simp, Ext.of_below q2 _⟩
 have q3 : e = .returned (.tuple #[FD.spv (foldL L).1, .int .i64 (foldL L).2]) := q1
 have hz : (foldL L).2 ≠ 0 → (foldL L).1 = .zero := foldS_zero _ _ _
 rw [q3]
 clear q1 q3
 refine congrArg Ending.returned ?_
 generalize foldL L = F at v0 v1 v2 hz ⊢
 show Value.tuple #[FD.spv F.1, .int .i64 F.2] = Value.tuple #[.agg #[.int .i64 ((mkIte (mkEq 200 (.var (base + 2)) (.lit 0)) (.var base) (.lit 0)).den ε).1, .int .i64 ((mkIte (mkEq 200 (.var (base + 2)) (.lit 0)) (.var (base + 1)) (.lit 0)).den ε).1], .int .i64 (ε.i (base + 2))]
 simp only [mkIte_den, mkEq_den, E.den, v0, v1, v2, beq_iff_eq]
 by_cases h0 : F.2 = 0
 ·simp only [h0, if_true]
 ·simp only [h0, if_false, hz h0]
  rfl
end SX
end
section
set_option maxRecDepth 1000000
open Go.RowKit
namespace SX
noncomputable def nmV (L : List Int) (k : Nat) : Int :=
 if (vB (L.getD 0 0) (L.getD 1 0) && vB (L.getD 2 0) (L.getD 3 0) && vB (L.getD 4 0) (L.getD 5 0)) = true then
  if (foldL L).2 = 0 then (if v0 7 [(foldL L).1.lo, (foldL L).1.hi] 2 = 0 then v0 7 [(foldL L).1.lo, (foldL L).1.hi] k else if k = 2 then v0 7 [(foldL L).1.lo, (foldL L).1.hi] 2 else 0)
  else if k = 2 then (foldL L).2 else 0
 else if k = 2 then 2 else 0
def patN : List LV := [.v (.s (.a (.sl 0 0 3 3)))]
def memN : List (Nat × Cells) := [(0, cells6)]
theorem conN {L : List Int} (hL : ∀ x ∈ L, R64 x) (w : World) (ε : Env) (h0 : ∀ v, v < top → ε.i v = L.getD v 0) (h1 : ε.sa = T0.sa) (h2 : ε.sn = T0.sn) (h3 : ε.sc = T0.sc) (h4 : ∀ i, R64 (ε.i i)) : ∀ f args mem res upd, shpN f args mem = true → stdRes Tryz.prog (SN L).sym f args mem = some (res, upd) → rngOb (.call (.blit true) f args mem res upd) = true → Ob.sat (SN L) ε (.call (.blit true) f args mem res upd) → Ob.ok Tryz.prog ε w (.call (.blit true) f args mem res upd) := by
 intro f args mem res upd k1 k2 k3 k4
 unfold shpN at k1
 split at k1
 ·rename_i hf
  have hf := eq_of_beq hf
  subst hf
  exact fold_ok hL h0 k1 k2 k4
 ·rename_i hf
  have hsym : (SN L).sym f = S00.sym f := by
   have hb : (f == 55) = false := by simpa using hf
   show List.lookup f ((55, 70, 1) :: sy) = List.lookup f sy
   rw [List.lookup, hb]
  rw [std_of hsym] at k2
  refine con00 w ε h1 h2 h3 h4 w (Below.refl _ _) f args mem res upd k1 k2 k3 (sat_of hsym (fun s z hs L' k => ?_) k4)
  show (if s = 70 then _ else _) = _
  rw [if_neg (sy_no70 hs)]; rfl
theorem SN_v {L : List Int} {s : Nat} (h : s ≠ 70) (l : List Int) (k : Nat) : (SN L).val s l k = v0 s l k := if_neg h
theorem v0_9 (l : List Int) (k : Nat) : v0 9 l k = if vB (l.getD 0 0) (l.getD 1 0) then 0 else 2 := rfl
theorem stepV2 (s x : FD.Sp) : R64 (stepV s x).2 := by
 unfold stepV
 split
 ·split
  ·exact R64_0
  ·exact v0_R64 1 _ 2
 ·exact v0_R64 6 _ 2
theorem foldS2 : ∀ (l : List FD.Sp) (s : FD.Sp), R64 (FD.foldS stepV s l).2
 | [], s => R64_0
 | x :: xs, s => by
  simp only [FD.foldS]
  split
  ·exact foldS2 xs _
  ·exact stepV2 _ _
theorem foldL2 (L : List Int) : R64 (foldL L).2 := foldS2 _ _
theorem snormB (L : List Int) : readB Tryz.prog (SN L) shpN KN 3000 (2^240) 21 patN memN = true := by kernel_rfl
def lit_snorm : LV := .tup [.agg [.a (.int .i64 (.ite (.cmp .eql (.var 4671117638481768425) (.lit 0)) (.ite (.cmp .eql (.var 154519377290769204290) (.lit 0)) (.ite (.cmp .eql (.var 185007111686903277506) (.lit 0)) (.var 185007111686903277504) (.lit 0)) (.lit 0)) (.lit 0))), .a (.int .i64 (.ite (.cmp .eql (.var 4671117638481768425) (.lit 0)) (.ite (.cmp .eql (.var 154519377290769204290) (.lit 0)) (.ite (.cmp .eql (.var 185007111686903277506) (.lit 0)) (.var 185007111686903277505) (.lit 0)) (.lit 0)) (.lit 0)))], .s (.a (.int .i64 (.ite (.cmp .eql (.var 4671117638481768425) (.lit 0)) (.ite (.cmp .eql (.var 154519377290769204290) (.lit 0)) (.var 185007111686903277506) (.var 154519377290769204290)) (.var 4671117638481768425))))]
theorem snorm_lit : (rd Tryz.prog KN 3000 (2^240) 21 patN memN).1 = lit_snorm := eq_of_beq (by kernel_rfl)
theorem snorm_in {L : List Int} (hL : ∀ x ∈ L, R64 x) (w : World) : ∃ ε : Env, (∀ v, v < top → ε.i v = L.getD v 0) ∧ Ob.ok Tryz.prog ε w (.call (.blit true) 21 patN memN lit_snorm []) ∧ ∀ ρ, lit_snorm.den ε ρ = .tuple #[.agg #[.int .i64 (nmV L 0), .int .i64 (nmV L 1)], .int .i64 (nmV L 2)] := by
 obtain ⟨ε, h0, -, -, -, hR, hs, hok⟩ := read_ob hmix (by decide) (snormB L) (fun s l k => by
   show R64 (if s = 70 then _ else _)
   split
   ·exact sp3_R64 (foldL L).1.ok.1 (foldL L).1.ok.2 (foldL2 L) k
   ·exact v0_R64 _ _ _) T0 (w := w) hL (conN hL w)
 rw [snorm_lit] at hok
 refine ⟨ε, h0, hok, fun ρ => ?_⟩
 clear hok
 obtain ⟨m0, c0⟩ := sat_call hs (s := 9) (base := 183958120548362611040) (args := [.v (.agg [.a (.int .i64 (.var 0)), .a (.int .i64 (.var 1))])]) (by kernel_rfl)
 have c0_0 : ε.i 183958120548362611040 = _ := c0 0 (by omega)
 clear c0
 obtain ⟨m1, c1⟩ := sat_call hs (s := 9) (base := 184877719958844856960) (args := [.v (.agg [.a (.int .i64 (.var 2)), .a (.int .i64 (.var 3))])]) (by kernel_rfl)
 have c1_0 : ε.i 184877719958844856960 = _ := c1 0 (by omega)
 clear c1
 obtain ⟨m2, c2⟩ := sat_call hs (s := 9) (base := 185797319369327102880) (args := [.v (.agg [.a (.int .i64 (.var 4)), .a (.int .i64 (.var 5))])]) (by kernel_rfl)
 have c2_0 : ε.i 185797319369327102880 = _ := c2 0 (by omega)
 clear c2
 obtain ⟨m3, c3⟩ := sat_call hs (s := 70) (base := 154519377290769204288) (args := [.v (.s (SV.fn 85 [] [AV.ptr 22969011842118996284582867509657940705757290659383046455580880616804057089 0])), .v (.agg [.a (.int .i64 (.lit 0)), .a (.int .i64 (.lit 0))]), .v (.s (SV.fn 57 [] []))]) (by kernel_rfl)
 have c3_0 : ε.i 154519377290769204288 = _ := c3 0 (by omega)
 have c3_1 : ε.i 154519377290769204289 = _ := c3 1 (by omega)
 have c3_2 : ε.i 154519377290769204290 = _ := c3 2 (by omega)
 clear c3
 obtain ⟨m4, c4⟩ := sat_call hs (s := 7) (base := 185007111686903277504) (args := [.v (.agg [.a (.int .i64 (.ite (.cmp .eql (.var 154519377290769204290) (.lit 0)) (.var 154519377290769204288) (.lit 0))), .a (.int .i64 (.ite (.cmp .eql (.var 154519377290769204290) (.lit 0)) (.var 154519377290769204289) (.lit 0)))])]) (by kernel_rfl)
 have c4_0 : ε.i 185007111686903277504 = _ := c4 0 (by omega)
 have c4_1 : ε.i 185007111686903277505 = _ := c4 1 (by omega)
 have c4_2 : ε.i 185007111686903277506 = _ := c4 2 (by omega)
 clear c4
 have q0 := sat_eq hs (v := 4671117638481768425) (e := (.ite (.cmp .eql (.var 183958120548362611040) (.lit 0)) (.ite (.cmp .eql (.var 184877719958844856960) (.lit 0)) (.ite (.cmp .eql (.var 185797319369327102880) (.lit 0)) (.lit 0) (.lit 2)) (.lit 2)) (.lit 2))) (by kernel_rfl)
 simp only [List.flatMap_cons, List.flatMap_nil, argInts, V1.cells, SV.ints, E.den, List.append_nil, List.singleton_append, List.cons_append, List.nil_append, CO.den, beq_iff_eq] at c0_0 c1_0 c2_0 c3_0 c3_1 c3_2 c4_0 c4_1 c4_2 q0
 simp only [SN_v (L := L) (s := 9) (by decide), SN_v (L := L) (s := 7) (by decide), SN_v (L := L) (s := 6) (by decide), SN_v (L := L) (s := 1) (by decide), v0_9, List.getD_cons_zero, List.getD_cons_succ] at c0_0 c1_0 c2_0 c3_0 c3_1 c3_2 c4_0 c4_1 c4_2
 have i0 : ε.i 0 = L.getD 0 0 := h0 0 (by decide)
 have i1 : ε.i 1 = L.getD 1 0 := h0 1 (by decide)
 have i2 : ε.i 2 = L.getD 2 0 := h0 2 (by decide)
 have i3 : ε.i 3 = L.getD 3 0 := h0 3 (by decide)
 have i4 : ε.i 4 = L.getD 4 0 := h0 4 (by decide)
 have i5 : ε.i 5 = L.getD 5 0 := h0 5 (by decide)
 clear hs h0
 simp only [i0, i1, i2, i3, i4, i5] at c0_0 c1_0 c2_0 c3_0 c3_1 c3_2 c4_0 c4_1 c4_2
 simp only [lit_snorm, LV.den, V1.den, SV.den, AV.den, E.den, CO.den, beq_iff_eq, List.map_cons, List.map_nil]
 have f0 : ε.i 154519377290769204288 = (foldL L).1.lo := c3_0
 have f1 : ε.i 154519377290769204289 = (foldL L).1.hi := c3_1
 have f2 : ε.i 154519377290769204290 = (foldL L).2 := c3_2
 simp only [f0, f1, f2] at c4_0 c4_1 c4_2
 clear c3_0 c3_1 c3_2
 unfold nmV
 generalize foldL L = F at f0 f1 f2 c4_0 c4_1 c4_2 ⊢
 generalize vB (L.getD 0 0) (L.getD 1 0) = B0 at c0_0 ⊢
 generalize vB (L.getD 2 0) (L.getD 3 0) = B1 at c1_0 ⊢
 generalize vB (L.getD 4 0) (L.getD 5 0) = B2 at c2_0 ⊢
 cases B0
 ·simp [q0, c0_0]
 cases B1
 ·simp [q0, c0_0, c1_0]
 cases B2
 ·simp [q0, c0_0, c1_0, c2_0]
 have q : ε.i 4671117638481768425 = 0 := by simp [q0, c0_0, c1_0, c2_0]
 by_cases hF : F.2 = 0
 ·simp only [hF, if_true] at c4_0 c4_1 c4_2
  by_cases hr : v0 7 [F.1.lo, F.1.hi] 2 = 0
  ·simp [q, f0, f1, f2, hF, hr, c4_0, c4_1, c4_2]
  ·simp [q, f0, f1, f2, hF, hr, c4_0, c4_1, c4_2]
 ·simp [q, f0, f1, f2, hF]
theorem rnormB (L : List Int) : readB Tryz.prog (SN L) shpN KN 3000 (2^240) 22 patN memN = true := by kernel_rfl
def lit_rnorm : LV := .tup [.agg [.a (.int .i64 (.ite (.cmp .eql (.var 4671117638481768425) (.lit 0)) (.ite (.cmp .eql (.var 202824596126629761922) (.lit 0)) (.ite (.cmp .eql (.var 198421856824324646914) (.lit 0)) (.ite (.cmp .eql (.var 203744195537112007842) (.lit 0)) (.ite (.cmp .eql (.var 173696645581412367554) (.lit 0)) (.ite (.cmp .eql (.var 204663794947594253762) (.lit 0)) (.ite (.cmp .eql (.var 209135737179751605410) (.lit 0)) (.ite (.cmp .eql (.var 166870315022410895170) (.lit 0)) (.var 166870315022410895168) (.lit 0)) (.lit 0)) (.lit 0)) (.lit 0)) (.lit 0)) (.lit 0)) (.lit 0)) (.lit 0))), .a (.int .i64 (.ite (.cmp .eql (.var 4671117638481768425) (.lit 0)) (.ite (.cmp .eql (.var 202824596126629761922) (.lit 0)) (.ite (.cmp .eql (.var 198421856824324646914) (.lit 0)) (.ite (.cmp .eql (.var 203744195537112007842) (.lit 0)) (.ite (.cmp .eql (.var 173696645581412367554) (.lit 0)) (.ite (.cmp .eql (.var 204663794947594253762) (.lit 0)) (.ite (.cmp .eql (.var 209135737179751605410) (.lit 0)) (.ite (.cmp .eql (.var 166870315022410895170) (.lit 0)) (.var 166870315022410895169) (.lit 0)) (.lit 0)) (.lit 0)) (.lit 0)) (.lit 0)) (.lit 0)) (.lit 0)) (.lit 0)))], .s (.a (.int .i64 (.ite (.cmp .eql (.var 4671117638481768425) (.lit 0)) (.ite (.cmp .eql (.var 202824596126629761922) (.lit 0)) (.ite (.cmp .eql (.var 198421856824324646914) (.lit 0)) (.ite (.cmp .eql (.var 203744195537112007842) (.lit 0)) (.ite (.cmp .eql (.var 173696645581412367554) (.lit 0)) (.ite (.cmp .eql (.var 204663794947594253762) (.lit 0)) (.ite (.cmp .eql (.var 209135737179751605410) (.lit 0)) (.var 166870315022410895170) (.var 209135737179751605410)) (.var 204663794947594253762)) (.var 173696645581412367554)) (.var 203744195537112007842)) (.var 198421856824324646914)) (.var 202824596126629761922)) (.var 4671117638481768425))))]
theorem rnorm_lit : (rd Tryz.prog KN 3000 (2^240) 22 patN memN).1 = lit_rnorm := eq_of_beq (by kernel_rfl)
theorem rnorm_in {L : List Int} (hL : ∀ x ∈ L, R64 x) (w : World) : ∃ ε : Env, (∀ v, v < top → ε.i v = L.getD v 0) ∧ Ob.ok Tryz.prog ε w (.call (.blit true) 22 patN memN lit_rnorm []) ∧ ∀ ρ, lit_rnorm.den ε ρ = .tuple #[.agg #[.int .i64 (nmV L 0), .int .i64 (nmV L 1)], .int .i64 (nmV L 2)] := by
 obtain ⟨ε, h0, -, -, -, hR, hs, hok⟩ := read_ob hmix (by decide) (rnormB L) (fun s l k => by
   show R64 (if s = 70 then _ else _)
   split
   ·exact sp3_R64 (foldL L).1.ok.1 (foldL L).1.ok.2 (foldL2 L) k
   ·exact v0_R64 _ _ _) T0 (w := w) hL (conN hL w)
 rw [rnorm_lit] at hok
 refine ⟨ε, h0, hok, fun ρ => ?_⟩
 clear hok
 obtain ⟨m0, c0⟩ := sat_call hs (s := 9) (base := 183958120548362611040) (args := [.v (.agg [.a (.int .i64 (.var 0)), .a (.int .i64 (.var 1))])]) (by kernel_rfl)
 have c0_0 : ε.i 183958120548362611040 = _ := c0 0 (by omega)
 clear c0
 obtain ⟨m1, c1⟩ := sat_call hs (s := 9) (base := 184877719958844856960) (args := [.v (.agg [.a (.int .i64 (.var 2)), .a (.int .i64 (.var 3))])]) (by kernel_rfl)
 have c1_0 : ε.i 184877719958844856960 = _ := c1 0 (by omega)
 clear c1
 obtain ⟨m2, c2⟩ := sat_call hs (s := 9) (base := 185797319369327102880) (args := [.v (.agg [.a (.int .i64 (.var 4)), .a (.int .i64 (.var 5))])]) (by kernel_rfl)
 have c2_0 : ε.i 185797319369327102880 = _ := c2 0 (by omega)
 clear c2
 obtain ⟨m3, c3⟩ := sat_call hs (s := 6) (base := 202824596126629761920) (args := [.v (.agg [.a (.int .i64 (.var 0)), .a (.int .i64 (.var 1))])]) (by kernel_rfl)
 have c3_0 : ε.i 202824596126629761920 = _ := c3 0 (by omega)
 have c3_1 : ε.i 202824596126629761921 = _ := c3 1 (by omega)
 have c3_2 : ε.i 202824596126629761922 = _ := c3 2 (by omega)
 clear c3
 obtain ⟨m4, c4⟩ := sat_call hs (s := 1) (base := 198421856824324646912) (args := [.v (.agg [.a (.int .i64 (.lit 0)), .a (.int .i64 (.lit 0))]), .v (.agg [.a (.int .i64 (.ite (.cmp .eql (.var 202824596126629761922) (.lit 0)) (.var 202824596126629761920) (.lit 0))), .a (.int .i64 (.ite (.cmp .eql (.var 202824596126629761922) (.lit 0)) (.var 202824596126629761921) (.lit 0)))])]) (by kernel_rfl)
 have c4_0 : ε.i 198421856824324646912 = _ := c4 0 (by omega)
 have c4_1 : ε.i 198421856824324646913 = _ := c4 1 (by omega)
 have c4_2 : ε.i 198421856824324646914 = _ := c4 2 (by omega)
 clear c4
 obtain ⟨m5, c5⟩ := sat_call hs (s := 6) (base := 203744195537112007840) (args := [.v (.agg [.a (.int .i64 (.var 2)), .a (.int .i64 (.var 3))])]) (by kernel_rfl)
 have c5_0 : ε.i 203744195537112007840 = _ := c5 0 (by omega)
 have c5_1 : ε.i 203744195537112007841 = _ := c5 1 (by omega)
 have c5_2 : ε.i 203744195537112007842 = _ := c5 2 (by omega)
 clear c5
 obtain ⟨m6, c6⟩ := sat_call hs (s := 1) (base := 173696645581412367552) (args := [.v (.agg [.a (.int .i64 (.ite (.cmp .eql (.var 198421856824324646914) (.lit 0)) (.var 198421856824324646912) (.lit 0))), .a (.int .i64 (.ite (.cmp .eql (.var 198421856824324646914) (.lit 0)) (.var 198421856824324646913) (.lit 0)))]), .v (.agg [.a (.int .i64 (.ite (.cmp .eql (.var 203744195537112007842) (.lit 0)) (.var 203744195537112007840) (.lit 0))), .a (.int .i64 (.ite (.cmp .eql (.var 203744195537112007842) (.lit 0)) (.var 203744195537112007841) (.lit 0)))])]) (by kernel_rfl)
 have c6_0 : ε.i 173696645581412367552 = _ := c6 0 (by omega)
 have c6_1 : ε.i 173696645581412367553 = _ := c6 1 (by omega)
 have c6_2 : ε.i 173696645581412367554 = _ := c6 2 (by omega)
 clear c6
 obtain ⟨m7, c7⟩ := sat_call hs (s := 6) (base := 204663794947594253760) (args := [.v (.agg [.a (.int .i64 (.var 4)), .a (.int .i64 (.var 5))])]) (by kernel_rfl)
 have c7_0 : ε.i 204663794947594253760 = _ := c7 0 (by omega)
 have c7_1 : ε.i 204663794947594253761 = _ := c7 1 (by omega)
 have c7_2 : ε.i 204663794947594253762 = _ := c7 2 (by omega)
 clear c7
 obtain ⟨m8, c8⟩ := sat_call hs (s := 1) (base := 209135737179751605408) (args := [.v (.agg [.a (.int .i64 (.ite (.cmp .eql (.var 173696645581412367554) (.lit 0)) (.var 173696645581412367552) (.lit 0))), .a (.int .i64 (.ite (.cmp .eql (.var 173696645581412367554) (.lit 0)) (.var 173696645581412367553) (.lit 0)))]), .v (.agg [.a (.int .i64 (.ite (.cmp .eql (.var 204663794947594253762) (.lit 0)) (.var 204663794947594253760) (.lit 0))), .a (.int .i64 (.ite (.cmp .eql (.var 204663794947594253762) (.lit 0)) (.var 204663794947594253761) (.lit 0)))])]) (by kernel_rfl)
 have c8_0 : ε.i 209135737179751605408 = _ := c8 0 (by omega)
 have c8_1 : ε.i 209135737179751605409 = _ := c8 1 (by omega)
 have c8_2 : ε.i 209135737179751605410 = _ := c8 2 (by omega)
 clear c8
 obtain ⟨m9, c9⟩ := sat_call hs (s := 7) (base := 166870315022410895168) (args := [.v (.agg [.a (.int .i64 (.ite (.cmp .eql (.var 209135737179751605410) (.lit 0)) (.var 209135737179751605408) (.lit 0))), .a (.int .i64 (.ite (.cmp .eql (.var 209135737179751605410) (.lit 0)) (.var 209135737179751605409) (.lit 0)))])]) (by kernel_rfl)
 have c9_0 : ε.i 166870315022410895168 = _ := c9 0 (by omega)
 have c9_1 : ε.i 166870315022410895169 = _ := c9 1 (by omega)
 have c9_2 : ε.i 166870315022410895170 = _ := c9 2 (by omega)
 clear c9
 have q0 := sat_eq hs (v := 4671117638481768425) (e := (.ite (.cmp .eql (.var 183958120548362611040) (.lit 0)) (.ite (.cmp .eql (.var 184877719958844856960) (.lit 0)) (.ite (.cmp .eql (.var 185797319369327102880) (.lit 0)) (.lit 0) (.lit 2)) (.lit 2)) (.lit 2))) (by kernel_rfl)
 simp only [List.flatMap_cons, List.flatMap_nil, argInts, V1.cells, SV.ints, E.den, List.append_nil, List.singleton_append, List.cons_append, List.nil_append, CO.den, beq_iff_eq] at c0_0 c1_0 c2_0 c3_0 c3_1 c3_2 c4_0 c4_1 c4_2 c5_0 c5_1 c5_2 c6_0 c6_1 c6_2 c7_0 c7_1 c7_2 c8_0 c8_1 c8_2 c9_0 c9_1 c9_2 q0
 simp only [SN_v (L := L) (s := 9) (by decide), SN_v (L := L) (s := 7) (by decide), SN_v (L := L) (s := 6) (by decide), SN_v (L := L) (s := 1) (by decide), v0_9, List.getD_cons_zero, List.getD_cons_succ] at c0_0 c1_0 c2_0 c3_0 c3_1 c3_2 c4_0 c4_1 c4_2 c5_0 c5_1 c5_2 c6_0 c6_1 c6_2 c7_0 c7_1 c7_2 c8_0 c8_1 c8_2 c9_0 c9_1 c9_2
 have i0 : ε.i 0 = L.getD 0 0 := h0 0 (by decide)
 have i1 : ε.i 1 = L.getD 1 0 := h0 1 (by decide)
 have i2 : ε.i 2 = L.getD 2 0 := h0 2 (by decide)
 have i3 : ε.i 3 = L.getD 3 0 := h0 3 (by decide)
 have i4 : ε.i 4 = L.getD 4 0 := h0 4 (by decide)
 have i5 : ε.i 5 = L.getD 5 0 := h0 5 (by decide)
 clear hs h0
 simp only [i0, i1, i2, i3, i4, i5] at c0_0 c1_0 c2_0 c3_0 c3_1 c3_2 c4_0 c4_1 c4_2 c5_0 c5_1 c5_2 c6_0 c6_1 c6_2 c7_0 c7_1 c7_2 c8_0 c8_1 c8_2 c9_0 c9_1 c9_2
 simp only [lit_rnorm, LV.den, V1.den, SV.den, AV.den, E.den, CO.den, beq_iff_eq, List.map_cons, List.map_nil]
 have l0 : (spL L 0).lo = L.getD 0 0 := clampI_eq (envL_R64 (T := T0) hL 0)
 have g0 : (spL L 0).hi = L.getD 1 0 := clampI_eq (envL_R64 (T := T0) hL 1)
 have l1 : (spL L 1).lo = L.getD 2 0 := clampI_eq (envL_R64 (T := T0) hL 2)
 have g1 : (spL L 1).hi = L.getD 3 0 := clampI_eq (envL_R64 (T := T0) hL 3)
 have l2 : (spL L 2).lo = L.getD 4 0 := clampI_eq (envL_R64 (T := T0) hL 4)
 have g2 : (spL L 2).hi = L.getD 5 0 := clampI_eq (envL_R64 (T := T0) hL 5)
 have zl : FD.Sp.zero.lo = 0 := rfl
 have zh : FD.Sp.zero.hi = 0 := rfl
 unfold nmV foldL
 generalize vB (L.getD 0 0) (L.getD 1 0) = B0 at c0_0 ⊢
 generalize vB (L.getD 2 0) (L.getD 3 0) = B1 at c1_0 ⊢
 generalize vB (L.getD 4 0) (L.getD 5 0) = B2 at c2_0 ⊢
 generalize spL L 0 = s0 at *
 generalize spL L 1 = s1 at *
 generalize spL L 2 = s2 at *
 clear hL
 generalize L.getD 0 0 = x0 at *
 generalize L.getD 1 0 = x1 at *
 generalize L.getD 2 0 = x2 at *
 generalize L.getD 3 0 = x3 at *
 generalize L.getD 4 0 = x4 at *
 generalize L.getD 5 0 = x5 at *
 cases B0
 ·simp [q0, c0_0]
 cases B1
 ·simp [q0, c0_0, c1_0]
 cases B2
 ·simp [q0, c0_0, c1_0, c2_0]
 have q : ε.i 4671117638481768425 = 0 := by simp [q0, c0_0, c1_0, c2_0]
 clear q0 c0_0 c1_0 c2_0
 by_cases e0 : v0 6 [x0, x1] 2 = 0
 rotate_left
 ·simp [q, FD.foldS, stepV, l0, l1, l2, g0, g1, g2, zl, zh, c3_0, c3_1, c3_2, e0]
 simp only [c3_0, c3_1, c3_2, e0, if_true] at c4_0 c4_1 c4_2
 by_cases e1 : v0 1 [0, 0, v0 6 [x0, x1] 0, v0 6 [x0, x1] 1] 2 = 0
 rotate_left
 ·simp [q, FD.foldS, stepV, l0, l1, l2, g0, g1, g2, zl, zh, c3_0, c3_1, c3_2, c4_0, c4_1, c4_2, e0, e1]
 simp only [c4_0, c4_1, c4_2, e1, if_true] at c6_0 c6_1 c6_2
 by_cases e2 : v0 6 [x2, x3] 2 = 0
 rotate_left
 ·simp [q, FD.foldS, stepV, l0, l1, l2, g0, g1, g2, zl, zh, c3_0, c3_1, c3_2, c4_0, c4_1, c4_2, c5_0, c5_1, c5_2, e0, e1, e2]
 simp only [c5_0, c5_1, c5_2, e2, if_true] at c6_0 c6_1 c6_2
 by_cases e3 : v0 1 [v0 1 [0, 0, v0 6 [x0, x1] 0, v0 6 [x0, x1] 1] 0, v0 1 [0, 0, v0 6 [x0, x1] 0, v0 6 [x0, x1] 1] 1, v0 6 [x2, x3] 0, v0 6 [x2, x3] 1] 2 = 0
 rotate_left
 ·simp [q, FD.foldS, stepV, l0, l1, l2, g0, g1, g2, zl, zh, c3_0, c3_1, c3_2, c4_0, c4_1, c4_2, c5_0, c5_1, c5_2, c6_0, c6_1, c6_2, e0, e1, e2, e3]
 simp only [c6_0, c6_1, c6_2, e3, if_true] at c8_0 c8_1 c8_2
 by_cases e4 : v0 6 [x4, x5] 2 = 0
 rotate_left
 ·simp [q, FD.foldS, stepV, l0, l1, l2, g0, g1, g2, zl, zh, c3_0, c3_1, c3_2, c4_0, c4_1, c4_2, c5_0, c5_1, c5_2, c6_0, c6_1, c6_2, c7_0, c7_1, c7_2, e0, e1, e2, e3, e4]
 simp only [c7_0, c7_1, c7_2, e4, if_true] at c8_0 c8_1 c8_2
 by_cases e5 : v0 1 [v0 1 [v0 1 [0, 0, v0 6 [x0, x1] 0, v0 6 [x0, x1] 1] 0, v0 1 [0, 0, v0 6 [x0, x1] 0, v0 6 [x0, x1] 1] 1, v0 6 [x2, x3] 0, v0 6 [x2, x3] 1] 0, v0 1 [v0 1 [0, 0, v0 6 [x0, x1] 0, v0 6 [x0, x1] 1] 0, v0 1 [0, 0, v0 6 [x0, x1] 0, v0 6 [x0, x1] 1] 1, v0 6 [x2, x3] 0, v0 6 [x2, x3] 1] 1, v0 6 [x4, x5] 0, v0 6 [x4, x5] 1] 2 = 0
 rotate_left
 ·simp [q, FD.foldS, stepV, l0, l1, l2, g0, g1, g2, zl, zh, c3_0, c3_1, c3_2, c4_0, c4_1, c4_2, c5_0, c5_1, c5_2, c6_0, c6_1, c6_2, c7_0, c7_1, c7_2, c8_0, c8_1, c8_2, e0, e1, e2, e3, e4, e5]
 simp only [c8_0, c8_1, c8_2, e5, if_true] at c9_0 c9_1 c9_2
 by_cases e6 : v0 7 [v0 1 [v0 1 [v0 1 [0, 0, v0 6 [x0, x1] 0, v0 6 [x0, x1] 1] 0, v0 1 [0, 0, v0 6 [x0, x1] 0, v0 6 [x0, x1] 1] 1, v0 6 [x2, x3] 0, v0 6 [x2, x3] 1] 0, v0 1 [v0 1 [0, 0, v0 6 [x0, x1] 0, v0 6 [x0, x1] 1] 0, v0 1 [0, 0, v0 6 [x0, x1] 0, v0 6 [x0, x1] 1] 1, v0 6 [x2, x3] 0, v0 6 [x2, x3] 1] 1, v0 6 [x4, x5] 0, v0 6 [x4, x5] 1] 0, v0 1 [v0 1 [v0 1 [0, 0, v0 6 [x0, x1] 0, v0 6 [x0, x1] 1] 0, v0 1 [0, 0, v0 6 [x0, x1] 0, v0 6 [x0, x1] 1] 1, v0 6 [x2, x3] 0, v0 6 [x2, x3] 1] 0, v0 1 [v0 1 [0, 0, v0 6 [x0, x1] 0, v0 6 [x0, x1] 1] 0, v0 1 [0, 0, v0 6 [x0, x1] 0, v0 6 [x0, x1] 1] 1, v0 6 [x2, x3] 0, v0 6 [x2, x3] 1] 1, v0 6 [x4, x5] 0, v0 6 [x4, x5] 1] 1] 2 = 0
 ·simp [q, FD.foldS, stepV, l0, l1, l2, g0, g1, g2, zl, zh, c3_0, c3_1, c3_2, c4_0, c4_1, c4_2, c5_0, c5_1, c5_2, c6_0, c6_1, c6_2, c7_0, c7_1, c7_2, c8_0, c8_1, c8_2, c9_0, c9_1, c9_2, e0, e1, e2, e3, e4, e5, e6]
 ·simp [q, FD.foldS, stepV, l0, l1, l2, g0, g1, g2, zl, zh, c3_0, c3_1, c3_2, c4_0, c4_1, c4_2, c5_0, c5_1, c5_2, c6_0, c6_1, c6_2, c7_0, c7_1, c7_2, c8_0, c8_1, c8_2, c9_0, c9_1, c9_2, e0, e1, e2, e3, e4, e5, e6]
end SX
end
section
set_option maxRecDepth 1000000
open Go.RowKit
namespace SX
theorem co_lss (x y : Int) : (CO.den x y .lss = true) = (x < y) := by simp [CO.den]
theorem co_eql (x y : Int) : (CO.den x y .eql = true) = (x = y) := by simp [CO.den]
section
variable (n : Nat) (at_ lo hi : Nat → Int)
def pat30 : List LV := [.v (.agg [.a (.int .i64 (.var 0)), .a (.int .i64 (.var 1)), .a (.int .i64 (.var 2)), .a (.int .i64 (.var 3)), .a (.int .i64 (.var 4)), .a (.int .i64 (.var 5)), .a (.int .i64 (.var 6)), .a (.int .i64 (.var 7)), .a (.int .i64 (.var 8)), .a (.int .i64 (.var 9)), .a (.int .i64 (.var 10)), .a (.int .i64 (.var 11)), .a (.int .i64 (.var 12)), .a (.int .i64 (.var 13))])]
theorem pair30 : pairI Tryz.prog (S0 n at_ lo hi) shp0 KF 3000 (2^240) 14 18 pat30 = true := by kernel_rfl
def pat32 : List LV := [.v (.agg [.a (.int .i64 (.var 0)), .a (.int .i64 (.var 1)), .a (.int .i64 (.var 2)), .a (.int .i64 (.var 3)), .a (.int .i64 (.var 4)), .a (.int .i64 (.var 5)), .a (.int .i64 (.var 6)), .a (.int .i64 (.var 7)), .a (.int .i64 (.var 8)), .a (.int .i64 (.var 9)), .a (.int .i64 (.var 10)), .a (.int .i64 (.var 11)), .a (.int .i64 (.var 12)), .a (.int .i64 (.var 13)), .a (.int .i64 (.var 14))])]
theorem pair32 : pairI2 Tryz.prog (S0 n at_ lo hi) shp0 KF 3000 (2^240) 40 43 pat32 = true := by kernel_rfl
def pat34 : List LV := [.v (.agg [.a (.int .i64 (.var 0)), .a (.int .i64 (.var 1)), .a (.int .i64 (.var 2)), .a (.int .i64 (.var 3)), .a (.int .i64 (.var 4)), .a (.int .i64 (.var 5)), .a (.int .i64 (.var 6)), .a (.int .i64 (.var 7)), .a (.int .i64 (.var 8)), .a (.int .i64 (.var 9)), .a (.int .i64 (.var 10)), .a (.int .i64 (.var 11)), .a (.int .i64 (.var 12)), .a (.int .i64 (.var 13)), .a (.int .i64 (.var 14)), .a (.int .i64 (.var 15))])]
theorem pair34 : pairI2 Tryz.prog (S0 n at_ lo hi) shp0 KF 3000 (2^240) 28 34 pat34 = true := by kernel_rfl
def pat42 : List LV := [.v (.agg [.a (.int .i64 (.var 1)), .a (.int .i64 (.var 2))]), .v (.agg [.a (.int .i64 (.var 3)), .a (.int .i64 (.var 4))])]
theorem pair42 : pairM Tryz.prog (S0 n at_ lo hi) shp0 KF 3000 (2^240) 48 19 pat42 = true := by kernel_rfl
def pat43 : List LV := [.v (.agg [.a (.int .i64 (.var 1)), .a (.int .i64 (.var 2))]), .v (.agg [.a (.int .i64 (.var 3)), .a (.int .i64 (.var 4))])]
theorem pair43 : pairM Tryz.prog (S0 n at_ lo hi) shp0 KF 3000 (2^240) 30 36 pat43 = true := by kernel_rfl
def pat44 : List LV := [.v (.agg [.a (.int .i64 (.var 1)), .a (.int .i64 (.var 2))]), .v (.agg [.a (.int .i64 (.var 3)), .a (.int .i64 (.var 4))])]
theorem pair44 : pairM Tryz.prog (S0 n at_ lo hi) shp0 KF 3000 (2^240) 23 26 pat44 = true := by kernel_rfl
def pat46 : List LV := [.v (.agg [.a (.int .i64 (.var 1)), .a (.int .i64 (.var 2))])]
theorem pair46 : pairM Tryz.prog (S0 n at_ lo hi) shp0 KF 3000 (2^240) 32 38 pat46 = true := by kernel_rfl
def pat48 : List LV := [.v (.s (.a (.fsl 0))), .v (.agg [.a (.int .i64 (.var 2)), .a (.int .i64 (.var 3))])]
theorem pair48 : pairM Tryz.prog (S0 n at_ lo hi) shp0 KF 3000 (2^240) 31 37 pat48 = true := by kernel_rfl
def e_stP : E := (.ite (.cmp .eql (.var 163942006097017662976) (.lit 0)) (.ite (.cmp .eql (.var 221311408401022837216) (.lit 0)) (.ite (.cmp .eql (.var 148444031516666876704) (.lit 0)) (.ite (.cmp .eql (.var 149363630927149122624) (.lit 0)) (.ite (.cmp .eql (.var 150283230337631368544) (.lit 0)) (.ite (.cmp .eql (.var 151202829748113614464) (.lit 0)) (.ite (.cmp .eql (.var 152122429158595860384) (.lit 0)) (.ite (.cmp .eql (.var 153042028569078106304) (.lit 0)) (.ite (.cmp .lss (.lit 0) (.var 13)) (.lit 0) (.lit 2)) (.lit 2)) (.lit 2)) (.lit 2)) (.lit 2)) (.lit 2)) (.lit 2)) (.lit 2)) (.lit 2))
theorem e_stP_is : intE (rd Tryz.prog KF 3000 (2^240) 40 pat32 []).1 = e_stP := eq_of_beq (by kernel_rfl)
def e_stQ : E := (.ite (.cmp .lss (.var 0) (.lit (-9223372036854775807))) (.lit 2) (.ite (.cmp .eql (.var 221311408401022837216) (.lit 0)) (.ite (.cmp .eql (.var 148444031516666876704) (.lit 0)) (.ite (.cmp .eql (.var 149363630927149122624) (.lit 0)) (.ite (.cmp .eql (.var 150283230337631368544) (.lit 0)) (.ite (.cmp .eql (.var 151202829748113614464) (.lit 0)) (.ite (.cmp .eql (.var 152122429158595860384) (.lit 0)) (.ite (.cmp .eql (.var 153042028569078106304) (.lit 0)) (.ite (.cmp .lss (.var 13) (.lit 1)) (.lit 2) (.lit 0)) (.lit 2)) (.lit 2)) (.lit 2)) (.lit 2)) (.lit 2)) (.lit 2)) (.lit 2)))
theorem e_stQ_is : intE (rd Tryz.prog KF 3000 (2^240) 43 pat32 []).1 = e_stQ := eq_of_beq (by kernel_rfl)
theorem heq32 (ε : Env) (hR : ∀ i, R64 (ε.i i)) (hs : ∀ ob ∈ (rd Tryz.prog KF 3000 (2^240) 40 pat32 []).2.2 ++ (rd Tryz.prog KF 3000 (2^240) 43 pat32 []).2.2, ob.sat (S0 n at_ lo hi) ε) : ((intE (rd Tryz.prog KF 3000 (2^240) 43 pat32 []).1).den ε).1 = ((intE (rd Tryz.prog KF 3000 (2^240) 40 pat32 []).1).den ε).1 := by
 rw [e_stQ_is, e_stP_is]
 obtain ⟨m, c⟩ := sat_call (S := S0 n at_ lo hi) (fun ob hb => hs ob (List.mem_append_left _ hb)) (s := 9) (base := 163942006097017662976) (args := [.v (.agg [.a (.int .i64 (.var 0)), .a (.int .i64 (.var 0))])]) (by kernel_rfl)
 have c0 : ε.i 163942006097017662976 = if vB (ε.i 0) (ε.i 0) then 0 else 2 := c 0 (by omega)
 have r0 := hR 0
 have r1 := hR 1
 unfold R64 at r0 r1
 clear c
 simp only [e_stP, e_stQ, E.den, co_lss, co_eql]
 generalize ε.i 0 = x0 at *
 generalize ε.i 13 = x1 at *
 generalize ε.i 148444031516666876704 = x2 at *
 generalize ε.i 149363630927149122624 = x3 at *
 generalize ε.i 150283230337631368544 = x4 at *
 generalize ε.i 151202829748113614464 = x5 at *
 generalize ε.i 152122429158595860384 = x6 at *
 generalize ε.i 153042028569078106304 = x7 at *
 generalize ε.i 163942006097017662976 = x8 at *
 generalize ε.i 221311408401022837216 = x9 at *
 clear hs hR
 have hv : vB x0 x0 = decide (-9223372036854775807 ≤ x0) := by unfold vB; grind
 rw [hv] at c0
 grind
def e_tuP : E := (.ite (.cmp .eql (.var 183958120548362611040) (.lit 0)) (.ite (.cmp .eql (.var 184877719958844856960) (.lit 0)) (.ite (.cmp .eql (.var 185797319369327102880) (.lit 0)) (.ite (.cmp .eql (.var 186716918779809348800) (.lit 0)) (.ite (.cmp .eql (.var 187636518190291594720) (.lit 0)) (.ite (.cmp .eql (.var 188556117600773840640) (.lit 0)) (.ite (.cmp .eql (.var 189475717011256086560) (.lit 0)) (.ite (.cmp .eql (.var 190395316421738332480) (.lit 0)) (.ite (.cmp .lss (.lit 0) (.var 14)) (.lit 0) (.lit 2)) (.lit 2)) (.lit 2)) (.lit 2)) (.lit 2)) (.lit 2)) (.lit 2)) (.lit 2)) (.lit 2))
theorem e_tuP_is : intE (rd Tryz.prog KF 3000 (2^240) 28 pat34 []).1 = e_tuP := eq_of_beq (by kernel_rfl)
def e_tuQ : E := (.ite (.cmp .lss (.var 0) (.lit (-9223372036854775807))) (.lit 2) (.ite (.cmp .lss (.var 1) (.lit (-9223372036854775807))) (.lit 2) (.ite (.cmp .lss (.var 1) (.var 0)) (.lit 2) (.ite (.cmp .eql (.var 184877719958844856960) (.lit 0)) (.ite (.cmp .eql (.var 185797319369327102880) (.lit 0)) (.ite (.cmp .eql (.var 186716918779809348800) (.lit 0)) (.ite (.cmp .eql (.var 187636518190291594720) (.lit 0)) (.ite (.cmp .eql (.var 188556117600773840640) (.lit 0)) (.ite (.cmp .eql (.var 189475717011256086560) (.lit 0)) (.ite (.cmp .eql (.var 190395316421738332480) (.lit 0)) (.ite (.cmp .lss (.var 14) (.lit 1)) (.lit 2) (.lit 0)) (.lit 2)) (.lit 2)) (.lit 2)) (.lit 2)) (.lit 2)) (.lit 2)) (.lit 2)))))
theorem e_tuQ_is : intE (rd Tryz.prog KF 3000 (2^240) 34 pat34 []).1 = e_tuQ := eq_of_beq (by kernel_rfl)
theorem heq34 (ε : Env) (hR : ∀ i, R64 (ε.i i)) (hs : ∀ ob ∈ (rd Tryz.prog KF 3000 (2^240) 28 pat34 []).2.2 ++ (rd Tryz.prog KF 3000 (2^240) 34 pat34 []).2.2, ob.sat (S0 n at_ lo hi) ε) : ((intE (rd Tryz.prog KF 3000 (2^240) 34 pat34 []).1).den ε).1 = ((intE (rd Tryz.prog KF 3000 (2^240) 28 pat34 []).1).den ε).1 := by
 rw [e_tuQ_is, e_tuP_is]
 obtain ⟨m, c⟩ := sat_call (S := S0 n at_ lo hi) (fun ob hb => hs ob (List.mem_append_left _ hb)) (s := 9) (base := 183958120548362611040) (args := [.v (.agg [.a (.int .i64 (.var 0)), .a (.int .i64 (.var 1))])]) (by kernel_rfl)
 have c0 : ε.i 183958120548362611040 = if vB (ε.i 0) (ε.i 1) then 0 else 2 := c 0 (by omega)
 have r0 := hR 0
 have r1 := hR 1
 unfold R64 at r0 r1
 clear c
 simp only [e_tuP, e_tuQ, E.den, co_lss, co_eql]
 generalize ε.i 0 = x0 at *
 generalize ε.i 1 = x1 at *
 generalize ε.i 14 = x2 at *
 generalize ε.i 183958120548362611040 = x3 at *
 generalize ε.i 184877719958844856960 = x4 at *
 generalize ε.i 185797319369327102880 = x5 at *
 generalize ε.i 186716918779809348800 = x6 at *
 generalize ε.i 187636518190291594720 = x7 at *
 generalize ε.i 188556117600773840640 = x8 at *
 generalize ε.i 189475717011256086560 = x9 at *
 generalize ε.i 190395316421738332480 = x10 at *
 clear hs hR
 unfold vB at c0
 grind
end
def nmShape (args : List LV) (mem : List (Nat × Cells)) : Bool := match args, mem with
 | [.v (.s (.a (.sl b 0 3 3)))], [(b', [some (.a (.int .i64 e0)), some (.a (.int .i64 e1)), some (.a (.int .i64 e2)), some (.a (.int .i64 e3)), some (.a (.int .i64 e4)), some (.a (.int .i64 e5))])] => b == b' && rngE e0 && rngE e1 && rngE e2 && rngE e3 && rngE e4 && rngE e5
 | _, _ => false
theorem nmV_R64 (L : List Int) (k : Nat) : R64 (nmV L k) := by
 have h2 : R64 2 := by unfold R64; omega
 unfold nmV
 split
 ·split
  ·split
   ·exact v0_R64 _ _ _
   ·split
    ·exact v0_R64 _ _ _
    ·exact R64_0
  ·split
   ·exact foldL2 L
   ·exact R64_0
 ·split
  ·exact h2
  ·exact R64_0
theorem nmV_zero (L : List Int) (h : nmV L 2 ≠ 0) : nmV L 0 = 0 ∧ nmV L 1 = 0 := by
 unfold nmV at *
 split
 ·rename_i h1
  rw [if_pos h1] at h
  split
  ·rename_i h2
   rw [if_pos h2] at h
   split
   ·rename_i h3
    rw [if_pos h3] at h
    exact absurd h3 h
   ·exact ⟨rfl, rfl⟩
  ·exact ⟨rfl, rfl⟩
 ·exact ⟨rfl, rfl⟩
theorem nm_ok {S : Sig} {q : FuncId} (hs : S.sym q = some (16, 1)) (hval : ∀ L k, S.val 16 L k = nmV L k) {fn : Func} (hfn : Tryz.prog.funcs[q]? = some fn)
  (hres : ∀ base, ∃ m, nameRes Tryz.prog fn base = some (.tup [.agg [.a (.int .i64 (.var base)), .a (.int .i64 (.var (base + 1)))], .s (.a (.int .i64 (.var (base + 2))))], m))
  (hrd : ∀ {L : List Int}, (∀ x ∈ L, R64 x) → ∀ w : World, ∃ ε : Env, (∀ v, v < top → ε.i v = L.getD v 0) ∧ ∃ r, Ob.ok Tryz.prog ε w (.call (.blit true) q patN memN r []) ∧ ∀ ρ, r.den ε ρ = .tuple #[.agg #[.int .i64 (nmV L 0), .int .i64 (nmV L 1)], .int .i64 (nmV L 2)])
  {ε : Env} (hε : ∀ i, R64 (ε.i i)) {w : World} {args : List LV} {mem : List (Nat × Cells)} {res : LV} {upd : List (Nat × Cells)} (h : nmShape args mem = true)
  (hstd : stdRes Tryz.prog S.sym q args mem = some (res, upd)) (hsat : Ob.sat S ε (.call (.blit true) q args mem res upd)) : Ob.ok Tryz.prog ε w (.call (.blit true) q args mem res upd) := by
 unfold nmShape at h
 split at h
 case h_2 => cases h
 rename_i b b' e0 e1 e2 e3 e4 e5
 simp only [Bool.and_eq_true, beq_iff_eq] at h
 obtain ⟨⟨⟨⟨⟨⟨rfl, r0⟩, r1⟩, r2⟩, r3⟩, r4⟩, r5⟩ := h
 obtain ⟨cs, hcs⟩ : ∃ cs : Cells, [some (SV.a (.int .i64 e0)), some (.a (.int .i64 e1)), some (.a (.int .i64 e2)), some (.a (.int .i64 e3)), some (.a (.int .i64 e4)), some (.a (.int .i64 e5))] = cs := ⟨_, rfl⟩
 rw [hcs] at hstd hsat ⊢
 obtain ⟨base, hbase⟩ : ∃ base, callBase 16 [.v (.s (.a (.sl b 0 3 3)))] [(b, cs)] = base := ⟨_, rfl⟩
 have hres' : res = .tup [zeroLess1 (.var (base + 2)) (.agg [.a (.int .i64 (.var base)), .a (.int .i64 (.var (base + 1)))]), .s (.a (.int .i64 (.var (base + 2))))] ∧ upd = [] := by
  unfold stdRes at hstd
  rw [hs, hfn] at hstd
  obtain ⟨m, hm⟩ := hres base
  simp [stdVal, hbase, hm, zeroLess1, zeroLess, mkIte] at hstd
  simp [zeroLess1, zeroLess, hstd]
 obtain ⟨rfl, rfl⟩ := hres'
 have hcn : callNo S q [.v (.s (.a (.sl b 0 3 3)))] [(b, cs)] = some (base / 32, 16, [.v (.s (.a (.sl b 0 3 3)))]) := by
  unfold callNo
  rw [hs, ← hbase]
  rfl
 have hb32 : base / 32 * 32 = base := by rw [← hbase]; exact base32 _ _ _
 have hv := fun k hk => (hsat _ _ _ hcn k hk).1
 rw [hb32] at hv
 obtain ⟨L, hLd⟩ : ∃ L, [(e0.den ε).1, (e1.den ε).1, (e2.den ε).1, (e3.den ε).1, (e4.den ε).1, (e5.den ε).1] = L := ⟨_, rfl⟩
 have hLL : [LV.v (.s (.a (.sl b 0 3 3)))].flatMap (argInts ε [(b, cs)]) = L := by
  rw [← hLd, ← hcs]
  simp [argInts, List.lookup, cellsInts, SV.ints]
 simp only [hLL, hval] at hv
 have v0 : ε.i base = nmV L 0 := hv 0 (by omega)
 have v1 : ε.i (base + 1) = nmV L 1 := hv 1 (by omega)
 have v2 : ε.i (base + 2) = nmV L 2 := hv 2 (by omega)
 have hL : ∀ x ∈ L, R64 x := by
  rw [← hLd]
  intro x hx
  simp only [List.mem_cons, List.not_mem_nil, or_false] at hx
  rcases hx with rfl | rfl | rfl | rfl | rfl | rfl
  ·exact rngE_spec hε r0
  ·exact rngE_spec hε r1
  ·exact rngE_spec hε r2
  ·exact rngE_spec hε r3
  ·exact rngE_spec hε r4
  ·exact rngE_spec hε r5
 obtain ⟨ε', h0, r, hok, hr⟩ := hrd hL w
 intro _ w2 ρ hw2 hblk hinj
 obtain ⟨b1, b2, b3⟩ := hblk b cs (by simp [List.lookup])
 have hB : ∀ (c : Nat) ds, memN.lookup c = some ds → Blk ε' (fun _ => ρ b) w.heap.size w2 c ds := fun c ds hc => by
  unfold memN at hc
  simp only [List.lookup] at hc
  split at hc
  ·cases hc
   refine ⟨b1, b2, fun j c hj => ?_⟩
   have key : ∀ e : E, cs[j]? = some (some (.a (.int .i64 e))) → c = some (.a (.int .i64 (.var j))) → ε'.i j = (e.den ε).1 → ∃ v, w2.cell? ⟨ρ b, j, none⟩ = some v ∧ w2.frozen? ⟨ρ b, j, none⟩ = false ∧ ∀ s, c = some s → v = s.den ε' (fun _ => ρ b) := by
    intro e he hc hi
    obtain ⟨v, q1, q2, q3⟩ := b3 j _ he
    refine ⟨v, q1, q2, fun s hs => ?_⟩
    rw [hc] at hs
    cases hs
    rw [q3 _ rfl]
    simp only [SV.den, AV.den, E.den, hi]
   unfold cells6 at hj
   rw [← hcs] at key
   rw [← hLd] at h0
   rcases j with _ | _ | _ | _ | _ | _ | j
   ·exact key e0 rfl (by simpa using hj.symm) (h0 0 (by decide))
   ·exact key e1 rfl (by simpa using hj.symm) (h0 1 (by decide))
   ·exact key e2 rfl (by simpa using hj.symm) (h0 2 (by decide))
   ·exact key e3 rfl (by simpa using hj.symm) (h0 3 (by decide))
   ·exact key e4 rfl (by simpa using hj.symm) (h0 4 (by decide))
   ·exact key e5 rfl (by simpa using hj.symm) (h0 5 (by decide))
   ·simp at hj
  ·cases hc
 have run := hok rfl w2 (fun _ => ρ b) hw2 hB (fun c1 c2 h1 h2 _ => by
  have z : ∀ c, (memN.lookup c).isSome = true → c = 0 := fun c hc => by
   unfold memN at hc
   simp only [List.lookup] at hc
   split at hc
   ·rename_i hh; simpa using hh
   ·cases hc
  rw [z c1 h1, z c2 h2])
 refine Calls.mono run fun e w' ⟨q1, _, q3⟩ => ⟨?_, by simp, Ext.mono q3 (by simp)⟩
 have q4 := q1.trans (congrArg Ending.returned (hr _))
 rw [q4]
 refine congrArg Ending.returned ?_
 show _ = Value.tuple #[.agg #[.int .i64 ((mkIte (mkEq 200 (.var (base + 2)) (.lit 0)) (.var base) (.lit 0)).den ε).1, .int .i64 ((mkIte (mkEq 200 (.var (base + 2)) (.lit 0)) (.var (base + 1)) (.lit 0)).den ε).1], .int .i64 (ε.i (base + 2))]
 have hz := nmV_zero L
 clear q1 q4 run hok hr h0 hv hsat hstd
 simp only [mkIte_den, mkEq_den, E.den, v0, v1, v2, beq_iff_eq]
 generalize nmV L 0 = y0 at *
 generalize nmV L 1 = y1 at *
 generalize nmV L 2 = y2 at *
 by_cases h : y2 = 0
 ·simp only [h, if_true]
 ·obtain ⟨k0, k1⟩ := hz h
  simp only [h, if_false, k0, k1]
theorem whole2 : readB Tryz.prog S00 shp0 KF 3000 (2^240) 39 [.v (.s (.a (.int .i64 (.lit 2))))] [] = true := by kernel_rfl
theorem whole2_lit : (rd Tryz.prog KF 3000 (2^240) 39 [.v (.s (.a (.int .i64 (.lit 2))))] []).1 = .v (.agg [.a (.int .i64 (.lit 8589934592)), .a (.int .i64 (.lit 8589934592))]) := eq_of_beq (by kernel_rfl)
end SX
end
end Go.Proofs.YtcjlpgmhlghdkaaGreat
