/- Packed: RsN RsO RsP RsL. -/
import Derived.KernelRfl
import Derived.Test.YtdoigcpcponnhaaP5
import Derived.Test.YtdoigcpcponnhaaP6
import Derived.Test.YtdoigcpcponnhaaP16
import Derived.Test.YtdoigcpcponnhaaP17
set_option linter.unusedVariables false
set_option linter.unusedSimpArgs false
section
set_option maxRecDepth 1000000
namespace Go.Proofs.Ytdoigcpcponnhaa
open Go.RowKit
namespace SX
def z0 : Nat → Int := fun _ => 0
noncomputable def S00 : Sig := S0
theorem con00 (w : World) : Con Try.prog S00 shp0 T0 w := con0 w T0
noncomputable def v0 (s : Nat) (L : List Int) (k : Nat) : Int := val0 s L k
theorem v0_R64 (s : Nat) (L : List Int) (k : Nat) : R64 (v0 s L k) := val0_R64 _ _ _
noncomputable def stepV (s x : FD.Sp) : FD.Sp × Int :=
 if v0 6 [x.lo, x.hi] 2 = 0 then
  if v0 1 [s.lo, s.hi, v0 6 [x.lo, x.hi] 0, v0 6 [x.lo, x.hi] 1] 2 = 0 then (⟨v0 1 [s.lo, s.hi, v0 6 [x.lo, x.hi] 0, v0 6 [x.lo, x.hi] 1] 0, v0 1 [s.lo, s.hi, v0 6 [x.lo, x.hi] 0, v0 6 [x.lo, x.hi] 1] 1, v0_R64 _ _ _, v0_R64 _ _ _⟩, 0)
  else (.zero, v0 1 [s.lo, s.hi, v0 6 [x.lo, x.hi] 0, v0 6 [x.lo, x.hi] 1] 2)
 else (.zero, v0 6 [x.lo, x.hi] 2)
def patSt : List LV := [.v (.agg [.a (.int .i64 (.var 0)), .a (.int .i64 (.var 1))]), .v (.agg [.a (.int .i64 (.var 2)), .a (.int .i64 (.var 3))])]
theorem stepB : readB Try.prog S00 shp0 KF 3000 (2^240) 57 patSt [] = true := by kernel_rfl
def litSt : LV := LV.tup [V1.agg [SV.a (AV.int (Go.IntKind.i64) (E.ite (E.cmp (CO.eql) (E.var 203744195537112007842) (E.lit 0)) (E.ite (E.cmp (CO.eql) (E.var 184909600397546296930) (E.lit 0)) (E.var 184909600397546296928) (E.lit 0)) (E.lit 0))), SV.a (AV.int (Go.IntKind.i64) (E.ite (E.cmp (CO.eql) (E.var 203744195537112007842) (E.lit 0)) (E.ite (E.cmp (CO.eql) (E.var 184909600397546296930) (E.lit 0)) (E.var 184909600397546296929) (E.lit 0)) (E.lit 0)))], V1.s (SV.a (AV.int (Go.IntKind.i64) (E.ite (E.cmp (CO.eql) (E.var 203744195537112007842) (E.lit 0)) (E.var 184909600397546296930) (E.var 203744195537112007842))))]
theorem step_lit : (rd Try.prog KF 3000 (2^240) 57 patSt []).1 = litSt := eq_of_beq (by kernel_rfl)
theorem step_in (s x : FD.Sp) (W : World) : Calls Try.prog 57 #[FD.spv s, FD.spv x] W fun e W' => e = .returned (.tuple #[FD.spv (stepV s x).1, .int .i64 (stepV s x).2]) ∧ Below W.heap.size W W' := by
 obtain ⟨ε, h0, -, -, -, hR, hs, hok⟩ := read_ob hmix (by decide) stepB (fun s L k => val0_R64 s L k) T0 (w := W) (L := [s.lo, s.hi, x.lo, x.hi]) (by
   intro y hy
   simp only [List.mem_cons, List.not_mem_nil, or_false] at hy
   rcases hy with rfl | rfl | rfl | rfl
   ·exact s.ok.1
   ·exact s.ok.2
   ·exact x.ok.1
   ·exact x.ok.2) (fun ε _ e1 e2 e3 e4 f args mem res upd k1 k2 k3 k4 => con00 W ε e1 e2 e3 e4 W (Below.refl _ _) f args mem res upd k1 k2 k3 k4)
 have i0 : ε.i 0 = s.lo := h0 0 (by decide)
 have i1 : ε.i 1 = s.hi := h0 1 (by decide)
 have i2 : ε.i 2 = x.lo := h0 2 (by decide)
 have i3 : ε.i 3 = x.hi := h0 3 (by decide)
 have run := hok rfl W (fun _ => 0) (Below.refl _ _) (by simp) (by simp)
 rw [step_lit] at run
 obtain ⟨m0, c0⟩ := sat_call hs (s := 6) (base := 203744195537112007840) (args := [LV.v (V1.agg [SV.a (AV.int (Go.IntKind.i64) (E.var 2)), SV.a (AV.int (Go.IntKind.i64) (E.var 3))])]) (by kernel_rfl)
 have c0_0 : ε.i 203744195537112007840 = _ := c0 0 (by omega)
 have c0_1 : ε.i 203744195537112007841 = _ := c0 1 (by omega)
 have c0_2 : ε.i 203744195537112007842 = _ := c0 2 (by omega)
 clear c0
 obtain ⟨m1, c1⟩ := sat_call hs (s := 1) (base := 184909600397546296928) (args := [LV.v (V1.agg [SV.a (AV.int (Go.IntKind.i64) (E.var 0)), SV.a (AV.int (Go.IntKind.i64) (E.var 1))]), LV.v (V1.agg [SV.a (AV.int (Go.IntKind.i64) (E.ite (E.cmp (CO.eql) (E.var 203744195537112007842) (E.lit 0)) (E.var 203744195537112007840) (E.lit 0))), SV.a (AV.int (Go.IntKind.i64) (E.ite (E.cmp (CO.eql) (E.var 203744195537112007842) (E.lit 0)) (E.var 203744195537112007841) (E.lit 0)))])]) (by kernel_rfl)
 have c1_0 : ε.i 184909600397546296928 = _ := c1 0 (by omega)
 have c1_1 : ε.i 184909600397546296929 = _ := c1 1 (by omega)
 have c1_2 : ε.i 184909600397546296930 = _ := c1 2 (by omega)
 clear c1
 have ea : (patSt.map (LV.den ε fun _ => 0)).toArray = #[FD.spv s, FD.spv x] := by
  show #[Value.agg #[.int .i64 (ε.i 0), .int .i64 (ε.i 1)], Value.agg #[.int .i64 (ε.i 2), .int .i64 (ε.i 3)]] = _
  rw [i0, i1, i2, i3]
  try rfl
 rw [ea] at run
 refine run.mono fun e w' ⟨q1, _, q3⟩ => ⟨q1.trans ?_, ⟨q3.os, q3.tape, q3.output, q3.size, fun k hk => q3.block k hk (by simp)⟩⟩
 clear run hok q1 q3
 simp only [List.flatMap_cons, List.flatMap_nil, argInts, V1.cells, SV.ints, E.den, List.append_nil, List.singleton_append, List.cons_append, List.nil_append, i0, i1, i2, i3] at c0_0 c0_1 c0_2 c1_0 c1_1 c1_2
 congr 1
 simp only [litSt, LV.den, V1.den, SV.den, AV.den, E.den, CO.den, List.map_cons, List.map_nil]
 have V : ∀ s L k, S00.val s L k = v0 s L k := fun _ _ _ => rfl
 simp only [CO.den, beq_iff_eq, V] at c0_0 c0_1 c0_2 c1_0 c1_1 c1_2 ⊢
 simp only [c0_0, c0_1, c0_2] at c1_0 c1_1 c1_2
 by_cases h2 : v0 6 [x.lo, x.hi] 2 = 0
 ·simp only [h2, if_true] at c1_0 c1_1 c1_2
  by_cases h3 : v0 1 [s.lo, s.hi, v0 6 [x.lo, x.hi] 0, v0 6 [x.lo, x.hi] 1] 2 = 0
  ·simp [stepV, h2, h3, c0_0, c0_1, c0_2, c1_0, c1_1, c1_2, FD.spv]
  ·simp [stepV, h2, h3, c0_0, c0_1, c0_2, c1_0, c1_1, c1_2, FD.spv, FD.Sp.zero]
 ·simp [stepV, h2, c0_0, c0_1, c0_2, FD.spv, FD.Sp.zero]
theorem foldS_zero (f : FD.Sp → FD.Sp → FD.Sp × Int) : ∀ (l : List FD.Sp) (s : FD.Sp), (FD.foldS f s l).2 ≠ 0 → (FD.foldS f s l).1 = .zero
 | [], s, h => absurd rfl h
 | x :: xs, s, h => by
  simp only [FD.foldS] at h ⊢
  split
  ·rename_i h0
   rw [if_pos h0] at h
   exact foldS_zero f xs _ h
  ·rfl
def spL (L : List Int) (i : Nat) : FD.Sp := ⟨clampI (L.getD (i * 2) 0), clampI (L.getD (i * 2 + 1) 0), clampI_R64 _, clampI_R64 _⟩
noncomputable def foldL (L : List Int) : FD.Sp × Int := FD.foldS stepV .zero [spL L 0, spL L 1, spL L 2]
def syN : List (Nat × Nat × Nat) := (55, 70, 1) :: sy
noncomputable def KN : Cfg := ⟨fun f => !(syN.any fun x => x.1 == f), fun f => ct.contains f, stdRes Try.prog (fun f => syN.lookup f), fun _ _ => none⟩
noncomputable def SN (L : List Int) : Sig := ⟨fun f => syN.lookup f, fun s l k => if s = 70 then sp3 (foldL L).1.lo (foldL L).1.hi (foldL L).2 k else v0 s l k⟩
def cells6 : Cells := [some (.a (.int .i64 (.var 0))), some (.a (.int .i64 (.var 1))), some (.a (.int .i64 (.var 2))), some (.a (.int .i64 (.var 3))), some (.a (.int .i64 (.var 4))), some (.a (.int .i64 (.var 5)))]
def foldShape (args : List LV) (mem : List (Nat × Cells)) : Bool := match args, mem with
 | [.v (.s (.fn g [] [.ptr B 0])), .v (.agg [.a (.int .i64 a), .a (.int .i64 b)]), .v (.s (.fn h [] []))], [(0, c), (B', [some (.a (.sl 0 0 3 3))])] => g == 70 && h == 57 && B == B' && !(B == 0) && c == cells6 && a == .lit 0 && b == .lit 0
 | _, _ => false
def shpN (f : FuncId) (args : List LV) (mem : List (Nat × Cells)) : Bool := if f == 55 then foldShape args mem else shp0 f args mem
theorem sat_of {S' S : Sig} {f : FuncId} (hsym : S'.sym f = S.sym f) (hval : ∀ s z, S.sym f = some (s, z) → ∀ L k, S'.val s L k = S.val s L k) {ε : Env} {pc : E} {args : List LV} {mem : List (Nat × Cells)} {res : LV} {upd : List (Nat × Cells)} (h : Ob.sat S' ε (.call pc f args mem res upd)) : Ob.sat S ε (.call pc f args mem res upd) := by
 intro base s l hc j hj
 have hc' : callNo S' f args mem = some (base, s, l) := by rw [← hc]; unfold callNo; rw [hsym]
 have := h base s l hc' j hj
 have hz : ∃ z, S.sym f = some (s, z) := by
  unfold callNo at hc
  split at hc
  ·rename_i s' z hs
   simp only [Option.some.injEq, Prod.mk.injEq] at hc
   exact ⟨z, by rw [hs, hc.2.1]⟩
  ·cases hc
 obtain ⟨z, hz⟩ := hz
 rwa [hval s z hz] at this
theorem std_of {S' S : Sig} {f : FuncId} (hsym : S'.sym f = S.sym f) (args : List LV) (mem : List (Nat × Cells)) : stdRes Try.prog S'.sym f args mem = stdRes Try.prog S.sym f args mem := by
 unfold stdRes; rw [hsym]
theorem sy_no70 {f s z : Nat} (h : sy.lookup f = some (s, z)) : s ≠ 70 := by
 have := List.all_eq_true.1 (show sy.all (fun x => x.2.1 != 70) = true by kernel_rfl) _ (lookup_mem h)
 simpa using this
theorem fold_ok {L : List Int} (hL : ∀ x ∈ L, R64 x) {ε : Env} (hi : ∀ v, v < top → ε.i v = L.getD v 0) {w : World} {args : List LV} {mem : List (Nat × Cells)} {res : LV} {upd : List (Nat × Cells)} (h : foldShape args mem = true)
  (hstd : stdRes Try.prog (SN L).sym 55 args mem = some (res, upd)) (hsat : Ob.sat (SN L) ε (.call (.blit true) 55 args mem res upd)) : Ob.ok Try.prog ε w (.call (.blit true) 55 args mem res upd) := by
 unfold foldShape at h
 split at h
 case h_2 => cases h
 rename_i g B a b hh c B'
 simp only [Bool.and_eq_true, beq_iff_eq, Bool.not_eq_true', beq_eq_false_iff_ne] at h
 obtain ⟨⟨⟨⟨⟨⟨rfl, rfl⟩, rfl⟩, hB⟩, rfl⟩, rfl⟩, rfl⟩ := h
 obtain ⟨base, hbase⟩ : ∃ base, callBase 70 [.v (.s (.fn 70 [] [.ptr B 0])), .v (.agg [.a (.int .i64 (.lit 0)), .a (.int .i64 (.lit 0))]), .v (.s (.fn 57 [] []))] [(0, cells6), (B, [some (.a (.sl 0 0 3 3))])] = base := ⟨_, rfl⟩
 have hs : (SN L).sym 55 = some (70, 1) := rfl
 have hres' : res = .tup [zeroLess1 (.var (base + 2)) (.agg [.a (.int .i64 (.var base)), .a (.int .i64 (.var (base + 1)))]), .s (.a (.int .i64 (.var (base + 2))))] ∧ upd = [] := by
  unfold stdRes at hstd
  rw [hs, Try.func55] at hstd
  have hm : ∃ m, nameRes Try.prog Try.f55 base = some (.tup [.agg [.a (.int .i64 (.var base)), .a (.int .i64 (.var (base + 1)))], .s (.a (.int .i64 (.var (base + 2))))], m) := ⟨base + 3, by kernel_rfl⟩
  obtain ⟨m, hm⟩ := hm
  simp [stdVal, hbase, hm, zeroLess1, zeroLess, mkIte] at hstd
  simp [zeroLess1, zeroLess, hstd]
 obtain ⟨rfl, rfl⟩ := hres'
 have hcn : callNo (SN L) 55 [.v (.s (.fn 70 [] [.ptr B 0])), .v (.agg [.a (.int .i64 (.lit 0)), .a (.int .i64 (.lit 0))]), .v (.s (.fn 57 [] []))] [(0, cells6), (B, [some (.a (.sl 0 0 3 3))])] = some (base / 32, 70, [.v (.s (.fn 70 [] [.ptr B 0])), .v (.agg [.a (.int .i64 (.lit 0)), .a (.int .i64 (.lit 0))]), .v (.s (.fn 57 [] []))]) := by
  unfold callNo
  rw [hs, ← hbase]
  rfl
 have hb32 : base / 32 * 32 = base := by rw [← hbase]; exact base32 _ _ _
 have hv := fun k hk => (hsat _ _ _ hcn k hk).1
 rw [hb32] at hv
 have v0 : ε.i base = (foldL L).1.lo := hv 0 (by omega)
 have v1 : ε.i (base + 1) = (foldL L).1.hi := hv 1 (by omega)
 have v2 : ε.i (base + 2) = (foldL L).2 := hv 2 (by omega)
 intro _ w2 ρ hw2 hblk hinj
 obtain ⟨_, b2, b3⟩ := hblk 0 cells6 (by simp [List.lookup])
 obtain ⟨_, d2, d3⟩ := hblk B [some (.a (.sl 0 0 3 3))] (by
  have : (B == 0) = false := by simpa using hB
  simp [List.lookup, this])
 have cl : ∀ j, j < 6 → w2.cell? ⟨ρ 0, j, none⟩ = some (.int .i64 (clampI (L.getD j 0))) := fun j hj => by
  have hg : cells6[j]? = some (some (.a (.int .i64 (.var j)))) := by
   unfold cells6
   rcases j with _ | _ | _ | _ | _ | _ | j
   any_goals rfl
   omega
  obtain ⟨v, c1, _, c3⟩ := b3 j _ hg
  rw [c1, c3 _ rfl]
  show some (Value.int .i64 (ε.i j)) = _
  rw [hi j (by unfold top; omega), clampI_eq]
  exact envL_R64 (T := T0) hL j
 obtain ⟨sv, c1, _, c3⟩ := d3 0 _ rfl
 have csv : w2.cell? ⟨ρ B, 0, none⟩ = some (.slice (some ⟨ρ 0, 0, none⟩) 3 3) := by
  rw [c1, c3 _ rfl]; rfl
 refine Calls.mono (FD.fold_any stepV step_in (ρ B) (.slice (some ⟨ρ 0, 0, none⟩) 3 3) 3 (fun j => clampI (L.getD (j * 2) 0)) (fun j => clampI (L.getD (j * 2 + 1) 0)) (fun j => ⟨clampI_R64 _, clampI_R64 _⟩) (by omega) .zero w2 d2 csv
  (.inr ⟨ρ 0, 0, 3, rfl, b2, fun j hj => ⟨by rw [Nat.zero_add]; exact cl (j * 2) (by omega), by rw [Nat.zero_add]; exact cl (j * 2 + 1) (by omega)⟩⟩)) fun e w' ⟨q1, q2⟩ => ⟨?_, by simp, Ext.of_below q2 _⟩
 have q3 : e = .returned (.tuple #[FD.spv (foldL L).1, .int .i64 (foldL L).2]) := q1
 have hz : (foldL L).2 ≠ 0 → (foldL L).1 = .zero := foldS_zero _ _ _
 rw [q3]
 clear q1 q3
 refine congrArg Ending.returned ?_
 generalize foldL L = F at v0 v1 v2 hz ⊢
 show Value.tuple #[FD.spv F.1, .int .i64 F.2] = Value.tuple #[.agg #[.int .i64 ((mkIte (mkEq 200 (.var (base + 2)) (.lit 0)) (.var base) (.lit 0)).den ε).1, .int .i64 ((mkIte (mkEq 200 (.var (base + 2)) (.lit 0)) (.var (base + 1)) (.lit 0)).den ε).1], .int .i64 (ε.i (base + 2))]
 simp only [mkIte_den, mkEq_den, E.den, v0, v1, v2, beq_iff_eq]
 by_cases h0 : F.2 = 0
 ·simp only [h0, if_true]
 ·simp only [h0, if_false, hz h0]
  rfl
end SX
end Go.Proofs.Ytdoigcpcponnhaa
end
section
set_option maxRecDepth 1000000
namespace Go.Proofs.Ytdoigcpcponnhaa
open Go.RowKit
namespace SX
noncomputable def nmV (L : List Int) (k : Nat) : Int :=
 if (vB (L.getD 0 0) (L.getD 1 0) && vB (L.getD 2 0) (L.getD 3 0) && vB (L.getD 4 0) (L.getD 5 0)) = true then
  if (foldL L).2 = 0 then (if v0 7 [(foldL L).1.lo, (foldL L).1.hi] 2 = 0 then v0 7 [(foldL L).1.lo, (foldL L).1.hi] k else if k = 2 then v0 7 [(foldL L).1.lo, (foldL L).1.hi] 2 else 0)
  else if k = 2 then (foldL L).2 else 0
 else if k = 2 then 2 else 0
def patN : List LV := [.v (.s (.a (.sl 0 0 3 3)))]
def memN : List (Nat × Cells) := [(0, cells6)]
theorem conN {L : List Int} (hL : ∀ x ∈ L, R64 x) (w : World) (ε : Env) (h0 : ∀ v, v < top → ε.i v = L.getD v 0) (h1 : ε.sa = T0.sa) (h2 : ε.sn = T0.sn) (h3 : ε.sc = T0.sc) (h4 : ∀ i, R64 (ε.i i)) : ∀ f args mem res upd, shpN f args mem = true → stdRes Try.prog (SN L).sym f args mem = some (res, upd) → rngOb (.call (.blit true) f args mem res upd) = true → Ob.sat (SN L) ε (.call (.blit true) f args mem res upd) → Ob.ok Try.prog ε w (.call (.blit true) f args mem res upd) := by
 intro f args mem res upd k1 k2 k3 k4
 unfold shpN at k1
 split at k1
 ·rename_i hf
  have hf := eq_of_beq hf
  subst hf
  exact fold_ok hL h0 k1 k2 k4
 ·rename_i hf
  have hsym : (SN L).sym f = S00.sym f := by
   have hb : (f == 55) = false := by simpa using hf
   show List.lookup f ((55, 70, 1) :: sy) = List.lookup f sy
   rw [List.lookup, hb]
  rw [std_of hsym] at k2
  refine con00 w ε h1 h2 h3 h4 w (Below.refl _ _) f args mem res upd k1 k2 k3 (sat_of hsym (fun s z hs L' k => ?_) k4)
  show (if s = 70 then _ else _) = _
  rw [if_neg (sy_no70 hs)]; rfl
theorem SN_v {L : List Int} {s : Nat} (h : s ≠ 70) (l : List Int) (k : Nat) : (SN L).val s l k = v0 s l k := if_neg h
theorem v0_9 (l : List Int) (k : Nat) : v0 9 l k = if vB (l.getD 0 0) (l.getD 1 0) then 0 else 2 := rfl
theorem stepV2 (s x : FD.Sp) : R64 (stepV s x).2 := by
 unfold stepV
 split
 ·split
  ·exact R64_0
  ·exact v0_R64 1 _ 2
 ·exact v0_R64 6 _ 2
theorem foldS2 : ∀ (l : List FD.Sp) (s : FD.Sp), R64 (FD.foldS stepV s l).2
 | [], s => R64_0
 | x :: xs, s => by
  simp only [FD.foldS]
  split
  ·exact foldS2 xs _
  ·exact stepV2 _ _
theorem foldL2 (L : List Int) : R64 (foldL L).2 := foldS2 _ _
theorem snormB (L : List Int) : readB Try.prog (SN L) shpN KN 3000 (2^240) 47 patN memN = true := by kernel_rfl
def lit_snorm : LV := LV.tup [V1.agg [SV.a (AV.int (Go.IntKind.i64) (E.ite (E.cmp (CO.eql) (E.var 4671117638481768425) (E.lit 0)) (E.ite (E.cmp (CO.eql) (E.var 154519377290769204290) (E.lit 0)) (E.ite (E.cmp (CO.eql) (E.var 185007111686903277506) (E.lit 0)) (E.var 185007111686903277504) (E.lit 0)) (E.lit 0)) (E.lit 0))), SV.a (AV.int (Go.IntKind.i64) (E.ite (E.cmp (CO.eql) (E.var 4671117638481768425) (E.lit 0)) (E.ite (E.cmp (CO.eql) (E.var 154519377290769204290) (E.lit 0)) (E.ite (E.cmp (CO.eql) (E.var 185007111686903277506) (E.lit 0)) (E.var 185007111686903277505) (E.lit 0)) (E.lit 0)) (E.lit 0)))], V1.s (SV.a (AV.int (Go.IntKind.i64) (E.ite (E.cmp (CO.eql) (E.var 4671117638481768425) (E.lit 0)) (E.ite (E.cmp (CO.eql) (E.var 154519377290769204290) (E.lit 0)) (E.var 185007111686903277506) (E.var 154519377290769204290)) (E.var 4671117638481768425))))]
theorem snorm_lit : (rd Try.prog KN 3000 (2^240) 47 patN memN).1 = lit_snorm := eq_of_beq (by kernel_rfl)
theorem snorm_in {L : List Int} (hL : ∀ x ∈ L, R64 x) (w : World) : ∃ ε : Env, (∀ v, v < top → ε.i v = L.getD v 0) ∧ Ob.ok Try.prog ε w (.call (.blit true) 47 patN memN lit_snorm []) ∧ ∀ ρ, lit_snorm.den ε ρ = .tuple #[.agg #[.int .i64 (nmV L 0), .int .i64 (nmV L 1)], .int .i64 (nmV L 2)] := by
 obtain ⟨ε, h0, -, -, -, hR, hs, hok⟩ := read_ob hmix (by decide) (snormB L) (fun s l k => by
   show R64 (if s = 70 then _ else _)
   split
   ·exact sp3_R64 (foldL L).1.ok.1 (foldL L).1.ok.2 (foldL2 L) k
   ·exact v0_R64 _ _ _) T0 (w := w) hL (conN hL w)
 rw [snorm_lit] at hok
 refine ⟨ε, h0, hok, fun ρ => ?_⟩
 clear hok
 obtain ⟨m0, c0⟩ := sat_call hs (s := 9) (base := 183958120548362611040) (args := [LV.v (V1.agg [SV.a (AV.int (Go.IntKind.i64) (E.var 0)), SV.a (AV.int (Go.IntKind.i64) (E.var 1))])]) (by kernel_rfl)
 have c0_0 : ε.i 183958120548362611040 = _ := c0 0 (by omega)
 clear c0
 obtain ⟨m1, c1⟩ := sat_call hs (s := 9) (base := 184877719958844856960) (args := [LV.v (V1.agg [SV.a (AV.int (Go.IntKind.i64) (E.var 2)), SV.a (AV.int (Go.IntKind.i64) (E.var 3))])]) (by kernel_rfl)
 have c1_0 : ε.i 184877719958844856960 = _ := c1 0 (by omega)
 clear c1
 obtain ⟨m2, c2⟩ := sat_call hs (s := 9) (base := 185797319369327102880) (args := [LV.v (V1.agg [SV.a (AV.int (Go.IntKind.i64) (E.var 4)), SV.a (AV.int (Go.IntKind.i64) (E.var 5))])]) (by kernel_rfl)
 have c2_0 : ε.i 185797319369327102880 = _ := c2 0 (by omega)
 clear c2
 obtain ⟨m3, c3⟩ := sat_call hs (s := 70) (base := 154519377290769204288) (args := [LV.v (V1.s (SV.fn 70 [] [AV.ptr 22969011842118996284582867509657940705757290659383046455580880616804057089 0])), LV.v (V1.agg [SV.a (AV.int (Go.IntKind.i64) (E.lit 0)), SV.a (AV.int (Go.IntKind.i64) (E.lit 0))]), LV.v (V1.s (SV.fn 57 [] []))]) (by kernel_rfl)
 have c3_0 : ε.i 154519377290769204288 = _ := c3 0 (by omega)
 have c3_1 : ε.i 154519377290769204289 = _ := c3 1 (by omega)
 have c3_2 : ε.i 154519377290769204290 = _ := c3 2 (by omega)
 clear c3
 obtain ⟨m4, c4⟩ := sat_call hs (s := 7) (base := 185007111686903277504) (args := [LV.v (V1.agg [SV.a (AV.int (Go.IntKind.i64) (E.ite (E.cmp (CO.eql) (E.var 154519377290769204290) (E.lit 0)) (E.var 154519377290769204288) (E.lit 0))), SV.a (AV.int (Go.IntKind.i64) (E.ite (E.cmp (CO.eql) (E.var 154519377290769204290) (E.lit 0)) (E.var 154519377290769204289) (E.lit 0)))])]) (by kernel_rfl)
 have c4_0 : ε.i 185007111686903277504 = _ := c4 0 (by omega)
 have c4_1 : ε.i 185007111686903277505 = _ := c4 1 (by omega)
 have c4_2 : ε.i 185007111686903277506 = _ := c4 2 (by omega)
 clear c4
 have q0 := sat_eq hs (v := 4671117638481768425) (e := (E.ite (E.cmp (CO.eql) (E.var 183958120548362611040) (E.lit 0)) (E.ite (E.cmp (CO.eql) (E.var 184877719958844856960) (E.lit 0)) (E.ite (E.cmp (CO.eql) (E.var 185797319369327102880) (E.lit 0)) (E.lit 0) (E.lit 2)) (E.lit 2)) (E.lit 2))) (by kernel_rfl)
 simp only [List.flatMap_cons, List.flatMap_nil, argInts, V1.cells, SV.ints, E.den, List.append_nil, List.singleton_append, List.cons_append, List.nil_append, CO.den, beq_iff_eq] at c0_0 c1_0 c2_0 c3_0 c3_1 c3_2 c4_0 c4_1 c4_2 q0
 simp only [SN_v (L := L) (s := 9) (by decide), SN_v (L := L) (s := 7) (by decide), SN_v (L := L) (s := 6) (by decide), SN_v (L := L) (s := 1) (by decide), v0_9, List.getD_cons_zero, List.getD_cons_succ] at c0_0 c1_0 c2_0 c3_0 c3_1 c3_2 c4_0 c4_1 c4_2
 have i0 : ε.i 0 = L.getD 0 0 := h0 0 (by decide)
 have i1 : ε.i 1 = L.getD 1 0 := h0 1 (by decide)
 have i2 : ε.i 2 = L.getD 2 0 := h0 2 (by decide)
 have i3 : ε.i 3 = L.getD 3 0 := h0 3 (by decide)
 have i4 : ε.i 4 = L.getD 4 0 := h0 4 (by decide)
 have i5 : ε.i 5 = L.getD 5 0 := h0 5 (by decide)
 clear hs h0
 simp only [i0, i1, i2, i3, i4, i5] at c0_0 c1_0 c2_0 c3_0 c3_1 c3_2 c4_0 c4_1 c4_2
 simp only [lit_snorm, LV.den, V1.den, SV.den, AV.den, E.den, CO.den, beq_iff_eq, List.map_cons, List.map_nil]
 have f0 : ε.i 154519377290769204288 = (foldL L).1.lo := c3_0
 have f1 : ε.i 154519377290769204289 = (foldL L).1.hi := c3_1
 have f2 : ε.i 154519377290769204290 = (foldL L).2 := c3_2
 simp only [f0, f1, f2] at c4_0 c4_1 c4_2
 clear c3_0 c3_1 c3_2
 unfold nmV
 generalize foldL L = F at f0 f1 f2 c4_0 c4_1 c4_2 ⊢
 generalize vB (L.getD 0 0) (L.getD 1 0) = B0 at c0_0 ⊢
 generalize vB (L.getD 2 0) (L.getD 3 0) = B1 at c1_0 ⊢
 generalize vB (L.getD 4 0) (L.getD 5 0) = B2 at c2_0 ⊢
 cases B0
 ·simp [q0, c0_0]
 cases B1
 ·simp [q0, c0_0, c1_0]
 cases B2
 ·simp [q0, c0_0, c1_0, c2_0]
 have q : ε.i 4671117638481768425 = 0 := by simp [q0, c0_0, c1_0, c2_0]
 by_cases hF : F.2 = 0
 ·simp only [hF, if_true] at c4_0 c4_1 c4_2
  by_cases hr : v0 7 [F.1.lo, F.1.hi] 2 = 0
  ·simp [q, f0, f1, f2, hF, hr, c4_0, c4_1, c4_2]
  ·simp [q, f0, f1, f2, hF, hr, c4_0, c4_1, c4_2]
 ·simp [q, f0, f1, f2, hF]
theorem rnormB (L : List Int) : readB Try.prog (SN L) shpN KN 3000 (2^240) 42 patN memN = true := by kernel_rfl
def lit_rnorm : LV := LV.tup [V1.agg [SV.a (AV.int (Go.IntKind.i64) (E.ite (E.cmp (CO.eql) (E.var 4671117638481768425) (E.lit 0)) (E.ite (E.cmp (CO.eql) (E.var 202824596126629761922) (E.lit 0)) (E.ite (E.cmp (CO.eql) (E.var 198421856824324646914) (E.lit 0)) (E.ite (E.cmp (CO.eql) (E.var 203744195537112007842) (E.lit 0)) (E.ite (E.cmp (CO.eql) (E.var 173696645581412367554) (E.lit 0)) (E.ite (E.cmp (CO.eql) (E.var 204663794947594253762) (E.lit 0)) (E.ite (E.cmp (CO.eql) (E.var 209135737179751605410) (E.lit 0)) (E.ite (E.cmp (CO.eql) (E.var 166870315022410895170) (E.lit 0)) (E.var 166870315022410895168) (E.lit 0)) (E.lit 0)) (E.lit 0)) (E.lit 0)) (E.lit 0)) (E.lit 0)) (E.lit 0)) (E.lit 0))), SV.a (AV.int (Go.IntKind.i64) (E.ite (E.cmp (CO.eql) (E.var 4671117638481768425) (E.lit 0)) (E.ite (E.cmp (CO.eql) (E.var 202824596126629761922) (E.lit 0)) (E.ite (E.cmp (CO.eql) (E.var 198421856824324646914) (E.lit 0)) (E.ite (E.cmp (CO.eql) (E.var 203744195537112007842) (E.lit 0)) (E.ite (E.cmp (CO.eql) (E.var 173696645581412367554) (E.lit 0)) (E.ite (E.cmp (CO.eql) (E.var 204663794947594253762) (E.lit 0)) (E.ite (E.cmp (CO.eql) (E.var 209135737179751605410) (E.lit 0)) (E.ite (E.cmp (CO.eql) (E.var 166870315022410895170) (E.lit 0)) (E.var 166870315022410895169) (E.lit 0)) (E.lit 0)) (E.lit 0)) (E.lit 0)) (E.lit 0)) (E.lit 0)) (E.lit 0)) (E.lit 0)))], V1.s (SV.a (AV.int (Go.IntKind.i64) (E.ite (E.cmp (CO.eql) (E.var 4671117638481768425) (E.lit 0)) (E.ite (E.cmp (CO.eql) (E.var 202824596126629761922) (E.lit 0)) (E.ite (E.cmp (CO.eql) (E.var 198421856824324646914) (E.lit 0)) (E.ite (E.cmp (CO.eql) (E.var 203744195537112007842) (E.lit 0)) (E.ite (E.cmp (CO.eql) (E.var 173696645581412367554) (E.lit 0)) (E.ite (E.cmp (CO.eql) (E.var 204663794947594253762) (E.lit 0)) (E.ite (E.cmp (CO.eql) (E.var 209135737179751605410) (E.lit 0)) (E.var 166870315022410895170) (E.var 209135737179751605410)) (E.var 204663794947594253762)) (E.var 173696645581412367554)) (E.var 203744195537112007842)) (E.var 198421856824324646914)) (E.var 202824596126629761922)) (E.var 4671117638481768425))))]
theorem rnorm_lit : (rd Try.prog KN 3000 (2^240) 42 patN memN).1 = lit_rnorm := eq_of_beq (by kernel_rfl)
theorem rnorm_in {L : List Int} (hL : ∀ x ∈ L, R64 x) (w : World) : ∃ ε : Env, (∀ v, v < top → ε.i v = L.getD v 0) ∧ Ob.ok Try.prog ε w (.call (.blit true) 42 patN memN lit_rnorm []) ∧ ∀ ρ, lit_rnorm.den ε ρ = .tuple #[.agg #[.int .i64 (nmV L 0), .int .i64 (nmV L 1)], .int .i64 (nmV L 2)] := by
 obtain ⟨ε, h0, -, -, -, hR, hs, hok⟩ := read_ob hmix (by decide) (rnormB L) (fun s l k => by
   show R64 (if s = 70 then _ else _)
   split
   ·exact sp3_R64 (foldL L).1.ok.1 (foldL L).1.ok.2 (foldL2 L) k
   ·exact v0_R64 _ _ _) T0 (w := w) hL (conN hL w)
 rw [rnorm_lit] at hok
 refine ⟨ε, h0, hok, fun ρ => ?_⟩
 clear hok
 obtain ⟨m0, c0⟩ := sat_call hs (s := 9) (base := 183958120548362611040) (args := [LV.v (V1.agg [SV.a (AV.int (Go.IntKind.i64) (E.var 0)), SV.a (AV.int (Go.IntKind.i64) (E.var 1))])]) (by kernel_rfl)
 have c0_0 : ε.i 183958120548362611040 = _ := c0 0 (by omega)
 clear c0
 obtain ⟨m1, c1⟩ := sat_call hs (s := 9) (base := 184877719958844856960) (args := [LV.v (V1.agg [SV.a (AV.int (Go.IntKind.i64) (E.var 2)), SV.a (AV.int (Go.IntKind.i64) (E.var 3))])]) (by kernel_rfl)
 have c1_0 : ε.i 184877719958844856960 = _ := c1 0 (by omega)
 clear c1
 obtain ⟨m2, c2⟩ := sat_call hs (s := 9) (base := 185797319369327102880) (args := [LV.v (V1.agg [SV.a (AV.int (Go.IntKind.i64) (E.var 4)), SV.a (AV.int (Go.IntKind.i64) (E.var 5))])]) (by kernel_rfl)
 have c2_0 : ε.i 185797319369327102880 = _ := c2 0 (by omega)
 clear c2
 obtain ⟨m3, c3⟩ := sat_call hs (s := 6) (base := 202824596126629761920) (args := [LV.v (V1.agg [SV.a (AV.int (Go.IntKind.i64) (E.var 0)), SV.a (AV.int (Go.IntKind.i64) (E.var 1))])]) (by kernel_rfl)
 have c3_0 : ε.i 202824596126629761920 = _ := c3 0 (by omega)
 have c3_1 : ε.i 202824596126629761921 = _ := c3 1 (by omega)
 have c3_2 : ε.i 202824596126629761922 = _ := c3 2 (by omega)
 clear c3
 obtain ⟨m4, c4⟩ := sat_call hs (s := 1) (base := 198421856824324646912) (args := [LV.v (V1.agg [SV.a (AV.int (Go.IntKind.i64) (E.lit 0)), SV.a (AV.int (Go.IntKind.i64) (E.lit 0))]), LV.v (V1.agg [SV.a (AV.int (Go.IntKind.i64) (E.ite (E.cmp (CO.eql) (E.var 202824596126629761922) (E.lit 0)) (E.var 202824596126629761920) (E.lit 0))), SV.a (AV.int (Go.IntKind.i64) (E.ite (E.cmp (CO.eql) (E.var 202824596126629761922) (E.lit 0)) (E.var 202824596126629761921) (E.lit 0)))])]) (by kernel_rfl)
 have c4_0 : ε.i 198421856824324646912 = _ := c4 0 (by omega)
 have c4_1 : ε.i 198421856824324646913 = _ := c4 1 (by omega)
 have c4_2 : ε.i 198421856824324646914 = _ := c4 2 (by omega)
 clear c4
 obtain ⟨m5, c5⟩ := sat_call hs (s := 6) (base := 203744195537112007840) (args := [LV.v (V1.agg [SV.a (AV.int (Go.IntKind.i64) (E.var 2)), SV.a (AV.int (Go.IntKind.i64) (E.var 3))])]) (by kernel_rfl)
 have c5_0 : ε.i 203744195537112007840 = _ := c5 0 (by omega)
 have c5_1 : ε.i 203744195537112007841 = _ := c5 1 (by omega)
 have c5_2 : ε.i 203744195537112007842 = _ := c5 2 (by omega)
 clear c5
 obtain ⟨m6, c6⟩ := sat_call hs (s := 1) (base := 173696645581412367552) (args := [LV.v (V1.agg [SV.a (AV.int (Go.IntKind.i64) (E.ite (E.cmp (CO.eql) (E.var 198421856824324646914) (E.lit 0)) (E.var 198421856824324646912) (E.lit 0))), SV.a (AV.int (Go.IntKind.i64) (E.ite (E.cmp (CO.eql) (E.var 198421856824324646914) (E.lit 0)) (E.var 198421856824324646913) (E.lit 0)))]), LV.v (V1.agg [SV.a (AV.int (Go.IntKind.i64) (E.ite (E.cmp (CO.eql) (E.var 203744195537112007842) (E.lit 0)) (E.var 203744195537112007840) (E.lit 0))), SV.a (AV.int (Go.IntKind.i64) (E.ite (E.cmp (CO.eql) (E.var 203744195537112007842) (E.lit 0)) (E.var 203744195537112007841) (E.lit 0)))])]) (by kernel_rfl)
 have c6_0 : ε.i 173696645581412367552 = _ := c6 0 (by omega)
 have c6_1 : ε.i 173696645581412367553 = _ := c6 1 (by omega)
 have c6_2 : ε.i 173696645581412367554 = _ := c6 2 (by omega)
 clear c6
 obtain ⟨m7, c7⟩ := sat_call hs (s := 6) (base := 204663794947594253760) (args := [LV.v (V1.agg [SV.a (AV.int (Go.IntKind.i64) (E.var 4)), SV.a (AV.int (Go.IntKind.i64) (E.var 5))])]) (by kernel_rfl)
 have c7_0 : ε.i 204663794947594253760 = _ := c7 0 (by omega)
 have c7_1 : ε.i 204663794947594253761 = _ := c7 1 (by omega)
 have c7_2 : ε.i 204663794947594253762 = _ := c7 2 (by omega)
 clear c7
 obtain ⟨m8, c8⟩ := sat_call hs (s := 1) (base := 209135737179751605408) (args := [LV.v (V1.agg [SV.a (AV.int (Go.IntKind.i64) (E.ite (E.cmp (CO.eql) (E.var 173696645581412367554) (E.lit 0)) (E.var 173696645581412367552) (E.lit 0))), SV.a (AV.int (Go.IntKind.i64) (E.ite (E.cmp (CO.eql) (E.var 173696645581412367554) (E.lit 0)) (E.var 173696645581412367553) (E.lit 0)))]), LV.v (V1.agg [SV.a (AV.int (Go.IntKind.i64) (E.ite (E.cmp (CO.eql) (E.var 204663794947594253762) (E.lit 0)) (E.var 204663794947594253760) (E.lit 0))), SV.a (AV.int (Go.IntKind.i64) (E.ite (E.cmp (CO.eql) (E.var 204663794947594253762) (E.lit 0)) (E.var 204663794947594253761) (E.lit 0)))])]) (by kernel_rfl)
 have c8_0 : ε.i 209135737179751605408 = _ := c8 0 (by omega)
 have c8_1 : ε.i 209135737179751605409 = _ := c8 1 (by omega)
 have c8_2 : ε.i 209135737179751605410 = _ := c8 2 (by omega)
 clear c8
 obtain ⟨m9, c9⟩ := sat_call hs (s := 7) (base := 166870315022410895168) (args := [LV.v (V1.agg [SV.a (AV.int (Go.IntKind.i64) (E.ite (E.cmp (CO.eql) (E.var 209135737179751605410) (E.lit 0)) (E.var 209135737179751605408) (E.lit 0))), SV.a (AV.int (Go.IntKind.i64) (E.ite (E.cmp (CO.eql) (E.var 209135737179751605410) (E.lit 0)) (E.var 209135737179751605409) (E.lit 0)))])]) (by kernel_rfl)
 have c9_0 : ε.i 166870315022410895168 = _ := c9 0 (by omega)
 have c9_1 : ε.i 166870315022410895169 = _ := c9 1 (by omega)
 have c9_2 : ε.i 166870315022410895170 = _ := c9 2 (by omega)
 clear c9
 have q0 := sat_eq hs (v := 4671117638481768425) (e := (E.ite (E.cmp (CO.eql) (E.var 183958120548362611040) (E.lit 0)) (E.ite (E.cmp (CO.eql) (E.var 184877719958844856960) (E.lit 0)) (E.ite (E.cmp (CO.eql) (E.var 185797319369327102880) (E.lit 0)) (E.lit 0) (E.lit 2)) (E.lit 2)) (E.lit 2))) (by kernel_rfl)
 simp only [List.flatMap_cons, List.flatMap_nil, argInts, V1.cells, SV.ints, E.den, List.append_nil, List.singleton_append, List.cons_append, List.nil_append, CO.den, beq_iff_eq] at c0_0 c1_0 c2_0 c3_0 c3_1 c3_2 c4_0 c4_1 c4_2 c5_0 c5_1 c5_2 c6_0 c6_1 c6_2 c7_0 c7_1 c7_2 c8_0 c8_1 c8_2 c9_0 c9_1 c9_2 q0
 simp only [SN_v (L := L) (s := 9) (by decide), SN_v (L := L) (s := 7) (by decide), SN_v (L := L) (s := 6) (by decide), SN_v (L := L) (s := 1) (by decide), v0_9, List.getD_cons_zero, List.getD_cons_succ] at c0_0 c1_0 c2_0 c3_0 c3_1 c3_2 c4_0 c4_1 c4_2 c5_0 c5_1 c5_2 c6_0 c6_1 c6_2 c7_0 c7_1 c7_2 c8_0 c8_1 c8_2 c9_0 c9_1 c9_2
 have i0 : ε.i 0 = L.getD 0 0 := h0 0 (by decide)
 have i1 : ε.i 1 = L.getD 1 0 := h0 1 (by decide)
 have i2 : ε.i 2 = L.getD 2 0 := h0 2 (by decide)
 have i3 : ε.i 3 = L.getD 3 0 := h0 3 (by decide)
 have i4 : ε.i 4 = L.getD 4 0 := h0 4 (by decide)
 have i5 : ε.i 5 = L.getD 5 0 := h0 5 (by decide)
 clear hs h0
 simp only [i0, i1, i2, i3, i4, i5] at c0_0 c1_0 c2_0 c3_0 c3_1 c3_2 c4_0 c4_1 c4_2 c5_0 c5_1 c5_2 c6_0 c6_1 c6_2 c7_0 c7_1 c7_2 c8_0 c8_1 c8_2 c9_0 c9_1 c9_2
 simp only [lit_rnorm, LV.den, V1.den, SV.den, AV.den, E.den, CO.den, beq_iff_eq, List.map_cons, List.map_nil]
 have l0 : (spL L 0).lo = L.getD 0 0 := clampI_eq (envL_R64 (T := T0) hL 0)
 have g0 : (spL L 0).hi = L.getD 1 0 := clampI_eq (envL_R64 (T := T0) hL 1)
 have l1 : (spL L 1).lo = L.getD 2 0 := clampI_eq (envL_R64 (T := T0) hL 2)
 have g1 : (spL L 1).hi = L.getD 3 0 := clampI_eq (envL_R64 (T := T0) hL 3)
 have l2 : (spL L 2).lo = L.getD 4 0 := clampI_eq (envL_R64 (T := T0) hL 4)
 have g2 : (spL L 2).hi = L.getD 5 0 := clampI_eq (envL_R64 (T := T0) hL 5)
 have zl : FD.Sp.zero.lo = 0 := rfl
 have zh : FD.Sp.zero.hi = 0 := rfl
 unfold nmV foldL
 generalize vB (L.getD 0 0) (L.getD 1 0) = B0 at c0_0 ⊢
 generalize vB (L.getD 2 0) (L.getD 3 0) = B1 at c1_0 ⊢
 generalize vB (L.getD 4 0) (L.getD 5 0) = B2 at c2_0 ⊢
 generalize spL L 0 = s0 at *
 generalize spL L 1 = s1 at *
 generalize spL L 2 = s2 at *
 clear hL
 generalize L.getD 0 0 = x0 at *
 generalize L.getD 1 0 = x1 at *
 generalize L.getD 2 0 = x2 at *
 generalize L.getD 3 0 = x3 at *
 generalize L.getD 4 0 = x4 at *
 generalize L.getD 5 0 = x5 at *
 cases B0
 ·simp [q0, c0_0]
 cases B1
 ·simp [q0, c0_0, c1_0]
 cases B2
 ·simp [q0, c0_0, c1_0, c2_0]
 have q : ε.i 4671117638481768425 = 0 := by simp [q0, c0_0, c1_0, c2_0]
 clear q0 c0_0 c1_0 c2_0
 by_cases e0 : v0 6 [x0, x1] 2 = 0
 rotate_left
 ·simp [q, FD.foldS, stepV, l0, l1, l2, g0, g1, g2, zl, zh, c3_0, c3_1, c3_2, e0]
 simp only [c3_0, c3_1, c3_2, e0, if_true] at c4_0 c4_1 c4_2
 by_cases e1 : v0 1 [0, 0, v0 6 [x0, x1] 0, v0 6 [x0, x1] 1] 2 = 0
 rotate_left
 ·simp [q, FD.foldS, stepV, l0, l1, l2, g0, g1, g2, zl, zh, c3_0, c3_1, c3_2, c4_0, c4_1, c4_2, e0, e1]
 simp only [c4_0, c4_1, c4_2, e1, if_true] at c6_0 c6_1 c6_2
 by_cases e2 : v0 6 [x2, x3] 2 = 0
 rotate_left
 ·simp [q, FD.foldS, stepV, l0, l1, l2, g0, g1, g2, zl, zh, c3_0, c3_1, c3_2, c4_0, c4_1, c4_2, c5_0, c5_1, c5_2, e0, e1, e2]
 simp only [c5_0, c5_1, c5_2, e2, if_true] at c6_0 c6_1 c6_2
 by_cases e3 : v0 1 [v0 1 [0, 0, v0 6 [x0, x1] 0, v0 6 [x0, x1] 1] 0, v0 1 [0, 0, v0 6 [x0, x1] 0, v0 6 [x0, x1] 1] 1, v0 6 [x2, x3] 0, v0 6 [x2, x3] 1] 2 = 0
 rotate_left
 ·simp [q, FD.foldS, stepV, l0, l1, l2, g0, g1, g2, zl, zh, c3_0, c3_1, c3_2, c4_0, c4_1, c4_2, c5_0, c5_1, c5_2, c6_0, c6_1, c6_2, e0, e1, e2, e3]
 simp only [c6_0, c6_1, c6_2, e3, if_true] at c8_0 c8_1 c8_2
 by_cases e4 : v0 6 [x4, x5] 2 = 0
 rotate_left
 ·simp [q, FD.foldS, stepV, l0, l1, l2, g0, g1, g2, zl, zh, c3_0, c3_1, c3_2, c4_0, c4_1, c4_2, c5_0, c5_1, c5_2, c6_0, c6_1, c6_2, c7_0, c7_1, c7_2, e0, e1, e2, e3, e4]
 simp only [c7_0, c7_1, c7_2, e4, if_true] at c8_0 c8_1 c8_2
 by_cases e5 : v0 1 [v0 1 [v0 1 [0, 0, v0 6 [x0, x1] 0, v0 6 [x0, x1] 1] 0, v0 1 [0, 0, v0 6 [x0, x1] 0, v0 6 [x0, x1] 1] 1, v0 6 [x2, x3] 0, v0 6 [x2, x3] 1] 0, v0 1 [v0 1 [0, 0, v0 6 [x0, x1] 0, v0 6 [x0, x1] 1] 0, v0 1 [0, 0, v0 6 [x0, x1] 0, v0 6 [x0, x1] 1] 1, v0 6 [x2, x3] 0, v0 6 [x2, x3] 1] 1, v0 6 [x4, x5] 0, v0 6 [x4, x5] 1] 2 = 0
 rotate_left
 ·simp [q, FD.foldS, stepV, l0, l1, l2, g0, g1, g2, zl, zh, c3_0, c3_1, c3_2, c4_0, c4_1, c4_2, c5_0, c5_1, c5_2, c6_0, c6_1, c6_2, c7_0, c7_1, c7_2, c8_0, c8_1, c8_2, e0, e1, e2, e3, e4, e5]
 simp only [c8_0, c8_1, c8_2, e5, if_true] at c9_0 c9_1 c9_2
 by_cases e6 : v0 7 [v0 1 [v0 1 [v0 1 [0, 0, v0 6 [x0, x1] 0, v0 6 [x0, x1] 1] 0, v0 1 [0, 0, v0 6 [x0, x1] 0, v0 6 [x0, x1] 1] 1, v0 6 [x2, x3] 0, v0 6 [x2, x3] 1] 0, v0 1 [v0 1 [0, 0, v0 6 [x0, x1] 0, v0 6 [x0, x1] 1] 0, v0 1 [0, 0, v0 6 [x0, x1] 0, v0 6 [x0, x1] 1] 1, v0 6 [x2, x3] 0, v0 6 [x2, x3] 1] 1, v0 6 [x4, x5] 0, v0 6 [x4, x5] 1] 0, v0 1 [v0 1 [v0 1 [0, 0, v0 6 [x0, x1] 0, v0 6 [x0, x1] 1] 0, v0 1 [0, 0, v0 6 [x0, x1] 0, v0 6 [x0, x1] 1] 1, v0 6 [x2, x3] 0, v0 6 [x2, x3] 1] 0, v0 1 [v0 1 [0, 0, v0 6 [x0, x1] 0, v0 6 [x0, x1] 1] 0, v0 1 [0, 0, v0 6 [x0, x1] 0, v0 6 [x0, x1] 1] 1, v0 6 [x2, x3] 0, v0 6 [x2, x3] 1] 1, v0 6 [x4, x5] 0, v0 6 [x4, x5] 1] 1] 2 = 0
 ·simp [q, FD.foldS, stepV, l0, l1, l2, g0, g1, g2, zl, zh, c3_0, c3_1, c3_2, c4_0, c4_1, c4_2, c5_0, c5_1, c5_2, c6_0, c6_1, c6_2, c7_0, c7_1, c7_2, c8_0, c8_1, c8_2, c9_0, c9_1, c9_2, e0, e1, e2, e3, e4, e5, e6]
 ·simp [q, FD.foldS, stepV, l0, l1, l2, g0, g1, g2, zl, zh, c3_0, c3_1, c3_2, c4_0, c4_1, c4_2, c5_0, c5_1, c5_2, c6_0, c6_1, c6_2, c7_0, c7_1, c7_2, c8_0, c8_1, c8_2, c9_0, c9_1, c9_2, e0, e1, e2, e3, e4, e5, e6]
end SX
end Go.Proofs.Ytdoigcpcponnhaa
end
section
set_option maxRecDepth 1000000
namespace Go.Proofs.Ytdoigcpcponnhaa
open Go.RowKit
namespace SX
theorem co_lss (x y : Int) : (CO.den x y .lss = true) = (x < y) := by simp [CO.den]
theorem co_eql (x y : Int) : (CO.den x y .eql = true) = (x = y) := by simp [CO.den]
def pat30 : List LV := [.v (.agg [.a (.int .i64 (.var 0)), .a (.int .i64 (.var 1)), .a (.int .i64 (.var 2)), .a (.int .i64 (.var 3)), .a (.int .i64 (.var 4)), .a (.int .i64 (.var 5)), .a (.int .i64 (.var 6)), .a (.int .i64 (.var 7)), .a (.int .i64 (.var 8)), .a (.int .i64 (.var 9)), .a (.int .i64 (.var 10)), .a (.int .i64 (.var 11)), .a (.int .i64 (.var 12)), .a (.int .i64 (.var 13))])]
theorem pair30 : pairI Try.prog S0 shp0 KF 3000 (2^240) 8 14 pat30 = true := by kernel_rfl
def pat34 : List LV := [.v (.agg [.a (.int .i64 (.var 0)), .a (.int .i64 (.var 1)), .a (.int .i64 (.var 2)), .a (.int .i64 (.var 3)), .a (.int .i64 (.var 4)), .a (.int .i64 (.var 5)), .a (.int .i64 (.var 6)), .a (.int .i64 (.var 7)), .a (.int .i64 (.var 8)), .a (.int .i64 (.var 9)), .a (.int .i64 (.var 10)), .a (.int .i64 (.var 11)), .a (.int .i64 (.var 12)), .a (.int .i64 (.var 13)), .a (.int .i64 (.var 14)), .a (.int .i64 (.var 15))])]
theorem pair34 : pairI2 Try.prog S0 shp0 KF 3000 (2^240) 11 15 pat34 = true := by kernel_rfl
def e_tuP : E := (E.ite (E.cmp (CO.eql) (E.var 183958120548362611040) (E.lit 0)) (E.ite (E.cmp (CO.eql) (E.var 184877719958844856960) (E.lit 0)) (E.ite (E.cmp (CO.eql) (E.var 185797319369327102880) (E.lit 0)) (E.ite (E.cmp (CO.eql) (E.var 186716918779809348800) (E.lit 0)) (E.ite (E.cmp (CO.eql) (E.var 187636518190291594720) (E.lit 0)) (E.ite (E.cmp (CO.eql) (E.var 188556117600773840640) (E.lit 0)) (E.ite (E.cmp (CO.eql) (E.var 189475717011256086560) (E.lit 0)) (E.ite (E.cmp (CO.eql) (E.var 190395316421738332480) (E.lit 0)) (E.ite (E.cmp (CO.lss) (E.lit 0) (E.var 14)) (E.lit 0) (E.lit 2)) (E.lit 2)) (E.lit 2)) (E.lit 2)) (E.lit 2)) (E.lit 2)) (E.lit 2)) (E.lit 2)) (E.lit 2))
theorem e_tuP_is : intE (rd Try.prog KF 3000 (2^240) 11 pat34 []).1 = e_tuP := eq_of_beq (by kernel_rfl)
def e_tuQ : E := (E.ite (E.cmp (CO.lss) (E.var 0) (E.lit (-9223372036854775807))) (E.lit 2) (E.ite (E.cmp (CO.lss) (E.var 1) (E.lit (-9223372036854775807))) (E.lit 2) (E.ite (E.cmp (CO.lss) (E.var 1) (E.var 0)) (E.lit 2) (E.ite (E.cmp (CO.eql) (E.var 184877719958844856960) (E.lit 0)) (E.ite (E.cmp (CO.eql) (E.var 185797319369327102880) (E.lit 0)) (E.ite (E.cmp (CO.eql) (E.var 186716918779809348800) (E.lit 0)) (E.ite (E.cmp (CO.eql) (E.var 187636518190291594720) (E.lit 0)) (E.ite (E.cmp (CO.eql) (E.var 188556117600773840640) (E.lit 0)) (E.ite (E.cmp (CO.eql) (E.var 189475717011256086560) (E.lit 0)) (E.ite (E.cmp (CO.eql) (E.var 190395316421738332480) (E.lit 0)) (E.ite (E.cmp (CO.lss) (E.var 14) (E.lit 1)) (E.lit 2) (E.lit 0)) (E.lit 2)) (E.lit 2)) (E.lit 2)) (E.lit 2)) (E.lit 2)) (E.lit 2)) (E.lit 2)))))
theorem e_tuQ_is : intE (rd Try.prog KF 3000 (2^240) 15 pat34 []).1 = e_tuQ := eq_of_beq (by kernel_rfl)
theorem heq34 (ε : Env) (hR : ∀ i, R64 (ε.i i)) (hs : ∀ ob ∈ (rd Try.prog KF 3000 (2^240) 11 pat34 []).2.2 ++ (rd Try.prog KF 3000 (2^240) 15 pat34 []).2.2, ob.sat S0 ε) : ((intE (rd Try.prog KF 3000 (2^240) 15 pat34 []).1).den ε).1 = ((intE (rd Try.prog KF 3000 (2^240) 11 pat34 []).1).den ε).1 := by
 rw [e_tuQ_is, e_tuP_is]
 obtain ⟨m, c⟩ := sat_call (S := S0) (fun ob hb => hs ob (List.mem_append_left _ hb)) (s := 9) (base := 183958120548362611040) (args := [LV.v (V1.agg [SV.a (AV.int (Go.IntKind.i64) (E.var 0)), SV.a (AV.int (Go.IntKind.i64) (E.var 1))])]) (by kernel_rfl)
 have c0 : ε.i 183958120548362611040 = if vB (ε.i 0) (ε.i 1) then 0 else 2 := c 0 (by omega)
 clear c
 simp only [e_tuQ, e_tuP, E.den, co_lss, co_eql]
 have r0 := hR 0
 have r1 := hR 1
 unfold R64 at r0 r1
 clear hs hR
 generalize ε.i 0 = x0 at *
 generalize ε.i 1 = x1 at *
 generalize ε.i 14 = x2 at *
 generalize ε.i 183958120548362611040 = x3 at *
 generalize ε.i 184877719958844856960 = x4 at *
 generalize ε.i 185797319369327102880 = x5 at *
 generalize ε.i 186716918779809348800 = x6 at *
 generalize ε.i 187636518190291594720 = x7 at *
 generalize ε.i 188556117600773840640 = x8 at *
 generalize ε.i 189475717011256086560 = x9 at *
 generalize ε.i 190395316421738332480 = x10 at *
 unfold vB at c0
 grind
def nmShape (args : List LV) (mem : List (Nat × Cells)) : Bool := match args, mem with
 | [.v (.s (.a (.sl b 0 3 3)))], [(b', [some (.a (.int .i64 e0)), some (.a (.int .i64 e1)), some (.a (.int .i64 e2)), some (.a (.int .i64 e3)), some (.a (.int .i64 e4)), some (.a (.int .i64 e5))])] => b == b' && rngE e0 && rngE e1 && rngE e2 && rngE e3 && rngE e4 && rngE e5
 | _, _ => false
theorem nmV_R64 (L : List Int) (k : Nat) : R64 (nmV L k) := by
 have h2 : R64 2 := by unfold R64; omega
 unfold nmV
 split
 ·split
  ·split
   ·exact v0_R64 _ _ _
   ·split
    ·exact v0_R64 _ _ _
    ·exact R64_0
  ·split
   ·exact foldL2 L
   ·exact R64_0
 ·split
  ·exact h2
  ·exact R64_0
theorem nmV_zero (L : List Int) (h : nmV L 2 ≠ 0) : nmV L 0 = 0 ∧ nmV L 1 = 0 := by
 unfold nmV at *
 split
 ·rename_i h1
  rw [if_pos h1] at h
  split
  ·rename_i h2
   rw [if_pos h2] at h
   split
   ·rename_i h3
    rw [if_pos h3] at h
    exact absurd h3 h
   ·exact ⟨rfl, rfl⟩
  ·exact ⟨rfl, rfl⟩
 ·exact ⟨rfl, rfl⟩
theorem nm_ok {S : Sig} {q : FuncId} (hs : S.sym q = some (16, 1)) (hval : ∀ L k, S.val 16 L k = nmV L k) {fn : Func} (hfn : Try.prog.funcs[q]? = some fn)
  (hres : ∀ base, ∃ m, nameRes Try.prog fn base = some (.tup [.agg [.a (.int .i64 (.var base)), .a (.int .i64 (.var (base + 1)))], .s (.a (.int .i64 (.var (base + 2))))], m))
  (hrd : ∀ {L : List Int}, (∀ x ∈ L, R64 x) → ∀ w : World, ∃ ε : Env, (∀ v, v < top → ε.i v = L.getD v 0) ∧ ∃ r, Ob.ok Try.prog ε w (.call (.blit true) q patN memN r []) ∧ ∀ ρ, r.den ε ρ = .tuple #[.agg #[.int .i64 (nmV L 0), .int .i64 (nmV L 1)], .int .i64 (nmV L 2)])
  {ε : Env} (hε : ∀ i, R64 (ε.i i)) {w : World} {args : List LV} {mem : List (Nat × Cells)} {res : LV} {upd : List (Nat × Cells)} (h : nmShape args mem = true)
  (hstd : stdRes Try.prog S.sym q args mem = some (res, upd)) (hsat : Ob.sat S ε (.call (.blit true) q args mem res upd)) : Ob.ok Try.prog ε w (.call (.blit true) q args mem res upd) := by
 unfold nmShape at h
 split at h
 case h_2 => cases h
 rename_i b b' e0 e1 e2 e3 e4 e5
 simp only [Bool.and_eq_true, beq_iff_eq] at h
 obtain ⟨⟨⟨⟨⟨⟨rfl, r0⟩, r1⟩, r2⟩, r3⟩, r4⟩, r5⟩ := h
 obtain ⟨cs, hcs⟩ : ∃ cs : Cells, [some (SV.a (.int .i64 e0)), some (.a (.int .i64 e1)), some (.a (.int .i64 e2)), some (.a (.int .i64 e3)), some (.a (.int .i64 e4)), some (.a (.int .i64 e5))] = cs := ⟨_, rfl⟩
 rw [hcs] at hstd hsat ⊢
 obtain ⟨base, hbase⟩ : ∃ base, callBase 16 [.v (.s (.a (.sl b 0 3 3)))] [(b, cs)] = base := ⟨_, rfl⟩
 have hres' : res = .tup [zeroLess1 (.var (base + 2)) (.agg [.a (.int .i64 (.var base)), .a (.int .i64 (.var (base + 1)))]), .s (.a (.int .i64 (.var (base + 2))))] ∧ upd = [] := by
  unfold stdRes at hstd
  rw [hs, hfn] at hstd
  obtain ⟨m, hm⟩ := hres base
  simp [stdVal, hbase, hm, zeroLess1, zeroLess, mkIte] at hstd
  simp [zeroLess1, zeroLess, hstd]
 obtain ⟨rfl, rfl⟩ := hres'
 have hcn : callNo S q [.v (.s (.a (.sl b 0 3 3)))] [(b, cs)] = some (base / 32, 16, [.v (.s (.a (.sl b 0 3 3)))]) := by
  unfold callNo
  rw [hs, ← hbase]
  rfl
 have hb32 : base / 32 * 32 = base := by rw [← hbase]; exact base32 _ _ _
 have hv := fun k hk => (hsat _ _ _ hcn k hk).1
 rw [hb32] at hv
 obtain ⟨L, hLd⟩ : ∃ L, [(e0.den ε).1, (e1.den ε).1, (e2.den ε).1, (e3.den ε).1, (e4.den ε).1, (e5.den ε).1] = L := ⟨_, rfl⟩
 have hLL : [LV.v (.s (.a (.sl b 0 3 3)))].flatMap (argInts ε [(b, cs)]) = L := by
  rw [← hLd, ← hcs]
  simp [argInts, List.lookup, cellsInts, SV.ints]
 simp only [hLL, hval] at hv
 have v0 : ε.i base = nmV L 0 := hv 0 (by omega)
 have v1 : ε.i (base + 1) = nmV L 1 := hv 1 (by omega)
 have v2 : ε.i (base + 2) = nmV L 2 := hv 2 (by omega)
 have hL : ∀ x ∈ L, R64 x := by
  rw [← hLd]
  intro x hx
  simp only [List.mem_cons, List.not_mem_nil, or_false] at hx
  rcases hx with rfl | rfl | rfl | rfl | rfl | rfl
  ·exact rngE_spec hε r0
  ·exact rngE_spec hε r1
  ·exact rngE_spec hε r2
  ·exact rngE_spec hε r3
  ·exact rngE_spec hε r4
  ·exact rngE_spec hε r5
 obtain ⟨ε', h0, r, hok, hr⟩ := hrd hL w
 intro _ w2 ρ hw2 hblk hinj
 obtain ⟨b1, b2, b3⟩ := hblk b cs (by simp [List.lookup])
 have hB : ∀ (c : Nat) ds, memN.lookup c = some ds → Blk ε' (fun _ => ρ b) w.heap.size w2 c ds := fun c ds hc => by
  unfold memN at hc
  simp only [List.lookup] at hc
  split at hc
  ·cases hc
   refine ⟨b1, b2, fun j c hj => ?_⟩
   have key : ∀ e : E, cs[j]? = some (some (.a (.int .i64 e))) → c = some (.a (.int .i64 (.var j))) → ε'.i j = (e.den ε).1 → ∃ v, w2.cell? ⟨ρ b, j, none⟩ = some v ∧ w2.frozen? ⟨ρ b, j, none⟩ = false ∧ ∀ s, c = some s → v = s.den ε' (fun _ => ρ b) := by
    intro e he hc hi
    obtain ⟨v, q1, q2, q3⟩ := b3 j _ he
    refine ⟨v, q1, q2, fun s hs => ?_⟩
    rw [hc] at hs
    cases hs
    rw [q3 _ rfl]
    simp only [SV.den, AV.den, E.den, hi]
   unfold cells6 at hj
   rw [← hcs] at key
   rw [← hLd] at h0
   rcases j with _ | _ | _ | _ | _ | _ | j
   ·exact key e0 rfl (by simpa using hj.symm) (h0 0 (by decide))
   ·exact key e1 rfl (by simpa using hj.symm) (h0 1 (by decide))
   ·exact key e2 rfl (by simpa using hj.symm) (h0 2 (by decide))
   ·exact key e3 rfl (by simpa using hj.symm) (h0 3 (by decide))
   ·exact key e4 rfl (by simpa using hj.symm) (h0 4 (by decide))
   ·exact key e5 rfl (by simpa using hj.symm) (h0 5 (by decide))
   ·simp at hj
  ·cases hc
 have run := hok rfl w2 (fun _ => ρ b) hw2 hB (fun c1 c2 h1 h2 _ => by
  have z : ∀ c, (memN.lookup c).isSome = true → c = 0 := fun c hc => by
   unfold memN at hc
   simp only [List.lookup] at hc
   split at hc
   ·rename_i hh; simpa using hh
   ·cases hc
  rw [z c1 h1, z c2 h2])
 refine Calls.mono run fun e w' ⟨q1, _, q3⟩ => ⟨?_, by simp, Ext.mono q3 (by simp)⟩
 have q4 := q1.trans (congrArg Ending.returned (hr _))
 rw [q4]
 refine congrArg Ending.returned ?_
 show _ = Value.tuple #[.agg #[.int .i64 ((mkIte (mkEq 200 (.var (base + 2)) (.lit 0)) (.var base) (.lit 0)).den ε).1, .int .i64 ((mkIte (mkEq 200 (.var (base + 2)) (.lit 0)) (.var (base + 1)) (.lit 0)).den ε).1], .int .i64 (ε.i (base + 2))]
 have hz := nmV_zero L
 clear q1 q4 run hok hr h0 hv hsat hstd
 simp only [mkIte_den, mkEq_den, E.den, v0, v1, v2, beq_iff_eq]
 generalize nmV L 0 = y0 at *
 generalize nmV L 1 = y1 at *
 generalize nmV L 2 = y2 at *
 by_cases h : y2 = 0
 ·simp only [h, if_true]
 ·obtain ⟨k0, k1⟩ := hz h
  simp only [h, if_false, k0, k1]

noncomputable def valI (S : Sig) (T : Env) (f g : FuncId) (pat : List LV) (L : List Int) : Int := clampI ((intE (rd Try.prog KF 3000 (2^240) f pat []).1).den ((envL T (L.map clampI)).solve S ((rd Try.prog KF 3000 (2^240) f pat []).2.2 ++ (rd Try.prog KF 3000 (2^240) g pat []).2.2))).1

noncomputable def val1 (T : Env) (s : Nat) (L : List Int) (k : Nat) : Int := if s = 16 then nmV L k else if s = 30 then valI S0 T 8 14 pat30 L else if s = 34 then valI S0 T 11 15 pat34 L else val0 s L k
theorem val1_R64 (T : Env) (s : Nat) (L : List Int) (k : Nat) : R64 (val1 T s L k) := by
 unfold val1
 split
 ·exact nmV_R64 _ _
 ·split
  ·exact clampI_R64 _
  ·split
   ·exact clampI_R64 _
   ·exact val0_R64 _ _ _
noncomputable def S1 (T : Env) : Sig := ⟨fun f => sy.lookup f, val1 T⟩
def new1 (f : FuncId) : Bool := f == 47 || f == 42 || f == 8 || f == 14 || f == 11 || f == 15
def shp1 (f : FuncId) (args : List LV) (mem : List (Nat × Cells)) : Bool :=
 if f == 47 || f == 42 then nmShape args mem else if f == 8 || f == 14 then matchLVs pat30 args 0 else if f == 11 || f == 15 then matchLVs pat34 args 0 else shp0 f args mem
theorem shp0_s {f : FuncId} {args : List LV} {mem : List (Nat × Cells)} {s z : Nat} (h : shp0 f args mem = true) (hs : sy.lookup f = some (s, z)) : s ≤ 15 := by
 unfold shp0 at h
 split at h
 ·rename_i p hp
  have := List.all_eq_true.1 (show shpL.all (fun x => match sy.lookup x.1 with | some y => decide (y.1 ≤ 15) | none => true) = true by kernel_rfl) _ (lookup_mem hp)
  simp only [hs, decide_eq_true_eq] at this
  exact this
 ·cases h
theorem con1 (w0 : World) (T : Env) : Con Try.prog (S1 T) shp1 T w0 := by
 have c0 := con0 w0 T
 have hS0 : ∀ s l k, R64 (S0.val s l k) := fun s l k => val0_R64 s l k
 refine con_ext (S := S0) (shp := shp0) new1 (fun _ => rfl) (fun f args mem hf h => ?_) (fun f args mem s z h hs L k => ?_) c0 (fun ε ht hε w hw f args mem res upd hf hsh hstd hr hsat => ?_)
 ·simp only [new1, Bool.or_eq_false_iff] at hf
  obtain ⟨⟨⟨⟨⟨h1, h2⟩, h3⟩, h4⟩, h5⟩, h6⟩ := hf
  simpa only [shp1, h1, h2, h3, h4, h5, h6, Bool.or_false, Bool.false_eq_true, if_false] using h
 ·have := shp0_s h hs
  show val1 T s L k = val0 s L k
  unfold val1
  rw [if_neg (by omega), if_neg (by omega), if_neg (by omega)]
 ·simp only [new1, Bool.or_eq_true, beq_iff_eq] at hf
  rcases hf with ((((rfl | rfl) | rfl) | rfl) | rfl) | rfl
  ·exact nm_ok rfl (fun _ _ => rfl) Try.func47 (fun base => ⟨base + 3, by kernel_rfl⟩) (fun {L} hL w => by obtain ⟨ε, h0, hok, hr⟩ := snorm_in hL w; exact ⟨ε, h0, _, hok, hr⟩) hε hsh hstd hsat
  ·exact nm_ok rfl (fun _ _ => rfl) Try.func42 (fun base => ⟨base + 3, by kernel_rfl⟩) (fun {L} hL w => by obtain ⟨ε, h0, hok, hr⟩ := rnorm_in hL w; exact ⟨ε, h0, _, hok, hr⟩) hε hsh hstd hsat
  ·exact pairI_con hmix (by decide) pair30 (of_decide_eq_true (by kernel_rfl)) hS0 c0 (s := 30) (fun L => rfl) (.inl rfl) rfl Try.func8 (fun base => ⟨base + 1, by kernel_rfl⟩) ε ht hw hsh (matchLVs_R64 hε hsh (rngOb_args hr) (by kernel_rfl)) hstd hsat
  ·exact pairI_con hmix (by decide) pair30 (of_decide_eq_true (by kernel_rfl)) hS0 c0 (s := 30) (fun L => rfl) (.inr rfl) rfl Try.func14 (fun base => ⟨base + 1, by kernel_rfl⟩) ε ht hw hsh (matchLVs_R64 hε hsh (rngOb_args hr) (by kernel_rfl)) hstd hsat
  ·exact pairI2_con hmix (by decide) pair34 heq34 (of_decide_eq_true (by kernel_rfl)) hS0 c0 (s := 34) (fun L => rfl) (.inl rfl) rfl Try.func11 (fun base => ⟨base + 1, by kernel_rfl⟩) ε ht hw hsh (matchLVs_R64 hε hsh (rngOb_args hr) (by kernel_rfl)) hstd hsat
  ·exact pairI2_con hmix (by decide) pair34 heq34 (of_decide_eq_true (by kernel_rfl)) hS0 c0 (s := 34) (fun L => rfl) (.inr rfl) rfl Try.func15 (fun base => ⟨base + 1, by kernel_rfl⟩) ε ht hw hsh (matchLVs_R64 hε hsh (rngOb_args hr) (by kernel_rfl)) hstd hsat
def pat35 : List LV := [.v (.agg [.a (.int .i64 (.var 0)), .a (.int .i64 (.var 1)), .a (.int .i64 (.var 2)), .a (.int .i64 (.var 3)), .a (.int .i64 (.var 4)), .a (.int .i64 (.var 5)), .a (.int .i64 (.var 6)), .a (.int .i64 (.var 7)), .a (.int .i64 (.var 8)), .a (.int .i64 (.var 9)), .a (.int .i64 (.var 10)), .a (.int .i64 (.var 11)), .a (.int .i64 (.var 12)), .a (.int .i64 (.var 13))]), .v (.agg [.a (.int .i64 (.var 14)), .a (.int .i64 (.var 15)), .a (.int .i64 (.var 16)), .a (.int .i64 (.var 17)), .a (.int .i64 (.var 18)), .a (.int .i64 (.var 19))])]
theorem pair35 (T : Env) : pairS Try.prog (S1 T) shp1 KF 3000 (2^240) 12 16 pat35 = true := by kernel_rfl
noncomputable def valS (T : Env) (L : List Int) (k : Nat) : Int := clampI ((tE k (rd Try.prog KF 3000 (2^240) 12 pat35 []).1).den ((envL T (L.map clampI)).solve (S1 T) ((rd Try.prog KF 3000 (2^240) 12 pat35 []).2.2 ++ (rd Try.prog KF 3000 (2^240) 16 pat35 []).2.2))).1
noncomputable def val2 (T : Env) (s : Nat) (L : List Int) (k : Nat) : Int := if s = 35 then valS T L k else val1 T s L k
theorem val2_R64 (T : Env) (s : Nat) (L : List Int) (k : Nat) : R64 (val2 T s L k) := by
 unfold val2
 split
 ·exact clampI_R64 _
 ·exact val1_R64 _ _ _ _
noncomputable def S2 (T : Env) : Sig := ⟨fun f => sy.lookup f, val2 T⟩
def new2 (f : FuncId) : Bool := f == 12 || f == 16
def shp2 (f : FuncId) (args : List LV) (mem : List (Nat × Cells)) : Bool := if f == 12 || f == 16 then matchLVs pat35 args 0 else shp1 f args mem
theorem shp1_s {f : FuncId} {args : List LV} {mem : List (Nat × Cells)} {s z : Nat} (h : shp1 f args mem = true) (hs : sy.lookup f = some (s, z)) : s ≤ 34 := by
 unfold shp1 at h
 split at h
 ·rename_i hf
  simp only [Bool.or_eq_true, beq_iff_eq] at hf
  rcases hf with rfl | rfl
  ·have e : sy.lookup 47 = some (16, 1) := by kernel_rfl
   rw [e] at hs; cases hs; omega
  ·have e : sy.lookup 42 = some (16, 1) := by kernel_rfl
   rw [e] at hs; cases hs; omega
 ·split at h
  ·rename_i hf
   simp only [Bool.or_eq_true, beq_iff_eq] at hf
   rcases hf with rfl | rfl
   ·have e : sy.lookup 8 = some (30, 0) := by kernel_rfl
    rw [e] at hs; cases hs; omega
   ·have e : sy.lookup 14 = some (30, 0) := by kernel_rfl
    rw [e] at hs; cases hs; omega
  ·split at h
   ·rename_i hf
    simp only [Bool.or_eq_true, beq_iff_eq] at hf
    rcases hf with rfl | rfl
    ·have e : sy.lookup 11 = some (34, 0) := by kernel_rfl
     rw [e] at hs; cases hs; omega
    ·have e : sy.lookup 15 = some (34, 0) := by kernel_rfl
     rw [e] at hs; cases hs; omega
   ·have := shp0_s h hs; omega
theorem con2 (w0 : World) (T : Env) : Con Try.prog (S2 T) shp2 T w0 := by
 refine con_ext (S := S1 T) (shp := shp1) new2 (fun _ => rfl) (fun f args mem hf h => ?_) (fun f args mem s z h hs L k => ?_) (con1 w0 T) (fun ε ht hε w hw f args mem res upd hf hsh hstd hr hsat => ?_)
 ·simp only [new2, Bool.or_eq_false_iff] at hf
  simpa only [shp2, hf.1, hf.2, Bool.or_false, Bool.false_eq_true, if_false] using h
 ·have := shp1_s h hs
  show val2 T s L k = val1 T s L k
  unfold val2
  rw [if_neg (by omega)]
 ·have hS1 : ∀ s l k, R64 ((S1 T).val s l k) := fun s l k => val1_R64 T s l k
  have hv : ∀ L k, k < 3 → (S2 T).val 35 L k = clampI ((tE k (rd Try.prog KF 3000 (2^240) 12 pat35 []).1).den ((envL T (L.map clampI)).solve (S1 T) ((rd Try.prog KF 3000 (2^240) 12 pat35 []).2.2 ++ (rd Try.prog KF 3000 (2^240) 16 pat35 []).2.2))).1 := fun L k _ => by
   show val2 T 35 L k = _
   unfold val2
   rw [if_pos rfl]
   rfl
  simp only [new2, Bool.or_eq_true, beq_iff_eq] at hf
  rcases hf with rfl | rfl
  ·exact pairS_con hmix (by decide) (pair35 T) (of_decide_eq_true (by kernel_rfl)) hS1 (con1 w0 T) (s := 35) hv (.inl rfl) rfl Try.func12 (fun base => ⟨base + 3, by kernel_rfl⟩) ε ht hw hsh (matchLVs_R64 hε hsh (rngOb_args hr) (by kernel_rfl)) hstd hsat
  ·exact pairS_con hmix (by decide) (pair35 T) (of_decide_eq_true (by kernel_rfl)) hS1 (con1 w0 T) (s := 35) hv (.inr rfl) rfl Try.func16 (fun base => ⟨base + 3, by kernel_rfl⟩) ε ht hw hsh (matchLVs_R64 hε hsh (rngOb_args hr) (by kernel_rfl)) hstd hsat
end SX
end Go.Proofs.Ytdoigcpcponnhaa
end
section
set_option maxRecDepth 1000000
namespace Go.Proofs.Ytdoigcpcponnhaa
open Go.RowKit
namespace SX
def tbl : List (Way × LSpec) := [([0, 1, 0, 1, 1, 4], { s := 80, kill := [0, 9, 10, 11, 12, 13, 14, 15, 16, 17, 18, 19, 20, 21, 22, 23, 24, 28, 29, 30, 31, 32, 33, 34], ins := [], fsl := [0], exits := [(.exit 0, [(4, .nm 0)], []), (.ret, [(1, .lit 0), (2, .lit 0), (3, .lit 2), (4, .nm 1)], [])] }), ([0, 1, 0, 1, 1, 1, 1, 4], { s := 81, kill := [0, 9, 10, 11, 12, 13, 14, 15, 16, 17, 18, 19, 20, 21, 22, 23, 24, 25, 26, 27, 28, 29, 30, 31, 32, 33, 34, 38, 39, 40, 41, 42, 43, 44, 45, 46, 47, 48, 49, 50, 51, 52, 53, 54, 55, 56, 57, 58, 59, 60, 61, 62, 63, 64, 65, 66, 67, 68, 69, 70], ins := [5, 6, 7, 8, 9, 10, 11, 12, 13, 14, 15, 16, 17, 18, 0], fsl := [0], exits := [(.exit 2, [(1, .nm 0), (2, .nm 1), (4, .nm 2)], []), (.ret, [(1, .lit 0), (2, .lit 0), (3, .nm 3), (4, .nm 4)], [])] }), ([0, 1, 0, 1, 1, 1, 5], { s := 80, kill := [0, 9, 11, 12, 13, 14, 15, 16, 17, 18, 19, 20, 21, 22, 23, 24, 25, 26, 27, 28, 29, 30, 31, 32, 33, 34, 35, 36], ins := [], fsl := [0], exits := [(.exit 0, [(4, .nm 0)], []), (.ret, [(1, .lit 0), (2, .lit 0), (3, .lit 2), (4, .nm 1)], [])] }), ([0, 1, 0, 1, 1, 1, 1, 1, 1, 5], { s := 81, kill := [0, 9, 10, 14, 15, 16, 17, 18, 19, 20, 21, 22, 23, 24, 25, 26, 27, 28, 29, 30, 31, 32, 33, 34, 35, 36, 37, 38, 39, 40, 41, 42, 43, 44, 45, 46, 47, 48, 49, 50, 51, 52, 53, 54, 55, 56, 57, 58, 59, 60, 61, 62, 63, 64, 65, 66, 67, 68, 69, 70, 71, 72, 73, 74, 75, 76, 77, 78, 79, 80], ins := [7, 8, 9, 10, 11, 12, 13, 14, 15, 16, 17, 18, 19, 20, 0], fsl := [0], exits := [(.exit 2, [(4, .nm 0), (5, .nm 1), (6, .nm 2)], []), (.ret, [(1, .lit 0), (2, .lit 0), (3, .nm 3), (6, .nm 4), (4, .nm 5), (5, .nm 6)], [])] })]
noncomputable def KL : Cfg := ⟨fun f => !(sy.any fun x => x.1 == f), fun f => ct.contains f, stdRes Try.prog (fun f => sy.lookup f), stdLoop tbl⟩
structure TubesIn (w : World) (T : Env) : Prop where
 len : T.sn 0 ≤ 40
 cells : ∀ idx, idx < T.sn 0 → ∃ ad, T.sa 0 = some ad ∧ ad.block < w.heap.size ∧ ∀ j, j < 16 → w.cell? (ad.add (idx * 16 + j)) = some (.int .i64 (clmp (T.el 0 (idx * 16 + j))))
theorem TubesIn.below {w w' : World} {T : Env} (h : TubesIn w T) (hb : Below w.heap.size w w') : TubesIn w' T :=
 ⟨h.len, fun idx hi => by
  obtain ⟨ad, h1, h2, h3⟩ := h.cells idx hi
  exact ⟨ad, h1, Nat.lt_of_lt_of_le h2 hb.size, fun j hj => (hb.cell (by rw [sub_block]; exact h2)).trans (h3 j hj)⟩⟩
def qL : Ob → Bool
 | .lst i m off ks => i == 0 && m == 16 && decide (off + ks.length ≤ 16) && ks.all (· == .i64)
 | _ => false
theorem qL_ok {w : World} {T : Env} (h : TubesIn w T) {ob : Ob} (hq : qL ob = true) {E' : Env} (h1 : E'.sa = T.sa) (h2 : E'.sn = T.sn) (h3 : E'.el = T.el) : ob.ok Try.prog E' w := by
 cases ob with
 | lst i m off ks =>
  simp only [qL, Bool.and_eq_true, beq_iff_eq, decide_eq_true_eq, List.all_eq_true] at hq
  obtain ⟨⟨⟨rfl, rfl⟩, hlen⟩, hk⟩ := hq
  intro idx hi
  obtain ⟨ad, a1, a2, a3⟩ := h.cells idx (by rw [← h2]; exact hi)
  refine ⟨ad, by rw [h1]; exact a1, a2, fun j k hj => ?_⟩
  have hlt := (List.getElem?_eq_some_iff.1 hj).1
  have hk' := hk k (List.mem_of_getElem? hj)
  subst hk'
  rw [add_add, add_add, h3]
  exact a3 (off + j) (by omega)
 | _ => cases hq
def cel (T : Env) (i j : Nat) : Int := clmp (T.el 0 (i * 16 + j))
noncomputable def chk (T : Env) (i : Nat) : Int := val2 T 34 ((List.range 16).map (cel T i)) 0
noncomputable def hgt (T : Env) (pl : List Int) (i k : Nat) : Int := val2 T 35 (pl ++ (List.range 6).map fun j => cel T i (j + 2)) k
def fb (c : Nat → Int) : Nat → Nat → Nat
 | 0, i => i
 | k + 1, i => if c i = 0 then fb c k (i + 1) else i
theorem fb_step {c : Nat → Int} {n i : Nat} (h : i < n) : fb c (n - i) i = if c i = 0 then fb c (n - (i + 1)) (i + 1) else i := by
 rw [show n - i = (n - (i + 1)) + 1 by omega]; rfl
theorem fb_le (c : Nat → Int) : ∀ k i, fb c k i ≤ i + k
 | 0, i => by simp [fb]
 | k + 1, i => by
  unfold fb
  split
  ·have := fb_le c k (i + 1); omega
  ·omega
structure RS where
 i : Nat
 m : Int
 s : Int
 e : Int
noncomputable def nxM (T : Env) (pl : List Int) (H : Int) (i : Nat) (m : Int) : Int := if m < 0 then (if hgt T pl i 1 < H then m else i) else m
noncomputable def nxS (T : Env) (pl : List Int) (H : Int) (i : Nat) (s : Int) : Int := if s < 0 then (if hgt T pl i 0 < H then s else i) else s
noncomputable def rise (T : Env) (pl : List Int) (H : Int) : Nat → Nat → Int → Int → RS
 | 0, i, m, s => ⟨i, m, s, 0⟩
 | k + 1, i, m, s => if hgt T pl i 2 = 0 then rise T pl H k (i + 1) (nxM T pl H i m) (nxS T pl H i s) else ⟨i, m, s, hgt T pl i 2⟩
theorem rise_step {T : Env} {pl : List Int} {H : Int} {n i : Nat} {m s : Int} (h : i < n) : rise T pl H (n - i) i m s = if hgt T pl i 2 = 0 then rise T pl H (n - (i + 1)) (i + 1) (nxM T pl H i m) (nxS T pl H i s) else ⟨i, m, s, hgt T pl i 2⟩ := by
 rw [show n - i = (n - (i + 1)) + 1 by omega]; rfl
theorem rise_end {T : Env} {pl : List Int} {H : Int} {n i : Nat} {m s : Int} (h : n ≤ i) : rise T pl H (n - i) i m s = ⟨i, m, s, 0⟩ := by
 rw [show n - i = 0 by omega]; rfl
theorem rise_i {T : Env} {pl : List Int} {H : Int} : ∀ k i m s, (rise T pl H k i m s).i ≤ i + k
 | 0, i, m, s => by simp [rise]
 | k + 1, i, m, s => by
  unfold rise
  split
  ·have := rise_i (T := T) (pl := pl) (H := H) k (i + 1) (nxM T pl H i m) (nxS T pl H i s); omega
  ·exact Nat.le_add_right _ _
def sm (x : Int) : Prop := -1 ≤ x ∧ x ≤ 40
theorem sm_R64 {x : Int} (h : sm x) : R64 x := by unfold sm at h; unfold R64; omega
theorem nxM_sm {T : Env} {pl : List Int} {H : Int} {i : Nat} {m : Int} (hi : i ≤ 40) (h : sm m) : sm (nxM T pl H i m) := by
 unfold nxM; unfold sm at *; split
 ·split
  ·exact h
  ·omega
 ·exact h
theorem nxS_sm {T : Env} {pl : List Int} {H : Int} {i : Nat} {m : Int} (hi : i ≤ 40) (h : sm m) : sm (nxS T pl H i m) := by
 unfold nxS; unfold sm at *; split
 ·split
  ·exact h
  ·omega
 ·exact h
theorem rise_sm {T : Env} {pl : List Int} {H : Int} : ∀ k i m s, i + k ≤ 40 → sm m → sm s → sm (rise T pl H k i m s).m ∧ sm (rise T pl H k i m s).s
 | 0, i, m, s, _, hm, hs => ⟨hm, hs⟩
 | k + 1, i, m, s, hk, hm, hs => by
  unfold rise
  split
  ·exact rise_sm k (i + 1) _ _ (by omega) (nxM_sm (by omega) hm) (nxS_sm (by omega) hs)
  ·exact ⟨hm, hs⟩
noncomputable def v80 (T : Env) (k : Nat) : Int := if k = 31 then (if fb (chk T) (T.sn 0) 0 = T.sn 0 then 1 else 0) else if k = 0 then T.sn 0 else fb (chk T) (T.sn 0) 0
noncomputable def rsV (T : Env) (L : List Int) : RS := rise T (L.take 14) (L.getD 14 0) (T.sn 0) 0 (-1) (-1)
noncomputable def v81 (T : Env) (L : List Int) (k : Nat) : Int := match k with
 | 31 => if (rsV T L).e = 0 then 1 else 0
 | 0 => (rsV T L).m
 | 1 => (rsV T L).s
 | 2 => T.sn 0
 | 3 => (rsV T L).e
 | 4 => (rsV T L).i
 | 5 => (rsV T L).m
 | 6 => (rsV T L).s
 | _ => 0
noncomputable def val3 (T : Env) (s : Nat) (L : List Int) (k : Nat) : Int := if s = 80 then clampI (v80 T k) else if s = 81 then clampI (v81 T L k) else val2 T s L k
theorem val3_R64 (T : Env) (s : Nat) (L : List Int) (k : Nat) : R64 (val3 T s L k) := by
 unfold val3
 split
 ·exact clampI_R64 _
 ·split
  ·exact clampI_R64 _
  ·exact val2_R64 _ _ _ _
noncomputable def S3 (T : Env) : Sig := ⟨fun f => sy.lookup f, val3 T⟩
theorem shp2_s {f : FuncId} {args : List LV} {mem : List (Nat × Cells)} {s z : Nat} (h : shp2 f args mem = true) (hs : sy.lookup f = some (s, z)) : s ≤ 35 := by
 unfold shp2 at h
 split at h
 ·rename_i hf
  simp only [Bool.or_eq_true, beq_iff_eq] at hf
  rcases hf with rfl | rfl
  ·have e : sy.lookup 12 = some (35, 1) := by kernel_rfl
   rw [e] at hs; cases hs; omega
  ·have e : sy.lookup 16 = some (35, 1) := by kernel_rfl
   rw [e] at hs; cases hs; omega
 ·have := shp1_s h hs; omega
theorem con3 (w0 : World) (T : Env) : Con Try.prog (S3 T) shp2 T w0 :=
 con_ext (S := S2 T) (shp := shp2) (fun _ => false) (fun _ => rfl) (fun _ _ _ _ h => h) (fun f args mem s z h hs L k => by
  have := shp2_s h hs
  show val3 T s L k = val2 T s L k
  unfold val3
  rw [if_neg (by omega), if_neg (by omega)]) (con2 w0 T) (fun _ _ _ _ _ _ _ _ _ _ h => by cases h)
theorem hS3 (T : Env) : ∀ s l k, R64 ((S3 T).val s l k) := fun s l k => val3_R64 T s l k
theorem mem_set {l : List Int} {n : Nat} {x y : Int} (h : y ∈ l.set n x) : y ∈ l ∨ y = x := List.mem_or_eq_of_mem_set h
theorem dI_R64 {ε : Env} (hR : ∀ i, R64 (ε.i i)) {l : List E} (h : l.all rngE = true) : ∀ x ∈ dI ε l, R64 x := fun x hx => by
 obtain ⟨e, he, rfl⟩ := List.mem_map.1 hx
 exact rngE_spec hR (List.all_eq_true.1 h e he)
theorem add1 {i : Nat} (h : i ≤ 40) : IntKind.i64.wrap ((i : Int) + 1) = ((i + 1 : Nat) : Int) := by rw [IntKind.wrap_i64]; omega
def pcA : E := .not (.cmp .lss (.var 4) (.lit 0))
def pcB : E := .not (.cmp .lss (.var 6) (.lit 0))
def e80 : List E := [.var 15, .lit 0, .lit 0, .lit 0, .lit 0, .var 0, .var 1, .var 2, .var 3, .var 4, .var 5, .var 6, .var 7, .var 8, .var 9, .var 10, .var 11, .var 12, .var 13]
def L80 : LT := .node (.cmp .lss (.var 4) (.slen 0)) (.node (.not (.cmp .eql (.var 165037502958559574976) (.lit 0))) (.out .ret [.var 0, .lit 0, .lit 0, .lit 2, .var 4, .var 5, .var 6, .var 7, .var 8, .var 9, .var 10, .var 11, .var 12, .var 13, .var 14, .var 15, .var 16, .var 17, .var 18] []) (.next [.var 0, .var 1, .var 2, .var 3, .ar .add .i64 (.var 4) (.lit 1), .var 5, .var 6, .var 7, .var 8, .var 9, .var 10, .var 11, .var 12, .var 13, .var 14, .var 15, .var 16, .var 17, .var 18] [])) (.out (.exit 0) [.var 0, .var 1, .var 2, .var 3, .var 4, .var 5, .var 6, .var 7, .var 8, .var 9, .var 10, .var 11, .var 12, .var 13, .var 14, .var 15, .var 16, .var 17, .var 18] [])
def M80 : LT := .node (.bvar 163118637007984319967) (.out (.exit 0) [.var 15, .lit 0, .lit 0, .lit 0, .var 163118637007984319936, .var 0, .var 1, .var 2, .var 3, .var 4, .var 5, .var 6, .var 7, .var 8, .var 9, .var 10, .var 11, .var 12, .var 13] []) (.out .ret [.var 15, .lit 0, .lit 0, .lit 2, .var 163118637007984319937, .var 0, .var 1, .var 2, .var 3, .var 4, .var 5, .var 6, .var 7, .var 8, .var 9, .var 10, .var 11, .var 12, .var 13] [])
def a34 : List LV := [.v (.agg [.a (.int .i64 (.el 0 16 0 (.var 4))), .a (.int .i64 (.el 0 16 1 (.var 4))), .a (.int .i64 (.el 0 16 2 (.var 4))), .a (.int .i64 (.el 0 16 3 (.var 4))), .a (.int .i64 (.el 0 16 4 (.var 4))), .a (.int .i64 (.el 0 16 5 (.var 4))), .a (.int .i64 (.el 0 16 6 (.var 4))), .a (.int .i64 (.el 0 16 7 (.var 4))), .a (.int .i64 (.el 0 16 8 (.var 4))), .a (.int .i64 (.el 0 16 9 (.var 4))), .a (.int .i64 (.el 0 16 10 (.var 4))), .a (.int .i64 (.el 0 16 11 (.var 4))), .a (.int .i64 (.el 0 16 12 (.var 4))), .a (.int .i64 (.el 0 16 13 (.var 4))), .a (.int .i64 (.el 0 16 14 (.var 4))), .a (.int .i64 (.el 0 16 15 (.var 4)))])]
theorem loop80 {T : Env} {w : World} (hT : TubesIn w T) (hc : Con Try.prog (S3 T) shp2 T w) {kill : List Nat} {ob : Ob} (h : chkLoop Try.prog (S3 T) shp2 KF 3000 (2^240) kill pcA L80 M80 e80 qL [(34, 165037502958559574976, a34)] [] ob = true) {ε : Env} (h1 : ε.sa = T.sa) (h2 : ε.sn = T.sn) (h3 : ε.sc = T.sc) (h4 : ε.el = T.el) (hR : ∀ i, R64 (ε.i i))
  (hv : ∀ j, j < 32 → ε.i (163118637007984319936 + j) = clampI (v80 T j) ∧ ε.b (163118637007984319936 + j) = decide (clampI (v80 T j) ≠ 0)) : ob.ok Try.prog ε w := by
 have hn := hT.len
 generalize hN : T.sn 0 = n at hn
 have hf40 := fb_le (chk T) n 0
 have z0 : ε.i 163118637007984319936 = n := by
  have := (hv 0 (by omega)).1
  rw [Nat.add_zero] at this
  rw [this, v80, if_neg (by omega), if_pos rfl, hN, clampI_eq (by unfold R64; omega)]
 have z1 : ε.i 163118637007984319937 = fb (chk T) n 0 := by
  have := (hv 1 (by omega)).1
  rw [this, v80, if_neg (by omega), if_neg (by omega), hN, clampI_eq (by unfold R64; omega)]
 have z31 : ε.b 163118637007984319967 = decide (fb (chk T) n 0 = n) := by
  have := (hv 31 (by omega)).2
  rw [this, v80, if_pos rfl, hN]
  by_cases hx : fb (chk T) n 0 = n
  ·simp [hx, clampI]
  ·simp [hx, clampI]
 refine loop_use hmix (by decide) h (hS3 T) hc ⟨h1, h2, h3⟩ (fun l => ∃ i : Nat, i ≤ n ∧ fb (chk T) (n - i) i = fb (chk T) n 0 ∧ l = (dI ε e80).set 4 i) (fun l => n - (l.getD 4 0).toNat) ?_ ?_ (fun ob' hq E' a1 a2 a3 => qL_ok hT hq (a1.trans h1) (a2.trans h2) (a3.trans h4)) ?_ ?_
 ·rintro l ⟨i, hi, _, rfl⟩ x hx
  rcases mem_set hx with hx | rfl
  ·exact dI_R64 hR (by decide) x hx
  ·unfold R64; omega
 ·rintro l ⟨i, hi, _, rfl⟩ E' hlow
  have q4 : E'.i 4 = i := hlow 4 (by decide)
  simp only [pcA, E.den, CO.den, q4]
  simp
 ·exact ⟨0, by omega, by rw [Nat.sub_zero], rfl⟩
 ·rintro l ⟨i, hi, hfb, rfl⟩ E' hlow hsn hel hcl _
  have q0 : E'.i 0 = ε.i 15 := hlow 0 (by decide)
  have q1 : E'.i 1 = 0 := hlow 1 (by decide)
  have q2 : E'.i 2 = 0 := hlow 2 (by decide)
  have q3 : E'.i 3 = 0 := hlow 3 (by decide)
  have q4 : E'.i 4 = (i : Int) := hlow 4 (by decide)
  have q5 : E'.i 5 = ε.i 0 := hlow 5 (by decide)
  have q6 : E'.i 6 = ε.i 1 := hlow 6 (by decide)
  have q7 : E'.i 7 = ε.i 2 := hlow 7 (by decide)
  have q8 : E'.i 8 = ε.i 3 := hlow 8 (by decide)
  have q9 : E'.i 9 = ε.i 4 := hlow 9 (by decide)
  have q10 : E'.i 10 = ε.i 5 := hlow 10 (by decide)
  have q11 : E'.i 11 = ε.i 6 := hlow 11 (by decide)
  have q12 : E'.i 12 = ε.i 7 := hlow 12 (by decide)
  have q13 : E'.i 13 = ε.i 8 := hlow 13 (by decide)
  have q14 : E'.i 14 = ε.i 9 := hlow 14 (by decide)
  have q15 : E'.i 15 = ε.i 10 := hlow 15 (by decide)
  have q16 : E'.i 16 = ε.i 11 := hlow 16 (by decide)
  have q17 : E'.i 17 = ε.i 12 := hlow 17 (by decide)
  have q18 : E'.i 18 = ε.i 13 := hlow 18 (by decide)
  have hs0 : (E'.sn 0 : Int) = n := by rw [hsn, h2, hN]
  obtain ⟨mem, hcall⟩ := hcl (34, 165037502958559574976, a34) (by simp)
  have c0 : E'.i 165037502958559574976 = chk T i := by
   have := hcall 0 (by omega)
   have ha : a34.flatMap (argInts E' mem) = (List.range 16).map (cel T i) := by
    show [clmp (E'.el 0 ((E'.i 4).toNat * 16 + 0)), clmp (E'.el 0 ((E'.i 4).toNat * 16 + 1)), clmp (E'.el 0 ((E'.i 4).toNat * 16 + 2)), clmp (E'.el 0 ((E'.i 4).toNat * 16 + 3)), clmp (E'.el 0 ((E'.i 4).toNat * 16 + 4)), clmp (E'.el 0 ((E'.i 4).toNat * 16 + 5)), clmp (E'.el 0 ((E'.i 4).toNat * 16 + 6)), clmp (E'.el 0 ((E'.i 4).toNat * 16 + 7)), clmp (E'.el 0 ((E'.i 4).toNat * 16 + 8)), clmp (E'.el 0 ((E'.i 4).toNat * 16 + 9)), clmp (E'.el 0 ((E'.i 4).toNat * 16 + 10)), clmp (E'.el 0 ((E'.i 4).toNat * 16 + 11)), clmp (E'.el 0 ((E'.i 4).toNat * 16 + 12)), clmp (E'.el 0 ((E'.i 4).toNat * 16 + 13)), clmp (E'.el 0 ((E'.i 4).toNat * 16 + 14)), clmp (E'.el 0 ((E'.i 4).toNat * 16 + 15))] = _
    rw [hel, h4, q4]; rfl
   rw [ha] at this
   exact this
  clear hcall hcl hlow
  have s1 : ∀ x y : LT, LT.sel E' (.node (.cmp .lss (.var 4) (.slen 0)) x y) = if (i : Int) < n then x.sel E' else y.sel E' := fun x y => by
   simp only [LT.sel, E.den, co_lss, q4, hs0]
  have s2 : ∀ x y : LT, LT.sel E' (.node (.not (.cmp .eql (.var 165037502958559574976) (.lit 0))) x y) = if chk T i = 0 then y.sel E' else x.sel E' := fun x y => by
   simp only [LT.sel, E.den, CO.den, c0]
   by_cases hz : chk T i = 0 <;> simp [hz]
  have m1 : ∀ x y : LT, LT.sel ε (.node (.bvar 163118637007984319967) x y) = if fb (chk T) n 0 = n then x.sel ε else y.sel ε := fun x y => by
   simp only [LT.sel, E.den, z31, decide_eq_true_eq]
  unfold L80 M80
  rw [s1, s2, m1]
  by_cases hlt : i < n
  ·rw [if_pos (by omega)]
   rw [fb_step hlt] at hfb
   by_cases hz : chk T i = 0
   ·rw [if_pos hz] at hfb ⊢
    refine .inl ⟨_, rfl, ⟨i + 1, hlt, hfb, ?_⟩, ?_⟩
    ·simp only [dI, List.map_cons, List.map_nil, E.den, AO.den, q0, q1, q2, q3, q4, q5, q6, q7, q8, q9, q10, q11, q12, q13, q14, q15, q16, q17, q18, add1 (i := i) (by omega)]
     rfl
    ·show n - (Int.toNat (IntKind.i64.wrap (E'.i 4 + 1))) < n - Int.toNat (i : Int)
     rw [q4, add1 (by omega)]
     simp only [Int.toNat_natCast]
     omega
   ·rw [if_neg hz] at hfb ⊢
    rw [if_neg (by omega)]
    refine .inr ⟨_, _, _, rfl, rfl, ?_⟩
    simp only [dI, List.map_cons, List.map_nil, E.den, z1, ← hfb, q0, q1, q2, q3, q4, q5, q6, q7, q8, q9, q10, q11, q12, q13, q14, q15, q16, q17, q18]
  ·obtain rfl : i = n := by omega
   rw [Nat.sub_self] at hfb
   rw [if_neg (by omega), if_pos (by rw [← hfb]; rfl)]
   refine .inr ⟨_, _, _, rfl, rfl, ?_⟩
   simp only [dI, List.map_cons, List.map_nil, E.den, z0, q0, q1, q2, q3, q4, q5, q6, q7, q8, q9, q10, q11, q12, q13, q14, q15, q16, q17, q18]
def e81P : List E := [.var 15, .lit (-1), .lit (-1), .lit 0, .lit 0, .var 0, .var 1, .var 2, .var 3, .var 4, .var 5, .var 6, .var 7, .var 8, .var 9, .var 10, .var 11, .var 12, .var 13]
def L81P : LT := .node (.cmp .lss (.var 4) (.slen 0)) (.node (.not (.cmp .eql (.var 181152725441364257474) (.lit 0))) (.out .ret [.var 0, .lit 0, .lit 0, .var 181152725441364257474, .var 4, .var 5, .var 6, .var 7, .var 8, .var 9, .var 10, .var 11, .var 12, .var 13, .var 14, .var 15, .var 16, .var 17, .var 18] []) (.next [.var 0, .var 5514792918101402668, .var 6457617870863010381, .var 3, .ar .add .i64 (.var 4) (.lit 1), .var 5, .var 6, .var 7, .var 8, .var 9, .var 10, .var 11, .var 12, .var 13, .var 14, .var 15, .var 16, .var 17, .var 18] [])) (.out (.exit 2) [.var 0, .var 1, .var 2, .var 3, .var 4, .var 5, .var 6, .var 7, .var 8, .var 9, .var 10, .var 11, .var 12, .var 13, .var 14, .var 15, .var 16, .var 17, .var 18] [])
def M81P : LT := .node (.bvar 207923683223659972735) (.out (.exit 2) [.var 15, .var 207923683223659972704, .var 207923683223659972705, .lit 0, .var 207923683223659972706, .var 0, .var 1, .var 2, .var 3, .var 4, .var 5, .var 6, .var 7, .var 8, .var 9, .var 10, .var 11, .var 12, .var 13] []) (.out .ret [.var 15, .lit 0, .lit 0, .var 207923683223659972707, .var 207923683223659972708, .var 0, .var 1, .var 2, .var 3, .var 4, .var 5, .var 6, .var 7, .var 8, .var 9, .var 10, .var 11, .var 12, .var 13] [])
def a35P : List LV := [.v (.agg [.a (.int .i64 (.var 5)), .a (.int .i64 (.var 6)), .a (.int .i64 (.var 7)), .a (.int .i64 (.var 8)), .a (.int .i64 (.var 9)), .a (.int .i64 (.var 10)), .a (.int .i64 (.var 11)), .a (.int .i64 (.var 12)), .a (.int .i64 (.var 13)), .a (.int .i64 (.var 14)), .a (.int .i64 (.var 15)), .a (.int .i64 (.var 16)), .a (.int .i64 (.var 17)), .a (.int .i64 (.var 18))]), .v (.agg [.a (.int .i64 (.el 0 16 2 (.var 4))), .a (.int .i64 (.el 0 16 3 (.var 4))), .a (.int .i64 (.el 0 16 4 (.var 4))), .a (.int .i64 (.el 0 16 5 (.var 4))), .a (.int .i64 (.el 0 16 6 (.var 4))), .a (.int .i64 (.el 0 16 7 (.var 4)))])]
def k1P : E := .ite (.cmp .lss (.var 1) (.lit 0)) (.ite (.cmp .lss (.ite (.cmp .eql (.var 181152725441364257474) (.lit 0)) (.var 181152725441364257473) (.lit 0)) (.var 0)) (.var 1) (.var 4)) (.var 1)
def k2P : E := .ite (.cmp .lss (.var 2) (.lit 0)) (.ite (.cmp .lss (.ite (.cmp .eql (.var 181152725441364257474) (.lit 0)) (.var 181152725441364257472) (.lit 0)) (.var 0)) (.var 2) (.var 4)) (.var 2)
theorem loop81P {T : Env} {w : World} (hT : TubesIn w T) (hc : Con Try.prog (S3 T) shp2 T w) {kill : List Nat} {ob : Ob} (h : chkLoop Try.prog (S3 T) shp2 KF 3000 (2^240) kill pcA L81P M81P e81P qL [(35, 181152725441364257472, a35P)] [(5514792918101402668, k1P), (6457617870863010381, k2P)] ob = true) {ε : Env} (h1 : ε.sa = T.sa) (h2 : ε.sn = T.sn) (h3 : ε.sc = T.sc) (h4 : ε.el = T.el) (hR : ∀ i, R64 (ε.i i))
  (hv : ∀ j, j < 32 → ε.i (207923683223659972704 + j) = clampI (v81 T ((List.range 14).map ε.i ++ [ε.i 15, 0]) j) ∧ ε.b (207923683223659972704 + j) = decide (clampI (v81 T ((List.range 14).map ε.i ++ [ε.i 15, 0]) j) ≠ 0)) : ob.ok Try.prog ε w := by
 have hn := hT.len
 obtain ⟨pl, hpl⟩ : ∃ pl, (List.range 14).map ε.i = pl := ⟨_, rfl⟩
 have hrs : rsV T ((List.range 14).map ε.i ++ [ε.i 15, 0]) = rise T pl (ε.i 15) (T.sn 0) 0 (-1) (-1) := by rw [← hpl]; rfl
 generalize hN : T.sn 0 = n at hn hrs
 have hsm := rise_sm (T := T) (pl := pl) (H := ε.i 15) n 0 (-1) (-1) (by omega) (by unfold sm; omega) (by unfold sm; omega)
 have hii := rise_i (T := T) (pl := pl) (H := ε.i 15) n 0 (-1) (-1)
 have heR : R64 (rise T pl (ε.i 15) n 0 (-1) (-1)).e := by
  have key : ∀ k i m s, R64 (rise T pl (ε.i 15) k i m s).e := by
   intro k
   induction k with
   | zero => intro i m s; exact R64_0
   | succ k ih =>
    intro i m s
    unfold rise
    split
    ·exact ih _ _ _
    ·show R64 (hgt T pl i 2)
     exact val2_R64 _ _ _ _
  exact key _ _ _ _
 generalize hRS : rise T pl (ε.i 15) n 0 (-1) (-1) = rs at hrs hsm hii heR
 have z0 : ε.i 207923683223659972704 = rs.m := by
  have := (hv 0 (by omega)).1
  rw [Nat.add_zero] at this
  rw [this]; simp only [v81, hrs]; exact clampI_eq (sm_R64 hsm.1)
 have z1 : ε.i 207923683223659972705 = rs.s := by have := (hv 1 (by omega)).1; rw [this]; simp only [v81, hrs]; exact clampI_eq (sm_R64 hsm.2)
 have z2 : ε.i 207923683223659972706 = n := by have := (hv 2 (by omega)).1; rw [this]; simp only [v81, hN]; exact clampI_eq (by unfold R64; omega)
 have z3 : ε.i 207923683223659972707 = rs.e := by have := (hv 3 (by omega)).1; rw [this]; simp only [v81, hrs]; exact clampI_eq heR
 have z4 : ε.i 207923683223659972708 = rs.i := by have := (hv 4 (by omega)).1; rw [this]; simp only [v81, hrs]; exact clampI_eq (by unfold R64; omega)
 have z5 : ε.i 207923683223659972709 = rs.m := by have := (hv 5 (by omega)).1; rw [this]; simp only [v81, hrs]; exact clampI_eq (sm_R64 hsm.1)
 have z6 : ε.i 207923683223659972710 = rs.s := by have := (hv 6 (by omega)).1; rw [this]; simp only [v81, hrs]; exact clampI_eq (sm_R64 hsm.2)
 have z31 : ε.b 207923683223659972735 = decide (rs.e = 0) := by
  have := (hv 31 (by omega)).2
  rw [this]; simp only [v81, hrs]
  by_cases hx : rs.e = 0 <;> simp [hx, clampI]
 clear hv
 refine loop_use hmix (by decide) h (hS3 T) hc ⟨h1, h2, h3⟩ (fun l => ∃ (i : Nat) (m s : Int), i ≤ n ∧ sm m ∧ sm s ∧ rise T pl (ε.i 15) (n - i) i m s = rs ∧ l = (((dI ε e81P).set 1 m).set 2 s).set 4 i) (fun l => n - (l.getD 4 0).toNat) ?_ ?_ (fun ob' hq E' a1 a2 a3 => qL_ok hT hq (a1.trans h1) (a2.trans h2) (a3.trans h4)) ?_ ?_
 ·rintro l ⟨i, m, s, hi, hm, hs, _, rfl⟩ x hx
  rcases mem_set hx with hx | rfl
  ·rcases mem_set hx with hx | rfl
   ·rcases mem_set hx with hx | rfl
    ·exact dI_R64 hR (by decide) x hx
    ·exact sm_R64 hm
   ·exact sm_R64 hs
  ·unfold R64; omega
 ·rintro l ⟨i, m, s, hi, _, _, _, rfl⟩ E' hlow
  have q4 : E'.i 4 = i := hlow 4 (by decide)
  simp only [pcA, E.den, CO.den, q4]
  simp
 ·exact ⟨0, -1, -1, by omega, by unfold sm; omega, by unfold sm; omega, by rw [Nat.sub_zero]; exact hRS, rfl⟩
 ·rintro l ⟨i, m, s, hi, hm, hs, hr, rfl⟩ E' hlow hsn hel hcl hke
  have q0 : E'.i 0 = ε.i 15 := hlow 0 (by decide)
  have q1 : E'.i 1 = m := hlow 1 (by decide)
  have q2 : E'.i 2 = s := hlow 2 (by decide)
  have q3 : E'.i 3 = 0 := hlow 3 (by decide)
  have q4 : E'.i 4 = (i : Int) := hlow 4 (by decide)
  have q5 : E'.i 5 = ε.i 0 := hlow 5 (by decide)
  have q6 : E'.i 6 = ε.i 1 := hlow 6 (by decide)
  have q7 : E'.i 7 = ε.i 2 := hlow 7 (by decide)
  have q8 : E'.i 8 = ε.i 3 := hlow 8 (by decide)
  have q9 : E'.i 9 = ε.i 4 := hlow 9 (by decide)
  have q10 : E'.i 10 = ε.i 5 := hlow 10 (by decide)
  have q11 : E'.i 11 = ε.i 6 := hlow 11 (by decide)
  have q12 : E'.i 12 = ε.i 7 := hlow 12 (by decide)
  have q13 : E'.i 13 = ε.i 8 := hlow 13 (by decide)
  have q14 : E'.i 14 = ε.i 9 := hlow 14 (by decide)
  have q15 : E'.i 15 = ε.i 10 := hlow 15 (by decide)
  have q16 : E'.i 16 = ε.i 11 := hlow 16 (by decide)
  have q17 : E'.i 17 = ε.i 12 := hlow 17 (by decide)
  have q18 : E'.i 18 = ε.i 13 := hlow 18 (by decide)
  have hs0 : (E'.sn 0 : Int) = n := by rw [hsn, h2, hN]
  obtain ⟨mem, hcall⟩ := hcl (35, 181152725441364257472, a35P) (by simp)
  have ha : a35P.flatMap (argInts E' mem) = pl ++ (List.range 6).map fun j => cel T i (j + 2) := by
   show [E'.i 5, E'.i 6, E'.i 7, E'.i 8, E'.i 9, E'.i 10, E'.i 11, E'.i 12, E'.i 13, E'.i 14, E'.i 15, E'.i 16, E'.i 17, E'.i 18, clmp (E'.el 0 ((E'.i 4).toNat * 16 + 2)), clmp (E'.el 0 ((E'.i 4).toNat * 16 + 3)), clmp (E'.el 0 ((E'.i 4).toNat * 16 + 4)), clmp (E'.el 0 ((E'.i 4).toNat * 16 + 5)), clmp (E'.el 0 ((E'.i 4).toNat * 16 + 6)), clmp (E'.el 0 ((E'.i 4).toNat * 16 + 7))] = _
   rw [hel, h4, q5, q6, q7, q8, q9, q10, q11, q12, q13, q14, q15, q16, q17, q18, q4, ← hpl]; rfl
  rw [ha] at hcall
  have c0 : E'.i 181152725441364257472 = hgt T pl i 0 := hcall 0 (by omega)
  have c1 : E'.i 181152725441364257473 = hgt T pl i 1 := hcall 1 (by omega)
  have c2 : E'.i 181152725441364257474 = hgt T pl i 2 := hcall 2 (by omega)
  have g1 : E'.i 5514792918101402668 = (k1P.den E').1 := hke (5514792918101402668, k1P) (by simp)
  have g2 : E'.i 6457617870863010381 = (k2P.den E').1 := hke (6457617870863010381, k2P) (by simp)
  clear hcall hcl hlow hke ha
  have s1 : ∀ x y : LT, LT.sel E' (.node (.cmp .lss (.var 4) (.slen 0)) x y) = if (i : Int) < n then x.sel E' else y.sel E' := fun x y => by
   simp only [LT.sel, E.den, co_lss, q4, hs0]
  have s2 : ∀ x y : LT, LT.sel E' (.node (.not (.cmp .eql (.var 181152725441364257474) (.lit 0))) x y) = if hgt T pl i 2 = 0 then y.sel E' else x.sel E' := fun x y => by
   simp only [LT.sel, E.den, CO.den, c2]
   by_cases hz : hgt T pl i 2 = 0 <;> simp [hz]
  have m1 : ∀ x y : LT, LT.sel ε (.node (.bvar 207923683223659972735) x y) = if rs.e = 0 then x.sel ε else y.sel ε := fun x y => by
   simp only [LT.sel, E.den, z31, decide_eq_true_eq]
  unfold L81P M81P
  rw [s1, s2, m1]
  by_cases hlt : i < n
  ·rw [if_pos (by omega)]
   rw [rise_step hlt] at hr
   by_cases hz : hgt T pl i 2 = 0
   ·rw [if_pos hz] at hr ⊢
    simp only [k1P, k2P, E.den, co_lss, co_eql, c0, c1, c2, hz, if_true, q0, q1, q2, q3, q4, q5, q6, q7, q8, q9, q10, q11, q12, q13, q14, q15, q16, q17, q18] at g1 g2
    refine .inl ⟨_, rfl, ⟨i + 1, nxM T pl (ε.i 15) i m, nxS T pl (ε.i 15) i s, hlt, nxM_sm (by omega) hm, nxS_sm (by omega) hs, hr, ?_⟩, ?_⟩
    ·have g1' : E'.i 5514792918101402668 = nxM T pl (ε.i 15) i m := g1
     have g2' : E'.i 6457617870863010381 = nxS T pl (ε.i 15) i s := g2
     simp only [dI, List.map_cons, List.map_nil, E.den, AO.den, g1', g2', q0, q1, q2, q3, q4, q5, q6, q7, q8, q9, q10, q11, q12, q13, q14, q15, q16, q17, q18, add1 (i := i) (by omega)]
     rfl
    ·show n - (Int.toNat (IntKind.i64.wrap (E'.i 4 + 1))) < n - Int.toNat (i : Int)
     rw [q4, add1 (by omega)]
     simp only [Int.toNat_natCast]
     omega
   ·rw [if_neg hz] at hr ⊢
    rw [if_neg (by rw [← hr]; exact hz)]
    refine .inr ⟨_, _, _, rfl, rfl, ?_⟩
    simp only [dI, List.map_cons, List.map_nil, E.den, z3, z4, z5, z6, c2, ← hr, q0, q1, q2, q3, q4, q5, q6, q7, q8, q9, q10, q11, q12, q13, q14, q15, q16, q17, q18]
  ·obtain rfl : i = n := by omega
   rw [rise_end (Nat.le_refl _)] at hr
   rw [if_neg (by omega), if_pos (by rw [← hr])]
   refine .inr ⟨_, _, _, rfl, rfl, ?_⟩
   simp only [dI, List.map_cons, List.map_nil, E.den, z0, z1, z2, ← hr, q0, q1, q2, q3, q4, q5, q6, q7, q8, q9, q10, q11, q12, q13, q14, q15, q16, q17, q18]
def e81D : List E := [.var 15, .lit 0, .lit 0, .lit 0, .lit (-1), .lit (-1), .lit 0, .var 0, .var 1, .var 2, .var 3, .var 4, .var 5, .var 6, .var 7, .var 8, .var 9, .var 10, .var 11, .var 12, .var 13]
def L81D : LT := .node (.cmp .lss (.var 6) (.slen 0)) (.node (.not (.cmp .eql (.var 195575034490975600130) (.lit 0))) (.out .ret [.var 0, .lit 0, .lit 0, .var 195575034490975600130, .var 4, .var 5, .var 6, .var 7, .var 8, .var 9, .var 10, .var 11, .var 12, .var 13, .var 14, .var 15, .var 16, .var 17, .var 18, .var 19, .var 20] []) (.next [.var 0, .var 1, .var 2, .var 3, .var 6655776254981958207, .var 5292758198529871969, .ar .add .i64 (.var 6) (.lit 1), .var 7, .var 8, .var 9, .var 10, .var 11, .var 12, .var 13, .var 14, .var 15, .var 16, .var 17, .var 18, .var 19, .var 20] [])) (.out (.exit 2) [.var 0, .var 1, .var 2, .var 3, .var 4, .var 5, .var 6, .var 7, .var 8, .var 9, .var 10, .var 11, .var 12, .var 13, .var 14, .var 15, .var 16, .var 17, .var 18, .var 19, .var 20] [])
def M81D : LT := .node (.bvar 207923683223659972735) (.out (.exit 2) [.var 15, .lit 0, .lit 0, .lit 0, .var 207923683223659972704, .var 207923683223659972705, .var 207923683223659972706, .var 0, .var 1, .var 2, .var 3, .var 4, .var 5, .var 6, .var 7, .var 8, .var 9, .var 10, .var 11, .var 12, .var 13] []) (.out .ret [.var 15, .lit 0, .lit 0, .var 207923683223659972707, .var 207923683223659972709, .var 207923683223659972710, .var 207923683223659972708, .var 0, .var 1, .var 2, .var 3, .var 4, .var 5, .var 6, .var 7, .var 8, .var 9, .var 10, .var 11, .var 12, .var 13] [])
def a35D : List LV := [.v (.agg [.a (.int .i64 (.var 7)), .a (.int .i64 (.var 8)), .a (.int .i64 (.var 9)), .a (.int .i64 (.var 10)), .a (.int .i64 (.var 11)), .a (.int .i64 (.var 12)), .a (.int .i64 (.var 13)), .a (.int .i64 (.var 14)), .a (.int .i64 (.var 15)), .a (.int .i64 (.var 16)), .a (.int .i64 (.var 17)), .a (.int .i64 (.var 18)), .a (.int .i64 (.var 19)), .a (.int .i64 (.var 20))]), .v (.agg [.a (.int .i64 (.el 0 16 2 (.var 6))), .a (.int .i64 (.el 0 16 3 (.var 6))), .a (.int .i64 (.el 0 16 4 (.var 6))), .a (.int .i64 (.el 0 16 5 (.var 6))), .a (.int .i64 (.el 0 16 6 (.var 6))), .a (.int .i64 (.el 0 16 7 (.var 6)))])]
def k1D : E := .ite (.cmp .lss (.var 4) (.lit 0)) (.ite (.cmp .lss (.ite (.cmp .eql (.var 195575034490975600130) (.lit 0)) (.var 195575034490975600129) (.lit 0)) (.var 0)) (.var 4) (.var 6)) (.var 4)
def k2D : E := .ite (.cmp .lss (.var 5) (.lit 0)) (.ite (.cmp .lss (.ite (.cmp .eql (.var 195575034490975600130) (.lit 0)) (.var 195575034490975600128) (.lit 0)) (.var 0)) (.var 5) (.var 6)) (.var 5)
theorem loop81D {T : Env} {w : World} (hT : TubesIn w T) (hc : Con Try.prog (S3 T) shp2 T w) {kill : List Nat} {ob : Ob} (h : chkLoop Try.prog (S3 T) shp2 KF 3000 (2^240) kill pcB L81D M81D e81D qL [(35, 195575034490975600128, a35D)] [(6655776254981958207, k1D), (5292758198529871969, k2D)] ob = true) {ε : Env} (h1 : ε.sa = T.sa) (h2 : ε.sn = T.sn) (h3 : ε.sc = T.sc) (h4 : ε.el = T.el) (hR : ∀ i, R64 (ε.i i))
  (hv : ∀ j, j < 32 → ε.i (207923683223659972704 + j) = clampI (v81 T ((List.range 14).map ε.i ++ [ε.i 15, 0]) j) ∧ ε.b (207923683223659972704 + j) = decide (clampI (v81 T ((List.range 14).map ε.i ++ [ε.i 15, 0]) j) ≠ 0)) : ob.ok Try.prog ε w := by
 have hn := hT.len
 obtain ⟨pl, hpl⟩ : ∃ pl, (List.range 14).map ε.i = pl := ⟨_, rfl⟩
 have hrs : rsV T ((List.range 14).map ε.i ++ [ε.i 15, 0]) = rise T pl (ε.i 15) (T.sn 0) 0 (-1) (-1) := by rw [← hpl]; rfl
 generalize hN : T.sn 0 = n at hn hrs
 have hsm := rise_sm (T := T) (pl := pl) (H := ε.i 15) n 0 (-1) (-1) (by omega) (by unfold sm; omega) (by unfold sm; omega)
 have hii := rise_i (T := T) (pl := pl) (H := ε.i 15) n 0 (-1) (-1)
 have heR : R64 (rise T pl (ε.i 15) n 0 (-1) (-1)).e := by
  have key : ∀ k i m s, R64 (rise T pl (ε.i 15) k i m s).e := by
   intro k
   induction k with
   | zero => intro i m s; exact R64_0
   | succ k ih =>
    intro i m s
    unfold rise
    split
    ·exact ih _ _ _
    ·show R64 (hgt T pl i 2)
     exact val2_R64 _ _ _ _
  exact key _ _ _ _
 generalize hRS : rise T pl (ε.i 15) n 0 (-1) (-1) = rs at hrs hsm hii heR
 have z0 : ε.i 207923683223659972704 = rs.m := by
  have := (hv 0 (by omega)).1
  rw [Nat.add_zero] at this
  rw [this]; simp only [v81, hrs]; exact clampI_eq (sm_R64 hsm.1)
 have z1 : ε.i 207923683223659972705 = rs.s := by have := (hv 1 (by omega)).1; rw [this]; simp only [v81, hrs]; exact clampI_eq (sm_R64 hsm.2)
 have z2 : ε.i 207923683223659972706 = n := by have := (hv 2 (by omega)).1; rw [this]; simp only [v81, hN]; exact clampI_eq (by unfold R64; omega)
 have z3 : ε.i 207923683223659972707 = rs.e := by have := (hv 3 (by omega)).1; rw [this]; simp only [v81, hrs]; exact clampI_eq heR
 have z4 : ε.i 207923683223659972708 = rs.i := by have := (hv 4 (by omega)).1; rw [this]; simp only [v81, hrs]; exact clampI_eq (by unfold R64; omega)
 have z5 : ε.i 207923683223659972709 = rs.m := by have := (hv 5 (by omega)).1; rw [this]; simp only [v81, hrs]; exact clampI_eq (sm_R64 hsm.1)
 have z6 : ε.i 207923683223659972710 = rs.s := by have := (hv 6 (by omega)).1; rw [this]; simp only [v81, hrs]; exact clampI_eq (sm_R64 hsm.2)
 have z31 : ε.b 207923683223659972735 = decide (rs.e = 0) := by
  have := (hv 31 (by omega)).2
  rw [this]; simp only [v81, hrs]
  by_cases hx : rs.e = 0 <;> simp [hx, clampI]
 clear hv
 refine loop_use hmix (by decide) h (hS3 T) hc ⟨h1, h2, h3⟩ (fun l => ∃ (i : Nat) (m s : Int), i ≤ n ∧ sm m ∧ sm s ∧ rise T pl (ε.i 15) (n - i) i m s = rs ∧ l = (((dI ε e81D).set 4 m).set 5 s).set 6 i) (fun l => n - (l.getD 6 0).toNat) ?_ ?_ (fun ob' hq E' a1 a2 a3 => qL_ok hT hq (a1.trans h1) (a2.trans h2) (a3.trans h4)) ?_ ?_
 ·rintro l ⟨i, m, s, hi, hm, hs, _, rfl⟩ x hx
  rcases mem_set hx with hx | rfl
  ·rcases mem_set hx with hx | rfl
   ·rcases mem_set hx with hx | rfl
    ·exact dI_R64 hR (by decide) x hx
    ·exact sm_R64 hm
   ·exact sm_R64 hs
  ·unfold R64; omega
 ·rintro l ⟨i, m, s, hi, _, _, _, rfl⟩ E' hlow
  have q4 : E'.i 6 = i := hlow 6 (by decide)
  simp only [pcB, E.den, CO.den, q4]
  simp
 ·exact ⟨0, -1, -1, by omega, by unfold sm; omega, by unfold sm; omega, by rw [Nat.sub_zero]; exact hRS, rfl⟩
 ·rintro l ⟨i, m, s, hi, hm, hs, hr, rfl⟩ E' hlow hsn hel hcl hke
  have q0 : E'.i 0 = ε.i 15 := hlow 0 (by decide)
  have q1 : E'.i 1 = 0 := hlow 1 (by decide)
  have q2 : E'.i 2 = 0 := hlow 2 (by decide)
  have q3 : E'.i 3 = 0 := hlow 3 (by decide)
  have q4 : E'.i 4 = m := hlow 4 (by decide)
  have q5 : E'.i 5 = s := hlow 5 (by decide)
  have q6 : E'.i 6 = (i : Int) := hlow 6 (by decide)
  have q7 : E'.i 7 = ε.i 0 := hlow 7 (by decide)
  have q8 : E'.i 8 = ε.i 1 := hlow 8 (by decide)
  have q9 : E'.i 9 = ε.i 2 := hlow 9 (by decide)
  have q10 : E'.i 10 = ε.i 3 := hlow 10 (by decide)
  have q11 : E'.i 11 = ε.i 4 := hlow 11 (by decide)
  have q12 : E'.i 12 = ε.i 5 := hlow 12 (by decide)
  have q13 : E'.i 13 = ε.i 6 := hlow 13 (by decide)
  have q14 : E'.i 14 = ε.i 7 := hlow 14 (by decide)
  have q15 : E'.i 15 = ε.i 8 := hlow 15 (by decide)
  have q16 : E'.i 16 = ε.i 9 := hlow 16 (by decide)
  have q17 : E'.i 17 = ε.i 10 := hlow 17 (by decide)
  have q18 : E'.i 18 = ε.i 11 := hlow 18 (by decide)
  have q19 : E'.i 19 = ε.i 12 := hlow 19 (by decide)
  have q20 : E'.i 20 = ε.i 13 := hlow 20 (by decide)
  have hs0 : (E'.sn 0 : Int) = n := by rw [hsn, h2, hN]
  obtain ⟨mem, hcall⟩ := hcl (35, 195575034490975600128, a35D) (by simp)
  have ha : a35D.flatMap (argInts E' mem) = pl ++ (List.range 6).map fun j => cel T i (j + 2) := by
   show [E'.i 7, E'.i 8, E'.i 9, E'.i 10, E'.i 11, E'.i 12, E'.i 13, E'.i 14, E'.i 15, E'.i 16, E'.i 17, E'.i 18, E'.i 19, E'.i 20, clmp (E'.el 0 ((E'.i 6).toNat * 16 + 2)), clmp (E'.el 0 ((E'.i 6).toNat * 16 + 3)), clmp (E'.el 0 ((E'.i 6).toNat * 16 + 4)), clmp (E'.el 0 ((E'.i 6).toNat * 16 + 5)), clmp (E'.el 0 ((E'.i 6).toNat * 16 + 6)), clmp (E'.el 0 ((E'.i 6).toNat * 16 + 7))] = _
   rw [hel, h4, q7, q8, q9, q10, q11, q12, q13, q14, q15, q16, q17, q18, q19, q20, q6, ← hpl]; rfl
  rw [ha] at hcall
  have c0 : E'.i 195575034490975600128 = hgt T pl i 0 := hcall 0 (by omega)
  have c1 : E'.i 195575034490975600129 = hgt T pl i 1 := hcall 1 (by omega)
  have c2 : E'.i 195575034490975600130 = hgt T pl i 2 := hcall 2 (by omega)
  have g1 : E'.i 6655776254981958207 = (k1D.den E').1 := hke (6655776254981958207, k1D) (by simp)
  have g2 : E'.i 5292758198529871969 = (k2D.den E').1 := hke (5292758198529871969, k2D) (by simp)
  clear hcall hcl hlow hke ha
  have s1 : ∀ x y : LT, LT.sel E' (.node (.cmp .lss (.var 6) (.slen 0)) x y) = if (i : Int) < n then x.sel E' else y.sel E' := fun x y => by
   simp only [LT.sel, E.den, co_lss, q6, hs0]
  have s2 : ∀ x y : LT, LT.sel E' (.node (.not (.cmp .eql (.var 195575034490975600130) (.lit 0))) x y) = if hgt T pl i 2 = 0 then y.sel E' else x.sel E' := fun x y => by
   simp only [LT.sel, E.den, CO.den, c2]
   by_cases hz : hgt T pl i 2 = 0 <;> simp [hz]
  have m1 : ∀ x y : LT, LT.sel ε (.node (.bvar 207923683223659972735) x y) = if rs.e = 0 then x.sel ε else y.sel ε := fun x y => by
   simp only [LT.sel, E.den, z31, decide_eq_true_eq]
  unfold L81D M81D
  rw [s1, s2, m1]
  by_cases hlt : i < n
  ·rw [if_pos (by omega)]
   rw [rise_step hlt] at hr
   by_cases hz : hgt T pl i 2 = 0
   ·rw [if_pos hz] at hr ⊢
    simp only [k1D, k2D, E.den, co_lss, co_eql, c0, c1, c2, hz, if_true, q0, q1, q2, q3, q4, q5, q6, q7, q8, q9, q10, q11, q12, q13, q14, q15, q16, q17, q18, q19, q20] at g1 g2
    refine .inl ⟨_, rfl, ⟨i + 1, nxM T pl (ε.i 15) i m, nxS T pl (ε.i 15) i s, hlt, nxM_sm (by omega) hm, nxS_sm (by omega) hs, hr, ?_⟩, ?_⟩
    ·have g1' : E'.i 6655776254981958207 = nxM T pl (ε.i 15) i m := g1
     have g2' : E'.i 5292758198529871969 = nxS T pl (ε.i 15) i s := g2
     simp only [dI, List.map_cons, List.map_nil, E.den, AO.den, g1', g2', q0, q1, q2, q3, q4, q5, q6, q7, q8, q9, q10, q11, q12, q13, q14, q15, q16, q17, q18, q19, q20, add1 (i := i) (by omega)]
     rfl
    ·show n - (Int.toNat (IntKind.i64.wrap (E'.i 6 + 1))) < n - Int.toNat (i : Int)
     rw [q6, add1 (by omega)]
     simp only [Int.toNat_natCast]
     omega
   ·rw [if_neg hz] at hr ⊢
    rw [if_neg (by rw [← hr]; exact hz)]
    refine .inr ⟨_, _, _, rfl, rfl, ?_⟩
    simp only [dI, List.map_cons, List.map_nil, E.den, z3, z4, z5, z6, c2, ← hr, q0, q1, q2, q3, q4, q5, q6, q7, q8, q9, q10, q11, q12, q13, q14, q15, q16, q17, q18, q19, q20]
  ·obtain rfl : i = n := by omega
   rw [rise_end (Nat.le_refl _)] at hr
   rw [if_neg (by omega), if_pos (by rw [← hr])]
   refine .inr ⟨_, _, _, rfl, rfl, ?_⟩
   simp only [dI, List.map_cons, List.map_nil, E.den, z0, z1, z2, ← hr, q0, q1, q2, q3, q4, q5, q6, q7, q8, q9, q10, q11, q12, q13, q14, q15, q16, q17, q18, q19, q20]
end SX
end Go.Proofs.Ytdoigcpcponnhaa
end
