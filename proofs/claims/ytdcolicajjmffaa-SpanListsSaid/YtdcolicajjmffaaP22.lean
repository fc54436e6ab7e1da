/- Packed: LcN. -/
import Derived.KernelRfl
import Derived.Test.YtdcolicajjmffaaP1
import Derived.Test.YtdcolicajjmffaaP21
set_option linter.unusedVariables false
set_option linter.unusedSimpArgs false
namespace Go.Proofs.Ytdcolicajjmffaa
section
set_option maxRecDepth 1000000
open Go.RowKit
namespace SX
noncomputable def stepV (s x : FD.Sp) : FD.Sp × Int :=
 if v0 6 [x.lo, x.hi] 2 = 0 then
  if v0 1 [s.lo, s.hi, v0 6 [x.lo, x.hi] 0, v0 6 [x.lo, x.hi] 1] 2 = 0 then (⟨v0 1 [s.lo, s.hi, v0 6 [x.lo, x.hi] 0, v0 6 [x.lo, x.hi] 1] 0, v0 1 [s.lo, s.hi, v0 6 [x.lo, x.hi] 0, v0 6 [x.lo, x.hi] 1] 1, v0_R64 _ _ _, v0_R64 _ _ _⟩, 0)
  else (.zero, v0 1 [s.lo, s.hi, v0 6 [x.lo, x.hi] 0, v0 6 [x.lo, x.hi] 1] 2)
 else (.zero, v0 6 [x.lo, x.hi] 2)
def patSt : List LV := [.v (.agg [.a (.int .i64 (.var 0)), .a (.int .i64 (.var 1))]), .v (.agg [.a (.int .i64 (.var 2)), .a (.int .i64 (.var 3))])]
theorem stepB : readB Try.prog S00 shp0 KF 3000 (2^240) 22 patSt [] = true := by kernel_rfl
def litSt : LV := .tup [.agg [.a (.int .i64 (.ite (.cmp .eql (.var 203744195537112007842) (.lit 0)) (.ite (.cmp .eql (.var 184909600397546296930) (.lit 0)) (.var 184909600397546296928) (.lit 0)) (.lit 0))), .a (.int .i64 (.ite (.cmp .eql (.var 203744195537112007842) (.lit 0)) (.ite (.cmp .eql (.var 184909600397546296930) (.lit 0)) (.var 184909600397546296929) (.lit 0)) (.lit 0)))], .s (.a (.int .i64 (.ite (.cmp .eql (.var 203744195537112007842) (.lit 0)) (.var 184909600397546296930) (.var 203744195537112007842))))]
theorem step_lit : (rd Try.prog KF 3000 (2^240) 22 patSt []).1 = litSt := eq_of_beq (by kernel_rfl)
theorem step_in (s x : FD.Sp) (W : World) : Calls Try.prog 22 #[FD.spv s, FD.spv x] W fun e W' => e = .returned (.tuple #[FD.spv (stepV s x).1, .int .i64 (stepV s x).2]) ∧ Below W.heap.size W W' := by
 obtain ⟨ε, h0, -, -, -, hR, hs, hok⟩ := read_ob hmix (by decide) stepB (fun s L k => v0_R64 s L k) T0 (w := W) (L := [s.lo, s.hi, x.lo, x.hi]) (by
   intro y hy
   simp only [List.mem_cons, List.not_mem_nil, or_false] at hy
   rcases hy with rfl | rfl | rfl | rfl
   ·exact s.ok.1
   ·exact s.ok.2
   ·exact x.ok.1
   ·exact x.ok.2) (fun ε _ e1 e2 e3 e4 f args mem res upd k1 k2 k3 k4 => con00 W ε e1 e2 e3 e4 W (Below.refl _ _) f args mem res upd k1 k2 k3 k4)
 have i0 : ε.i 0 = s.lo := h0 0 (by decide)
 have i1 : ε.i 1 = s.hi := h0 1 (by decide)
 have i2 : ε.i 2 = x.lo := h0 2 (by decide)
 have i3 : ε.i 3 = x.hi := h0 3 (by decide)
 have run := hok rfl W (fun _ => 0) (Below.refl _ _) (by simp) (by simp)
 rw [step_lit] at run
 obtain ⟨m0, c0⟩ := sat_call hs (s := 6) (base := 203744195537112007840) (args := [.v (.agg [.a (.int .i64 (.var 2)), .a (.int .i64 (.var 3))])]) (by kernel_rfl)
 have c0_0 : ε.i 203744195537112007840 = _ := c0 0 (by omega)
 have c0_1 : ε.i 203744195537112007841 = _ := c0 1 (by omega)
 have c0_2 : ε.i 203744195537112007842 = _ := c0 2 (by omega)
 clear c0
 obtain ⟨m1, c1⟩ := sat_call hs (s := 1) (base := 184909600397546296928) (args := [.v (.agg [.a (.int .i64 (.var 0)), .a (.int .i64 (.var 1))]), .v (.agg [.a (.int .i64 (.ite (.cmp .eql (.var 203744195537112007842) (.lit 0)) (.var 203744195537112007840) (.lit 0))), .a (.int .i64 (.ite (.cmp .eql (.var 203744195537112007842) (.lit 0)) (.var 203744195537112007841) (.lit 0)))])]) (by kernel_rfl)
 have c1_0 : ε.i 184909600397546296928 = _ := c1 0 (by omega)
 have c1_1 : ε.i 184909600397546296929 = _ := c1 1 (by omega)
 have c1_2 : ε.i 184909600397546296930 = _ := c1 2 (by omega)
 clear c1
 have ea : (patSt.map (LV.den ε fun _ => 0)).toArray = #[FD.spv s, FD.spv x] := by
  show #[Value.agg #[.int .i64 (ε.i 0), .int .i64 (ε.i 1)], Value.agg #[.int .i64 (ε.i 2), .int .i64 (ε.i 3)]] = _
  rw [i0, i1, i2, i3]
  try rfl
 rw [ea] at run
 refine run.mono fun e w' ⟨q1, _, q3⟩ => ⟨q1.trans ?_, ⟨q3.os, q3.tape, q3.output, q3.size, fun k hk => q3.block k hk (by simp)⟩⟩
 clear run hok q1 q3
 simp only [List.flatMap_cons, List.flatMap_nil, argInts, V1.cells, SV.ints, E.den, List.append_nil, List.singleton_append, List.cons_append, List.nil_append, i0, i1, i2, i3] at c0_0 c0_1 c0_2 c1_0 c1_1 c1_2
 congr 1
 simp only [litSt, LV.den, V1.den, SV.den, AV.den, E.den, CO.den, List.map_cons, List.map_nil]
 have V : ∀ s L k, S00.val s L k = v0 s L k := fun _ _ _ => rfl
 simp only [CO.den, beq_iff_eq, V] at c0_0 c0_1 c0_2 c1_0 c1_1 c1_2 ⊢
 simp only [c0_0, c0_1, c0_2] at c1_0 c1_1 c1_2
 by_cases h2 : v0 6 [x.lo, x.hi] 2 = 0
 ·simp only [h2, if_true] at c1_0 c1_1 c1_2
  by_cases h3 : v0 1 [s.lo, s.hi, v0 6 [x.lo, x.hi] 0, v0 6 [x.lo, x.hi] 1] 2 = 0
  ·simp [stepV, h2, h3, c0_0, c0_1, c0_2, c1_0, c1_1, c1_2, FD.spv]
  ·simp [stepV, h2, h3, c0_0, c0_1, c0_2, c1_0, c1_1, c1_2, FD.spv, FD.Sp.zero]
 ·simp [stepV, h2, c0_0, c0_1, c0_2, FD.spv, FD.Sp.zero]
end SX
end
end Go.Proofs.Ytdcolicajjmffaa
