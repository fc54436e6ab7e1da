/- Packed: LcD. -/
import Derived.KernelRfl
import Derived.Test.YtdcolicajjmffaaP3
import Derived.Test.YtdcolicajjmffaaP22
set_option linter.unusedVariables false
set_option linter.unusedSimpArgs false
namespace Go.Proofs.Ytdcolicajjmffaa
section
set_option maxRecDepth 1000000
open Go.RowKit
namespace SX
noncomputable def stepD (s : FD.Sp) (x : FP.Pr) : FD.Sp × Int :=
 if v0 3 [x.a.lo, x.a.hi, x.b.lo, x.b.hi] 2 = 0 then
  if v0 1 [s.lo, s.hi, v0 3 [x.a.lo, x.a.hi, x.b.lo, x.b.hi] 0, v0 3 [x.a.lo, x.a.hi, x.b.lo, x.b.hi] 1] 2 = 0 then (⟨v0 1 [s.lo, s.hi, v0 3 [x.a.lo, x.a.hi, x.b.lo, x.b.hi] 0, v0 3 [x.a.lo, x.a.hi, x.b.lo, x.b.hi] 1] 0, v0 1 [s.lo, s.hi, v0 3 [x.a.lo, x.a.hi, x.b.lo, x.b.hi] 0, v0 3 [x.a.lo, x.a.hi, x.b.lo, x.b.hi] 1] 1, v0_R64 _ _ _, v0_R64 _ _ _⟩, 0)
  else (.zero, v0 1 [s.lo, s.hi, v0 3 [x.a.lo, x.a.hi, x.b.lo, x.b.hi] 0, v0 3 [x.a.lo, x.a.hi, x.b.lo, x.b.hi] 1] 2)
 else (.zero, v0 3 [x.a.lo, x.a.hi, x.b.lo, x.b.hi] 2)
def patSD : List LV := [.v (.agg [.a (.int .i64 (.var 0)), .a (.int .i64 (.var 1))]), .v (.agg [.a (.int .i64 (.var 2)), .a (.int .i64 (.var 3)), .a (.int .i64 (.var 4)), .a (.int .i64 (.var 5))])]
theorem stepDB : readB Try.prog S00 shp0 KF 3000 (2^240) 19 patSD [] = true := by kernel_rfl
def litSD : LV := .tup [.agg [.a (.int .i64 (.ite (.cmp .eql (.var 169608831948245483906) (.lit 0)) (.ite (.cmp .eql (.var 197866436551650316066) (.lit 0)) (.var 197866436551650316064) (.lit 0)) (.lit 0))), .a (.int .i64 (.ite (.cmp .eql (.var 169608831948245483906) (.lit 0)) (.ite (.cmp .eql (.var 197866436551650316066) (.lit 0)) (.var 197866436551650316065) (.lit 0)) (.lit 0)))], .s (.a (.int .i64 (.ite (.cmp .eql (.var 169608831948245483906) (.lit 0)) (.var 197866436551650316066) (.var 169608831948245483906))))]
theorem stepD_lit : (rd Try.prog KF 3000 (2^240) 19 patSD []).1 = litSD := eq_of_beq (by kernel_rfl)
theorem stepD_in (s : FD.Sp) (x : FP.Pr) (W : World) : Calls Try.prog 19 #[FD.spv s, FP.prv x] W fun e W' => e = .returned (.tuple #[FD.spv (stepD s x).1, .int .i64 (stepD s x).2]) ∧ Below W.heap.size W W' := by
 obtain ⟨ε, h0, -, -, -, hR, hs, hok⟩ := read_ob hmix (by decide) stepDB (fun s L k => v0_R64 s L k) T0 (w := W) (L := [s.lo, s.hi, x.a.lo, x.a.hi, x.b.lo, x.b.hi]) (by
   intro y hy
   simp only [List.mem_cons, List.not_mem_nil, or_false] at hy
   rcases hy with rfl | rfl | rfl | rfl | rfl | rfl
   ·exact s.ok.1
   ·exact s.ok.2
   ·exact x.a.ok.1
   ·exact x.a.ok.2
   ·exact x.b.ok.1
   ·exact x.b.ok.2) (fun ε _ e1 e2 e3 e4 f args mem res upd k1 k2 k3 k4 => con00 W ε e1 e2 e3 e4 W (Below.refl _ _) f args mem res upd k1 k2 k3 k4)
 have i0 : ε.i 0 = s.lo := h0 0 (by decide)
 have i1 : ε.i 1 = s.hi := h0 1 (by decide)
 have i2 : ε.i 2 = x.a.lo := h0 2 (by decide)
 have i3 : ε.i 3 = x.a.hi := h0 3 (by decide)
 have i4 : ε.i 4 = x.b.lo := h0 4 (by decide)
 have i5 : ε.i 5 = x.b.hi := h0 5 (by decide)
 have run := hok rfl W (fun _ => 0) (Below.refl _ _) (by simp) (by simp)
 rw [stepD_lit] at run
 obtain ⟨m0, c0⟩ := sat_call hs (s := 3) (base := 169608831948245483904) (args := [.v (.agg [.a (.int .i64 (.var 2)), .a (.int .i64 (.var 3))]), .v (.agg [.a (.int .i64 (.var 4)), .a (.int .i64 (.var 5))])]) (by kernel_rfl)
 have c0_0 : ε.i 169608831948245483904 = _ := c0 0 (by omega)
 have c0_1 : ε.i 169608831948245483905 = _ := c0 1 (by omega)
 have c0_2 : ε.i 169608831948245483906 = _ := c0 2 (by omega)
 clear c0
 obtain ⟨m1, c1⟩ := sat_call hs (s := 1) (base := 197866436551650316064) (args := [.v (.agg [.a (.int .i64 (.var 0)), .a (.int .i64 (.var 1))]), .v (.agg [.a (.int .i64 (.ite (.cmp .eql (.var 169608831948245483906) (.lit 0)) (.var 169608831948245483904) (.lit 0))), .a (.int .i64 (.ite (.cmp .eql (.var 169608831948245483906) (.lit 0)) (.var 169608831948245483905) (.lit 0)))])]) (by kernel_rfl)
 have c1_0 : ε.i 197866436551650316064 = _ := c1 0 (by omega)
 have c1_1 : ε.i 197866436551650316065 = _ := c1 1 (by omega)
 have c1_2 : ε.i 197866436551650316066 = _ := c1 2 (by omega)
 clear c1
 have ea : (patSD.map (LV.den ε fun _ => 0)).toArray = #[FD.spv s, FP.prv x] := by
  show #[Value.agg #[.int .i64 (ε.i 0), .int .i64 (ε.i 1)], Value.agg #[.int .i64 (ε.i 2), .int .i64 (ε.i 3), .int .i64 (ε.i 4), .int .i64 (ε.i 5)]] = _
  rw [i0, i1, i2, i3, i4, i5]
  try rfl
 rw [ea] at run
 refine run.mono fun e w' ⟨q1, _, q3⟩ => ⟨q1.trans ?_, ⟨q3.os, q3.tape, q3.output, q3.size, fun k hk => q3.block k hk (by simp)⟩⟩
 clear run hok q1 q3
 simp only [List.flatMap_cons, List.flatMap_nil, argInts, V1.cells, SV.ints, E.den, List.append_nil, List.singleton_append, List.cons_append, List.nil_append, i0, i1, i2, i3, i4, i5] at c0_0 c0_1 c0_2 c1_0 c1_1 c1_2
 congr 1
 simp only [litSD, LV.den, V1.den, SV.den, AV.den, E.den, CO.den, List.map_cons, List.map_nil]
 have V : ∀ s L k, S00.val s L k = v0 s L k := fun _ _ _ => rfl
 simp only [CO.den, beq_iff_eq, V] at c0_0 c0_1 c0_2 c1_0 c1_1 c1_2 ⊢
 simp only [c0_0, c0_1, c0_2] at c1_0 c1_1 c1_2
 by_cases h2 : v0 3 [x.a.lo, x.a.hi, x.b.lo, x.b.hi] 2 = 0
 ·simp only [h2, if_true] at c1_0 c1_1 c1_2
  by_cases h3 : v0 1 [s.lo, s.hi, v0 3 [x.a.lo, x.a.hi, x.b.lo, x.b.hi] 0, v0 3 [x.a.lo, x.a.hi, x.b.lo, x.b.hi] 1] 2 = 0
  ·simp [stepD, h2, h3, c0_0, c0_1, c0_2, c1_0, c1_1, c1_2, FD.spv]
  ·simp [stepD, h2, h3, c0_0, c0_1, c0_2, c1_0, c1_1, c1_2, FD.spv, FD.Sp.zero]
 ·simp [stepD, h2, c0_0, c0_1, c0_2, FD.spv, FD.Sp.zero]
end SX
end
end Go.Proofs.Ytdcolicajjmffaa
