/- Packed: Str. -/
import Derived.Test.YtkkanjeamngdiaaDoorProg
import Derived.Shelf.Strconv.AppendUint10
import Derived.WalkKit
import Derived.KernelRfl
set_option linter.unusedVariables false
set_option linter.unusedSimpArgs false
namespace Go.Proofs.YtkkanjeamngdiaaDoor
section
open Go.RowKit
def ren288 : Go.Shelf.Ren where
 f := fun n => match n with
  | 129 => 39
  | 283 => 35
  | 284 => 36
  | 285 => 37
  | 286 => 38
  | 288 => 33
  | 317 => 40
  | 318 => 41
  | 319 => 42
  | 320 => 43
  | 337 => 44
  | 338 => 45
  | n => n
 t := fun n => match n with
  | 0 => 0
  | 3 => 3
  | 4 => 4
  | 5 => 5
  | 9 => 9
  | 20 => 20
  | 37 => 51
  | 46 => 54
  | 51 => 74
  | 53 => 26
  | 171 => 67
  | 173 => 69
  | 212 => 73
  | 213 => 75
  | 232 => 79
  | 233 => 80
  | n => n
 g := fun n => match n with
  | 17 => 2
  | 18 => 3
  | 19 => 4
  | n => n
theorem lays288 : LaysM.n288 Tryd.prog ren288 where
 mixed := by kernel_rfl
 f129 := by kernel_rfl
 f283 := by kernel_rfl
 f284 := by kernel_rfl
 f285 := by kernel_rfl
 f286 := by kernel_rfl
 f288 := by kernel_rfl
 f317 := by kernel_rfl
 f318 := by kernel_rfl
 f319 := by kernel_rfl
 f320 := by kernel_rfl
 f337 := by kernel_rfl
 f338 := by kernel_rfl
 t0 := Tryd.underlying0
 a0 := Tryd.isAgg0
 z0 := Tryd.sizeOf0
 v0 := Tryd.zeroValue0
 t3 := Tryd.underlying3
 a3 := Tryd.isAgg3
 z3 := Tryd.sizeOf3
 v3 := Tryd.zeroValue3
 t4 := Tryd.underlying4
 a4 := Tryd.isAgg4
 z4 := Tryd.sizeOf4
 v4 := Tryd.zeroValue4
 t5 := Tryd.underlying5
 a5 := Tryd.isAgg5
 z5 := Tryd.sizeOf5
 v5 := Tryd.zeroValue5
 t9 := Tryd.underlying9
 a9 := Tryd.isAgg9
 z9 := Tryd.sizeOf9
 v9 := Tryd.zeroValue9
 t20 := Tryd.underlying20
 a20 := Tryd.isAgg20
 z20 := Tryd.sizeOf20
 v20 := Tryd.zeroValue20
 t37 := Tryd.underlying51
 a37 := Tryd.isAgg51
 z37 := Tryd.sizeOf51
 v37 := Tryd.zeroValue51
 t46 := Tryd.underlying54
 a46 := Tryd.isAgg54
 z46 := Tryd.sizeOf54
 v46 := Tryd.zeroValue54
 t51 := Tryd.underlying74
 a51 := Tryd.isAgg74
 z51 := Tryd.sizeOf74
 v51 := Tryd.zeroValue74
 t53 := Tryd.underlying26
 a53 := Tryd.isAgg26
 z53 := Tryd.sizeOf26
 v53 := Tryd.zeroValue26
 t171 := Tryd.underlying67
 a171 := Tryd.isAgg67
 z171 := Tryd.sizeOf67
 v171 := Tryd.zeroValue67
 t173 := Tryd.underlying69
 a173 := Tryd.isAgg69
 z173 := Tryd.sizeOf69
 v173 := Tryd.zeroValue69
 t212 := Tryd.underlying73
 a212 := Tryd.isAgg73
 z212 := Tryd.sizeOf73
 v212 := Tryd.zeroValue73
 t213 := Tryd.underlying75
 a213 := Tryd.isAgg75
 z213 := Tryd.sizeOf75
 t232 := Tryd.underlying79
 a232 := Tryd.isAgg79
 z232 := Tryd.sizeOf79
 v232 := Tryd.zeroValue79
 t233 := Tryd.underlying80
 a233 := Tryd.isAgg80
 z233 := Tryd.sizeOf80
 v233 := Tryd.zeroValue80
 g17 := by kernel_rfl
 g18 := by kernel_rfl
 g19 := by kernel_rfl
 i0 := by kernel_rfl
 i3 := by kernel_rfl
 i4 := by kernel_rfl
 i5 := by kernel_rfl
 i9 := by kernel_rfl
 i20 := by kernel_rfl
 i37 := by kernel_rfl
 i46 := by kernel_rfl
 i51 := by kernel_rfl
 i53 := by kernel_rfl
 i171 := by kernel_rfl
 i173 := by kernel_rfl
 i212 := by kernel_rfl
 i232 := by kernel_rfl
 i233 := by kernel_rfl
 m17 := by kernel_rfl
 m18 := by kernel_rfl
 m19 := by kernel_rfl
end
end Go.Proofs.YtkkanjeamngdiaaDoor
