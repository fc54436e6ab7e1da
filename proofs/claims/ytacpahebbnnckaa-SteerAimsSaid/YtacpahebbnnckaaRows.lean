/-
  No cell of these rows narrows 'for every input' (looked for: loops, veiled, ifaces, maps, wideKeys, modest, calm, conditions, laid).
  DERIVED. THE GIVEN ROWS OF THIS SEAT. 3 by the template 'for every input the law returns true; each argument reads behind the call as it read before'; 0 by the template 'total and deterministic' (their statements: YtacpahebbnnckaaTotals.lean).
  GIVEN WITH THE SEED: the statements are not yours to turn. If you find one false, say at which input.
  Laid BY PROGRAM, IN A SANDBOX (cutbox-rows.mjs): the forced cells as the released guide's own fill.sh prints them over the translation 40ccae65ade03c73… (all of the seat's roots in one cut). By AI agents, Wed Nov 11 2026. No macro, syntax, notation, axiom, sorry.
-/
import Derived.Test.YtacpahebbnnckaaChecked
import GoSem.Claim
import GoSem.ClaimJoined
import GoSem.ClaimMapViews
import Derived.JoinedTies
import Derived.KernelRfl
namespace Go.Proofs.Ytacpahebbnnckaa
/- THE CELL 'sum', in the pinned program and in every row, IS THE sha256 OF THE DUMP (.gsa) THAT YtacpahebbnnckaaProg.lean LOADS. Nothing in Lean hashes anything: it is a label: what it is worth is what the hold of that sum in a sandbox is worth. -/
noncomputable def Try.pinned : Pinned := { name := "ytacpahebbnnckaa", sum := "40ccae65ade03c73898d64217336a695aa3a600a774cc96c9ccfc54cde8f3bc4", checked := Try.checked }
namespace Rows
def none {H : Type} : Left H := { results := [], args := [] }

/-- 'ullagelaw05.SteerAims': WHATEVER THE INPUT: true; the input reads as it did. -/
def steerAimsSpec : ChangeSpec := { name := "steerAims", fn := fun _ => fun
  | [d1, d2, d3, d4] => { results := [.lit (.bool true)], args := [d1, d2, d3, d4] }
  | _ => none }
def steerAimsRow : OpenClaim := { program := "ytacpahebbnnckaa", sum := "40ccae65ade03c73898d64217336a695aa3a600a774cc96c9ccfc54cde8f3bc4", func := "ullage/ullagelaw05.SteerAims", spec := "steerAims", unfollowed := true, recurses := true, named := ["math/bits.divideError", "math/bits.overflowError"], apart := false }
def SteerAimsSaid : Prop := steerAimsRow.holds Try.pinned (OpenSpec.ofChange steerAimsSpec)

/-- ITS FALSE NEIGHBOUR: 'it returns false'. Refute it at one input. -/
def steerAimsWrong : ChangeSpec := { name := "steerAims", fn := fun _ => fun
  | [d1, d2, d3, d4] => { results := [.lit (.bool false)], args := [d1, d2, d3, d4] }
  | _ => none }
def SteerAimsWrongFalsely : Prop := steerAimsRow.holds Try.pinned (OpenSpec.ofChange steerAimsWrong)

/-- 'ullagelaw05.SteerMixes': WHATEVER THE INPUT: true; the input reads as it did. -/
def steerMixesSpec : ChangeSpec := { name := "steerMixes", fn := fun _ => fun
  | [d1, d2, d3] => { results := [.lit (.bool true)], args := [d1, d2, d3] }
  | _ => none }
def steerMixesRow : OpenClaim := { program := "ytacpahebbnnckaa", sum := "40ccae65ade03c73898d64217336a695aa3a600a774cc96c9ccfc54cde8f3bc4", func := "ullage/ullagelaw05.SteerMixes", spec := "steerMixes", unfollowed := true, recurses := true, apart := false }
def SteerMixesSaid : Prop := steerMixesRow.holds Try.pinned (OpenSpec.ofChange steerMixesSpec)

/-- ITS FALSE NEIGHBOUR: 'it returns false'. Refute it at one input. -/
def steerMixesWrong : ChangeSpec := { name := "steerMixes", fn := fun _ => fun
  | [d1, d2, d3] => { results := [.lit (.bool false)], args := [d1, d2, d3] }
  | _ => none }
def SteerMixesWrongFalsely : Prop := steerMixesRow.holds Try.pinned (OpenSpec.ofChange steerMixesWrong)

/-- 'ullagelaw05.SteerSwivels': WHATEVER THE INPUT: true; the input reads as it did. -/
def steerSwivelsSpec : ChangeSpec := { name := "steerSwivels", fn := fun _ => fun
  | [d1, d2, d3, d4, d5] => { results := [.lit (.bool true)], args := [d1, d2, d3, d4, d5] }
  | _ => none }
def steerSwivelsRow : OpenClaim := { program := "ytacpahebbnnckaa", sum := "40ccae65ade03c73898d64217336a695aa3a600a774cc96c9ccfc54cde8f3bc4", func := "ullage/ullagelaw05.SteerSwivels", spec := "steerSwivels", unfollowed := true, recurses := true, named := ["math/bits.divideError", "math/bits.overflowError"], apart := false }
def SteerSwivelsSaid : Prop := steerSwivelsRow.holds Try.pinned (OpenSpec.ofChange steerSwivelsSpec)

/-- ITS FALSE NEIGHBOUR: 'it returns false'. Refute it at one input. -/
def steerSwivelsWrong : ChangeSpec := { name := "steerSwivels", fn := fun _ => fun
  | [d1, d2, d3, d4, d5] => { results := [.lit (.bool false)], args := [d1, d2, d3, d4, d5] }
  | _ => none }
def SteerSwivelsWrongFalsely : Prop := steerSwivelsRow.holds Try.pinned (OpenSpec.ofChange steerSwivelsWrong)

/- THE SECOND FORM. 'bulk': how many values and letters a reading holds, each counted each time it is reached (what is shared counts as often as it is met; a slice's spare places count too). A statement '..UptoSaid' is the law's where the arguments, and the package variables that the reading takes, are together of bulk at most 1048576: NARROWER than '..Said'. Prove '..Said' where nothing that the law and all that it calls make is longer than what came in: it says more and counts as full. Else prove '..UptoSaid'. A law counts once. -/
mutual
def uptoBulk {H : Type} : DataW H → Nat
  | .lit (.string bytes) => bytes.length + 1
  | .lit _ => 1
  | .nil => 1
  | .ptr d => uptoBulk d + 1
  | .slice elems spare => uptoBulkAll elems + uptoBulkAll spare + 1
  | .agg parts => uptoBulkAll parts + 1
  | .iface _ d => uptoBulk d + 1
  | .map entries => uptoBulkEntries entries + 1
  | .held _ => 1
def uptoBulkAll {H : Type} : List (DataW H) → Nat
  | [] => 0
  | d :: r => uptoBulk d + uptoBulkAll r
def uptoBulkEntries {H : Type} : List (Lit × DataW H) → Nat
  | [] => 0
  | x :: r => uptoBulkEntry x + uptoBulkEntries r
def uptoBulkEntry {H : Type} : Lit × DataW H → Nat
  | (.string bytes, d) => bytes.length + uptoBulk d + 1
  | (_, d) => uptoBulk d + 1
 end
def uptoSmall : (H : Type) → List (DataW H) → Bool := fun _ ds => decide (uptoBulkAll ds ≤ 1048576)
def OpenSpec.upto (s : _root_.Go.ChangeSpec) : _root_.Go.OpenSpec := { _root_.Go.OpenSpec.ofChange s with cond := some uptoSmall }

/-- 'ullagelaw05.SteerAims', WHERE WHAT IT READS IS OF BULK AT MOST 1048576: true; the input reads as it did. -/
def steerAimsUptoRow : OpenClaim := { program := "ytacpahebbnnckaa", sum := "40ccae65ade03c73898d64217336a695aa3a600a774cc96c9ccfc54cde8f3bc4", func := "ullage/ullagelaw05.SteerAims", spec := "steerAims", unfollowed := true, recurses := true, named := ["math/bits.divideError", "math/bits.overflowError"], apart := false, narrowed := true }
def SteerAimsUptoSaid : Prop := steerAimsUptoRow.holds Try.pinned (OpenSpec.upto steerAimsSpec)

/-- 'ullagelaw05.SteerMixes', WHERE WHAT IT READS IS OF BULK AT MOST 1048576: true; the input reads as it did. -/
def steerMixesUptoRow : OpenClaim := { program := "ytacpahebbnnckaa", sum := "40ccae65ade03c73898d64217336a695aa3a600a774cc96c9ccfc54cde8f3bc4", func := "ullage/ullagelaw05.SteerMixes", spec := "steerMixes", unfollowed := true, recurses := true, apart := false, narrowed := true }
def SteerMixesUptoSaid : Prop := steerMixesUptoRow.holds Try.pinned (OpenSpec.upto steerMixesSpec)

/-- 'ullagelaw05.SteerSwivels', WHERE WHAT IT READS IS OF BULK AT MOST 1048576: true; the input reads as it did. -/
def steerSwivelsUptoRow : OpenClaim := { program := "ytacpahebbnnckaa", sum := "40ccae65ade03c73898d64217336a695aa3a600a774cc96c9ccfc54cde8f3bc4", func := "ullage/ullagelaw05.SteerSwivels", spec := "steerSwivels", unfollowed := true, recurses := true, named := ["math/bits.divideError", "math/bits.overflowError"], apart := false, narrowed := true }
def SteerSwivelsUptoSaid : Prop := steerSwivelsUptoRow.holds Try.pinned (OpenSpec.upto steerSwivelsSpec)

end Rows
end Go.Proofs.Ytacpahebbnnckaa
