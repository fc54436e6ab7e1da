/-
  No cell of these rows narrows 'for every input' (looked for: loops, veiled, ifaces, maps, wideKeys, modest, calm, conditions, laid).
  DERIVED. THE GIVEN ROWS OF THIS SEAT. 4 by the template 'for every input the law returns true; each argument reads behind the call as it read before'; 0 by the template 'total and deterministic' (their statements: YtfknnnlbfdeomaaTotals.lean).
  GIVEN WITH THE SEED: the statements are not yours to turn. If you find one false, say at which input.
  Laid BY PROGRAM, IN A SANDBOX (cutbox-rows.mjs): the forced cells as the released guide's own fill.sh prints them over the translation 05fb022237bd58d9… (all of the seat's roots in one cut). By AI agents, Wed Nov 11 2026. No macro, syntax, notation, axiom, sorry.
-/
import Derived.Test.YtfknnnlbfdeomaaChecked
import GoSem.Claim
import GoSem.ClaimJoined
import GoSem.ClaimMapViews
import Derived.JoinedTies
import Derived.KernelRfl
namespace Go.Proofs.Ytfknnnlbfdeomaa
/- THE CELL 'sum', in the pinned program and in every row, IS THE sha256 OF THE DUMP (.gsa) THAT YtfknnnlbfdeomaaProg.lean LOADS. Nothing in Lean hashes anything: it is a label: what it is worth is what the hold of that sum in a sandbox is worth. -/
noncomputable def Try.pinned : Pinned := { name := "ytfknnnlbfdeomaa", sum := "05fb022237bd58d97fee4bc4076ca6d3a85f9a160b28ff20d2048ac15298d366", checked := Try.checked }
namespace Rows
def none {H : Type} : Left H := { results := [], args := [] }

/-- 'ullagelaw03.FlightChecks': WHATEVER THE INPUT: true; the input reads as it did. -/
def flightChecksSpec : ChangeSpec := { name := "flightChecks", fn := fun _ => fun
  | [d1, d2, d3] => { results := [.lit (.bool true)], args := [d1, d2, d3] }
  | _ => none }
def flightChecksRow : OpenClaim := { program := "ytfknnnlbfdeomaa", sum := "05fb022237bd58d97fee4bc4076ca6d3a85f9a160b28ff20d2048ac15298d366", func := "ullage/ullagelaw03.FlightChecks", spec := "flightChecks", apart := false }
def FlightChecksSaid : Prop := flightChecksRow.holds Try.pinned (OpenSpec.ofChange flightChecksSpec)

/-- ITS FALSE NEIGHBOUR: 'it returns false'. Refute it at one input. -/
def flightChecksWrong : ChangeSpec := { name := "flightChecks", fn := fun _ => fun
  | [d1, d2, d3] => { results := [.lit (.bool false)], args := [d1, d2, d3] }
  | _ => none }
def FlightChecksWrongFalsely : Prop := flightChecksRow.holds Try.pinned (OpenSpec.ofChange flightChecksWrong)

/-- 'ullagelaw03.FlightRises': WHATEVER THE INPUT: true; the input reads as it did. -/
def flightRisesSpec : ChangeSpec := { name := "flightRises", fn := fun _ => fun
  | [d1, d2, d3, d4, d5] => { results := [.lit (.bool true)], args := [d1, d2, d3, d4, d5] }
  | _ => none }
def flightRisesRow : OpenClaim := { program := "ytfknnnlbfdeomaa", sum := "05fb022237bd58d97fee4bc4076ca6d3a85f9a160b28ff20d2048ac15298d366", func := "ullage/ullagelaw03.FlightRises", spec := "flightRises", unfollowed := true, recurses := true, named := ["math/bits.divideError", "math/bits.overflowError"], apart := false }
def FlightRisesSaid : Prop := flightRisesRow.holds Try.pinned (OpenSpec.ofChange flightRisesSpec)

/-- ITS FALSE NEIGHBOUR: 'it returns false'. Refute it at one input. -/
def flightRisesWrong : ChangeSpec := { name := "flightRises", fn := fun _ => fun
  | [d1, d2, d3, d4, d5] => { results := [.lit (.bool false)], args := [d1, d2, d3, d4, d5] }
  | _ => none }
def FlightRisesWrongFalsely : Prop := flightRisesRow.holds Try.pinned (OpenSpec.ofChange flightRisesWrong)

/-- 'ullagelaw03.FlightBack': WHATEVER THE INPUT: true; the input reads as it did. -/
def flightBackSpec : ChangeSpec := { name := "flightBack", fn := fun _ => fun
  | [d1, d2, d3] => { results := [.lit (.bool true)], args := [d1, d2, d3] }
  | _ => none }
def flightBackRow : OpenClaim := { program := "ytfknnnlbfdeomaa", sum := "05fb022237bd58d97fee4bc4076ca6d3a85f9a160b28ff20d2048ac15298d366", func := "ullage/ullagelaw03.FlightBack", spec := "flightBack", unfollowed := true, recurses := true, named := ["math/bits.divideError", "math/bits.overflowError"], apart := false }
def FlightBackSaid : Prop := flightBackRow.holds Try.pinned (OpenSpec.ofChange flightBackSpec)

/-- ITS FALSE NEIGHBOUR: 'it returns false'. Refute it at one input. -/
def flightBackWrong : ChangeSpec := { name := "flightBack", fn := fun _ => fun
  | [d1, d2, d3] => { results := [.lit (.bool false)], args := [d1, d2, d3] }
  | _ => none }
def FlightBackWrongFalsely : Prop := flightBackRow.holds Try.pinned (OpenSpec.ofChange flightBackWrong)

/-- 'ullagelaw03.FlightMeets': WHATEVER THE INPUT: true; the input reads as it did. -/
def flightMeetsSpec : ChangeSpec := { name := "flightMeets", fn := fun _ => fun
  | [d1, d2, d3, d4] => { results := [.lit (.bool true)], args := [d1, d2, d3, d4] }
  | _ => none }
def flightMeetsRow : OpenClaim := { program := "ytfknnnlbfdeomaa", sum := "05fb022237bd58d97fee4bc4076ca6d3a85f9a160b28ff20d2048ac15298d366", func := "ullage/ullagelaw03.FlightMeets", spec := "flightMeets", unfollowed := true, recurses := true, named := ["math/bits.divideError", "math/bits.overflowError"], apart := false }
def FlightMeetsSaid : Prop := flightMeetsRow.holds Try.pinned (OpenSpec.ofChange flightMeetsSpec)

/-- ITS FALSE NEIGHBOUR: 'it returns false'. Refute it at one input. -/
def flightMeetsWrong : ChangeSpec := { name := "flightMeets", fn := fun _ => fun
  | [d1, d2, d3, d4] => { results := [.lit (.bool false)], args := [d1, d2, d3, d4] }
  | _ => none }
def FlightMeetsWrongFalsely : Prop := flightMeetsRow.holds Try.pinned (OpenSpec.ofChange flightMeetsWrong)

/- THE SECOND FORM. 'bulk': how many values and letters a reading holds, each counted each time it is reached (what is shared counts as often as it is met; a slice's spare places count too). A statement '..UptoSaid' is the law's where the arguments, and the package variables that the reading takes, are together of bulk at most 1048576: NARROWER than '..Said'. Prove '..Said' where nothing that the law and all that it calls make is longer than what came in: it says more and counts as full. Else prove '..UptoSaid'. A law counts once. -/
mutual
def uptoBulk {H : Type} : DataW H → Nat
  | .lit (.string bytes) => bytes.length + 1
  | .lit _ => 1
  | .nil => 1
  | .ptr d => uptoBulk d + 1
  | .slice elems spare => uptoBulkAll elems + uptoBulkAll spare + 1
  | .agg parts => uptoBulkAll parts + 1
  | .iface _ d => uptoBulk d + 1
  | .map entries => uptoBulkEntries entries + 1
  | .held _ => 1
def uptoBulkAll {H : Type} : List (DataW H) → Nat
  | [] => 0
  | d :: r => uptoBulk d + uptoBulkAll r
def uptoBulkEntries {H : Type} : List (Lit × DataW H) → Nat
  | [] => 0
  | x :: r => uptoBulkEntry x + uptoBulkEntries r
def uptoBulkEntry {H : Type} : Lit × DataW H → Nat
  | (.string bytes, d) => bytes.length + uptoBulk d + 1
  | (_, d) => uptoBulk d + 1
 end
def uptoSmall : (H : Type) → List (DataW H) → Bool := fun _ ds => decide (uptoBulkAll ds ≤ 1048576)
def OpenSpec.upto (s : _root_.Go.ChangeSpec) : _root_.Go.OpenSpec := { _root_.Go.OpenSpec.ofChange s with cond := some uptoSmall }

/-- 'ullagelaw03.FlightChecks', WHERE WHAT IT READS IS OF BULK AT MOST 1048576: true; the input reads as it did. -/
def flightChecksUptoRow : OpenClaim := { program := "ytfknnnlbfdeomaa", sum := "05fb022237bd58d97fee4bc4076ca6d3a85f9a160b28ff20d2048ac15298d366", func := "ullage/ullagelaw03.FlightChecks", spec := "flightChecks", apart := false, narrowed := true }
def FlightChecksUptoSaid : Prop := flightChecksUptoRow.holds Try.pinned (OpenSpec.upto flightChecksSpec)

/-- 'ullagelaw03.FlightRises', WHERE WHAT IT READS IS OF BULK AT MOST 1048576: true; the input reads as it did. -/
def flightRisesUptoRow : OpenClaim := { program := "ytfknnnlbfdeomaa", sum := "05fb022237bd58d97fee4bc4076ca6d3a85f9a160b28ff20d2048ac15298d366", func := "ullage/ullagelaw03.FlightRises", spec := "flightRises", unfollowed := true, recurses := true, named := ["math/bits.divideError", "math/bits.overflowError"], apart := false, narrowed := true }
def FlightRisesUptoSaid : Prop := flightRisesUptoRow.holds Try.pinned (OpenSpec.upto flightRisesSpec)

/-- 'ullagelaw03.FlightBack', WHERE WHAT IT READS IS OF BULK AT MOST 1048576: true; the input reads as it did. -/
def flightBackUptoRow : OpenClaim := { program := "ytfknnnlbfdeomaa", sum := "05fb022237bd58d97fee4bc4076ca6d3a85f9a160b28ff20d2048ac15298d366", func := "ullage/ullagelaw03.FlightBack", spec := "flightBack", unfollowed := true, recurses := true, named := ["math/bits.divideError", "math/bits.overflowError"], apart := false, narrowed := true }
def FlightBackUptoSaid : Prop := flightBackUptoRow.holds Try.pinned (OpenSpec.upto flightBackSpec)

/-- 'ullagelaw03.FlightMeets', WHERE WHAT IT READS IS OF BULK AT MOST 1048576: true; the input reads as it did. -/
def flightMeetsUptoRow : OpenClaim := { program := "ytfknnnlbfdeomaa", sum := "05fb022237bd58d97fee4bc4076ca6d3a85f9a160b28ff20d2048ac15298d366", func := "ullage/ullagelaw03.FlightMeets", spec := "flightMeets", unfollowed := true, recurses := true, named := ["math/bits.divideError", "math/bits.overflowError"], apart := false, narrowed := true }
def FlightMeetsUptoSaid : Prop := flightMeetsUptoRow.holds Try.pinned (OpenSpec.upto flightMeetsSpec)

end Rows
end Go.Proofs.Ytfknnnlbfdeomaa
