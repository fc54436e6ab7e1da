/-
  DERIVED. GIVEN WITH THE SEED: THE CARDS: each row of YtkkanjeamngdiaaDoorRows.lean that lists a variable, with what it lists TIED to the program's text (the seventh form; the later family's looks); each row that meets fmt, with fmt's text TOLD by the authors' own Lean function (tested against real Go, not proved from fmt's source: count such statements apart). THE CARD IS WHAT COUNTS. Prove the row's statement (the work); the ties are given (YtkkanjeamngdiaaDoorTie.lean); close each card by the builder's one call (the guide's Derived/Test/ToyasCard.lean, 'card_holds'). Laid BY PROGRAM, IN A SANDBOX (cutbox-door.mjs). By AI agents, Wed Nov 11 2026. No macro, syntax, notation, axiom, sorry.
-/
import Derived.Test.YtkkanjeamngdiaaDoorRows
import GoSem.ClaimSeven
namespace Go.Proofs.YtkkanjeamngdiaaDoor
namespace Rows

/-- THE TIED CARD OF 'ullagelaw01.SpanLines'. -/
def spanLinesCard : Claim7 := { stood := { row := spanLinesRow, standIns := [], harness := (true, "5c0f846284c5fb6e6c363bd5e8dd1448db7c6a8cf2081ebad719155683c8feac"), looks := false }, kinds := [], alts := [], laidByText := true, laidKinds := [.data, .data, .data], laidTests := true, laidLooks := .later }
def SpanLinesCardSaid : Prop := Claim7.holds Tryd.pinned (.plain (OpenSpec.ofChange spanLinesSpec)) spanLinesCard

/-- THE SECOND FORM's CARD OF 'ullagelaw01.SpanLines'. -/
def spanLinesUptoCard : Claim7 := { stood := { row := spanLinesUptoRow, standIns := [], harness := (true, "5c0f846284c5fb6e6c363bd5e8dd1448db7c6a8cf2081ebad719155683c8feac"), looks := false }, kinds := [], alts := [], laidByText := true, laidKinds := [.data, .data, .data], laidTests := true, laidLooks := .later }
def SpanLinesUptoCardSaid : Prop := Claim7.holds Tryd.pinned (.plain (OpenSpec.upto spanLinesSpec)) spanLinesUptoCard
end Rows
end Go.Proofs.YtkkanjeamngdiaaDoor
