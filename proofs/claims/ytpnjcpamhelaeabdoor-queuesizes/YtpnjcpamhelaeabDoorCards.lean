/-
  DERIVED. GIVEN WITH THE SEED: THE CARDS: each row of YtpnjcpamhelaeabDoorRows.lean that lists a variable, with what it lists TIED to the program's text (the seventh form; the later family's looks); each row that meets fmt, with fmt's text TOLD by the authors' own Lean function (tested against real Go, not proved from fmt's source: count such statements apart). THE CARD IS WHAT COUNTS. Prove the row's statement (the work); the ties are given (YtpnjcpamhelaeabDoorTie.lean); close each card by the builder's one call (the guide's Derived/Test/ToyasCard.lean, 'card_holds'). Laid BY PROGRAM, IN A SANDBOX (cutbox-door.mjs). By AI agents, Wed Nov 11 2026. No macro, syntax, notation, axiom, sorry.
-/
import Derived.Test.YtpnjcpamhelaeabDoorRows
import GoSem.ClaimSeven
namespace Go.Proofs.YtpnjcpamhelaeabDoor
namespace Rows

/-- THE TIED CARD OF 'dumbwaiterlaw06.QueueSizes'. -/
def queueSizesCard : Claim7 := { stood := { row := queueSizesRow, standIns := [], harness := (true, "f1a8e836c0855b16528b5af23001d01d9b68c89ccb0080e5f4999c98f7e2f1e1"), looks := false }, kinds := [], alts := [], laidByText := true, laidKinds := [.data], laidTests := true, laidLooks := .later }
def QueueSizesCardSaid : Prop := Claim7.holds Tryd.pinned (.plain (OpenSpec.ofChange queueSizesSpec)) queueSizesCard

/-- THE TIED CARD OF 'dumbwaiterlaw06.QueueErrs'. -/
def queueErrsCard : Claim7 := { stood := { row := queueErrsRow, standIns := [], harness := (true, "f1a8e836c0855b16528b5af23001d01d9b68c89ccb0080e5f4999c98f7e2f1e1"), looks := false }, kinds := [], alts := [], laidByText := true, laidKinds := [.data], laidTests := true, laidLooks := .later }
def QueueErrsCardSaid : Prop := Claim7.holds Tryd.pinned (.plain (OpenSpec.ofChange queueErrsSpec)) queueErrsCard

/-- THE TIED CARD OF 'dumbwaiterlaw06.QueueLong'. -/
def queueLongCard : Claim7 := { stood := { row := queueLongRow, standIns := [], harness := (true, "f1a8e836c0855b16528b5af23001d01d9b68c89ccb0080e5f4999c98f7e2f1e1"), looks := false }, kinds := [], alts := [], laidByText := true, laidKinds := [.data], laidTests := true, laidLooks := .later }
def QueueLongCardSaid : Prop := Claim7.holds Tryd.pinned (.plain (OpenSpec.ofChange queueLongSpec)) queueLongCard

/-- THE SECOND FORM's CARD OF 'dumbwaiterlaw06.QueueSizes'. -/
def queueSizesUptoCard : Claim7 := { stood := { row := queueSizesUptoRow, standIns := [], harness := (true, "f1a8e836c0855b16528b5af23001d01d9b68c89ccb0080e5f4999c98f7e2f1e1"), looks := false }, kinds := [], alts := [], laidByText := true, laidKinds := [.data], laidTests := true, laidLooks := .later }
def QueueSizesUptoCardSaid : Prop := Claim7.holds Tryd.pinned (.plain (OpenSpec.upto queueSizesSpec)) queueSizesUptoCard

/-- THE SECOND FORM's CARD OF 'dumbwaiterlaw06.QueueErrs'. -/
def queueErrsUptoCard : Claim7 := { stood := { row := queueErrsUptoRow, standIns := [], harness := (true, "f1a8e836c0855b16528b5af23001d01d9b68c89ccb0080e5f4999c98f7e2f1e1"), looks := false }, kinds := [], alts := [], laidByText := true, laidKinds := [.data], laidTests := true, laidLooks := .later }
def QueueErrsUptoCardSaid : Prop := Claim7.holds Tryd.pinned (.plain (OpenSpec.upto queueErrsSpec)) queueErrsUptoCard

/-- THE SECOND FORM's CARD OF 'dumbwaiterlaw06.QueueLong'. -/
def queueLongUptoCard : Claim7 := { stood := { row := queueLongUptoRow, standIns := [], harness := (true, "f1a8e836c0855b16528b5af23001d01d9b68c89ccb0080e5f4999c98f7e2f1e1"), looks := false }, kinds := [], alts := [], laidByText := true, laidKinds := [.data], laidTests := true, laidLooks := .later }
def QueueLongUptoCardSaid : Prop := Claim7.holds Tryd.pinned (.plain (OpenSpec.upto queueLongSpec)) queueLongUptoCard
end Rows
end Go.Proofs.YtpnjcpamhelaeabDoor
