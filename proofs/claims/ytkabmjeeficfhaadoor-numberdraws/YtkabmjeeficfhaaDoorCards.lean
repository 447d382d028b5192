/-
  DERIVED. GIVEN WITH THE SEED: THE CARDS: each row of YtkabmjeeficfhaaDoorRows.lean that lists a variable, with what it lists TIED to the program's text (the seventh form; the later family's looks); each row that meets fmt, with fmt's text TOLD by the authors' own Lean function (tested against real Go, not proved from fmt's source: count such statements apart). THE CARD IS WHAT COUNTS. Prove the row's statement (the work); the ties are given (YtkabmjeeficfhaaDoorTie.lean); close each card by the builder's one call (the guide's Derived/Test/ToyasCard.lean, 'card_holds'). Laid BY PROGRAM, IN A SANDBOX (cutbox-door.mjs). By AI agents, Wed Nov 11 2026. No macro, syntax, notation, axiom, sorry.
-/
import Derived.Test.YtkabmjeeficfhaaDoorRows
import GoSem.ClaimSeven
namespace Go.Proofs.YtkabmjeeficfhaaDoor
namespace Rows

/-- THE TIED CARD OF 'dumbwaiterlaw01.NumberDraws'. -/
def numberDrawsCard : Claim7 := { stood := { row := numberDrawsRow, standIns := [], harness := (true, "3c0e1932e0331f5e2b6bd01b1b2b680b18bd3e877282eb3c20390ebed02546b1"), looks := false }, kinds := [], alts := [], laidByText := true, laidKinds := [.data, .data, .data, .data, .pinned, .pinned], laidTests := true, laidLooks := .later }
def NumberDrawsCardSaid : Prop := Claim7.holds Tryd.pinned (.plain (OpenSpec.ofChange numberDrawsSpec)) numberDrawsCard

/-- THE SECOND FORM's CARD OF 'dumbwaiterlaw01.NumberDraws'. -/
def numberDrawsUptoCard : Claim7 := { stood := { row := numberDrawsUptoRow, standIns := [], harness := (true, "3c0e1932e0331f5e2b6bd01b1b2b680b18bd3e877282eb3c20390ebed02546b1"), looks := false }, kinds := [], alts := [], laidByText := true, laidKinds := [.data, .data, .data, .data, .pinned, .pinned], laidTests := true, laidLooks := .later }
def NumberDrawsUptoCardSaid : Prop := Claim7.holds Tryd.pinned (.plain (OpenSpec.upto numberDrawsSpec)) numberDrawsUptoCard
end Rows
end Go.Proofs.YtkabmjeeficfhaaDoor
