/-
  DERIVED. GIVEN WITH THE SEED: THE CARDS: each row of YtfkjkiobpholjaaDoorRows.lean that lists a variable, with what it lists TIED to the program's text (the seventh form; the later family's looks); each row that meets fmt, with fmt's text TOLD by the authors' own Lean function (tested against real Go, not proved from fmt's source: count such statements apart). THE CARD IS WHAT COUNTS. Prove the row's statement (the work); the ties are given (YtfkjkiobpholjaaDoorTie.lean); close each card by the builder's one call (the guide's Derived/Test/ToyasCard.lean, 'card_holds'). Laid BY PROGRAM, IN A SANDBOX (cutbox-door.mjs). By AI agents, Wed Nov 11 2026. No macro, syntax, notation, axiom, sorry.
-/
import Derived.Test.YtfkjkiobpholjaaDoorRows
import GoSem.ClaimSeven
namespace Go.Proofs.YtfkjkiobpholjaaDoor
namespace Rows

/-- THE TIED CARD OF 'dumbwaiterlaw01.NumberOrders'. -/
def numberOrdersCard : Claim7 := { stood := { row := numberOrdersRow, standIns := [], harness := (true, "a85e22f94e401933ee8198326763d0cafb22c104d60958b8a0339e3c8a7693d0"), looks := false }, kinds := [], alts := [], laidByText := true, laidKinds := [.data, .data, .data, .data, .pinned, .pinned], laidTests := true, laidLooks := .later }
def NumberOrdersCardSaid : Prop := Claim7.holds Tryd.pinned (.plain (OpenSpec.ofChange numberOrdersSpec)) numberOrdersCard

/-- THE TIED CARD OF 'dumbwaiterlaw01.NumberRanks'. -/
def numberRanksCard : Claim7 := { stood := { row := numberRanksRow, standIns := [], harness := (true, "a85e22f94e401933ee8198326763d0cafb22c104d60958b8a0339e3c8a7693d0"), looks := false }, kinds := [], alts := [], laidByText := true, laidKinds := [.data, .data, .data, .data, .pinned, .pinned], laidTests := true, laidLooks := .later }
def NumberRanksCardSaid : Prop := Claim7.holds Tryd.pinned (.plain (OpenSpec.ofChange numberRanksSpec)) numberRanksCard

/-- THE TIED CARD OF 'dumbwaiterlaw01.NumberBits'. -/
def numberBitsCard : Claim7 := { stood := { row := numberBitsRow, standIns := [], harness := (true, "a85e22f94e401933ee8198326763d0cafb22c104d60958b8a0339e3c8a7693d0"), looks := false }, kinds := [], alts := [], laidByText := true, laidKinds := [.data, .data, .data, .data, .pinned, .pinned], laidTests := true, laidLooks := .later }
def NumberBitsCardSaid : Prop := Claim7.holds Tryd.pinned (.plain (OpenSpec.ofChange numberBitsSpec)) numberBitsCard

/-- THE TIED CARD OF 'dumbwaiterlaw01.NumberSpans'. -/
def numberSpansCard : Claim7 := { stood := { row := numberSpansRow, standIns := [], harness := (true, "a85e22f94e401933ee8198326763d0cafb22c104d60958b8a0339e3c8a7693d0"), looks := false }, kinds := [], alts := [], laidByText := true, laidKinds := [.data, .data, .data, .data, .pinned, .pinned], laidTests := true, laidLooks := .later }
def NumberSpansCardSaid : Prop := Claim7.holds Tryd.pinned (.plain (OpenSpec.ofChange numberSpansSpec)) numberSpansCard

/-- THE TIED CARD OF 'dumbwaiterlaw01.NumberShards'. -/
def numberShardsCard : Claim7 := { stood := { row := numberShardsRow, standIns := [], harness := (true, "a85e22f94e401933ee8198326763d0cafb22c104d60958b8a0339e3c8a7693d0"), looks := false }, kinds := [], alts := [], laidByText := true, laidKinds := [.data, .data, .data, .data, .pinned, .pinned], laidTests := true, laidLooks := .later }
def NumberShardsCardSaid : Prop := Claim7.holds Tryd.pinned (.plain (OpenSpec.ofChange numberShardsSpec)) numberShardsCard

/-- THE TIED CARD OF 'dumbwaiterlaw01.NumberUnits'. -/
def numberUnitsCard : Claim7 := { stood := { row := numberUnitsRow, standIns := [], harness := (true, "a85e22f94e401933ee8198326763d0cafb22c104d60958b8a0339e3c8a7693d0"), looks := false }, kinds := [], alts := [], laidByText := true, laidKinds := [.data, .data, .data, .data, .pinned, .pinned], laidTests := true, laidLooks := .later }
def NumberUnitsCardSaid : Prop := Claim7.holds Tryd.pinned (.plain (OpenSpec.ofChange numberUnitsSpec)) numberUnitsCard

/-- THE SECOND FORM's CARD OF 'dumbwaiterlaw01.NumberOrders'. -/
def numberOrdersUptoCard : Claim7 := { stood := { row := numberOrdersUptoRow, standIns := [], harness := (true, "a85e22f94e401933ee8198326763d0cafb22c104d60958b8a0339e3c8a7693d0"), looks := false }, kinds := [], alts := [], laidByText := true, laidKinds := [.data, .data, .data, .data, .pinned, .pinned], laidTests := true, laidLooks := .later }
def NumberOrdersUptoCardSaid : Prop := Claim7.holds Tryd.pinned (.plain (OpenSpec.upto numberOrdersSpec)) numberOrdersUptoCard

/-- THE SECOND FORM's CARD OF 'dumbwaiterlaw01.NumberRanks'. -/
def numberRanksUptoCard : Claim7 := { stood := { row := numberRanksUptoRow, standIns := [], harness := (true, "a85e22f94e401933ee8198326763d0cafb22c104d60958b8a0339e3c8a7693d0"), looks := false }, kinds := [], alts := [], laidByText := true, laidKinds := [.data, .data, .data, .data, .pinned, .pinned], laidTests := true, laidLooks := .later }
def NumberRanksUptoCardSaid : Prop := Claim7.holds Tryd.pinned (.plain (OpenSpec.upto numberRanksSpec)) numberRanksUptoCard

/-- THE SECOND FORM's CARD OF 'dumbwaiterlaw01.NumberBits'. -/
def numberBitsUptoCard : Claim7 := { stood := { row := numberBitsUptoRow, standIns := [], harness := (true, "a85e22f94e401933ee8198326763d0cafb22c104d60958b8a0339e3c8a7693d0"), looks := false }, kinds := [], alts := [], laidByText := true, laidKinds := [.data, .data, .data, .data, .pinned, .pinned], laidTests := true, laidLooks := .later }
def NumberBitsUptoCardSaid : Prop := Claim7.holds Tryd.pinned (.plain (OpenSpec.upto numberBitsSpec)) numberBitsUptoCard

/-- THE SECOND FORM's CARD OF 'dumbwaiterlaw01.NumberSpans'. -/
def numberSpansUptoCard : Claim7 := { stood := { row := numberSpansUptoRow, standIns := [], harness := (true, "a85e22f94e401933ee8198326763d0cafb22c104d60958b8a0339e3c8a7693d0"), looks := false }, kinds := [], alts := [], laidByText := true, laidKinds := [.data, .data, .data, .data, .pinned, .pinned], laidTests := true, laidLooks := .later }
def NumberSpansUptoCardSaid : Prop := Claim7.holds Tryd.pinned (.plain (OpenSpec.upto numberSpansSpec)) numberSpansUptoCard

/-- THE SECOND FORM's CARD OF 'dumbwaiterlaw01.NumberShards'. -/
def numberShardsUptoCard : Claim7 := { stood := { row := numberShardsUptoRow, standIns := [], harness := (true, "a85e22f94e401933ee8198326763d0cafb22c104d60958b8a0339e3c8a7693d0"), looks := false }, kinds := [], alts := [], laidByText := true, laidKinds := [.data, .data, .data, .data, .pinned, .pinned], laidTests := true, laidLooks := .later }
def NumberShardsUptoCardSaid : Prop := Claim7.holds Tryd.pinned (.plain (OpenSpec.upto numberShardsSpec)) numberShardsUptoCard

/-- THE SECOND FORM's CARD OF 'dumbwaiterlaw01.NumberUnits'. -/
def numberUnitsUptoCard : Claim7 := { stood := { row := numberUnitsUptoRow, standIns := [], harness := (true, "a85e22f94e401933ee8198326763d0cafb22c104d60958b8a0339e3c8a7693d0"), looks := false }, kinds := [], alts := [], laidByText := true, laidKinds := [.data, .data, .data, .data, .pinned, .pinned], laidTests := true, laidLooks := .later }
def NumberUnitsUptoCardSaid : Prop := Claim7.holds Tryd.pinned (.plain (OpenSpec.upto numberUnitsSpec)) numberUnitsUptoCard
end Rows
end Go.Proofs.YtfkjkiobpholjaaDoor
