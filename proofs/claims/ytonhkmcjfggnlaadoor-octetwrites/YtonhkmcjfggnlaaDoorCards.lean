/-
  DERIVED. GIVEN WITH THE SEED: THE CARDS: each row of YtonhkmcjfggnlaaDoorRows.lean that lists a variable, with what it lists TIED to the program's text (the seventh form; the later family's looks); each row that meets fmt, with fmt's text TOLD by the authors' own Lean function (tested against real Go, not proved from fmt's source: count such statements apart). THE CARD IS WHAT COUNTS. Prove the row's statement (the work); the ties are given (YtonhkmcjfggnlaaDoorTie.lean); close each card by the builder's one call (the guide's Derived/Test/ToyasCard.lean, 'card_holds'). Laid BY PROGRAM, IN A SANDBOX (cutbox-door.mjs). By AI agents, Wed Nov 11 2026. No macro, syntax, notation, axiom, sorry.
-/
import Derived.Test.YtonhkmcjfggnlaaDoorRows
import GoSem.ClaimSeven
namespace Go.Proofs.YtonhkmcjfggnlaaDoor
namespace Rows

/-- THE TIED CARD OF 'dumbwaiterlaw02.OctetWrites'. -/
def octetWritesCard : Claim7 := { stood := { row := octetWritesRow, standIns := [], harness := (true, "7a6d63be617f8be8e23ddb4babd2e45cc03261cc0689980c6bdad1abec6a3da0"), looks := false }, kinds := [], alts := [], laidByText := true, laidKinds := [.data], laidTests := true, laidLooks := .later }
def OctetWritesCardSaid : Prop := Claim7.holds Tryd.pinned (.plain (OpenSpec.ofChange octetWritesSpec)) octetWritesCard

/-- THE TIED CARD OF 'dumbwaiterlaw02.OctetReads'. -/
def octetReadsCard : Claim7 := { stood := { row := octetReadsRow, standIns := [], harness := (true, "7a6d63be617f8be8e23ddb4babd2e45cc03261cc0689980c6bdad1abec6a3da0"), looks := false }, kinds := [], alts := [], laidByText := true, laidKinds := [.data], laidTests := true, laidLooks := .later }
def OctetReadsCardSaid : Prop := Claim7.holds Tryd.pinned (.plain (OpenSpec.ofChange octetReadsSpec)) octetReadsCard

/-- THE TIED CARD OF 'dumbwaiterlaw02.OctetSums'. -/
def octetSumsCard : Claim7 := { stood := { row := octetSumsRow, standIns := [], harness := (true, "7a6d63be617f8be8e23ddb4babd2e45cc03261cc0689980c6bdad1abec6a3da0"), looks := false }, kinds := [], alts := [], laidByText := true, laidKinds := [.data], laidTests := true, laidLooks := .later }
def OctetSumsCardSaid : Prop := Claim7.holds Tryd.pinned (.plain (OpenSpec.ofChange octetSumsSpec)) octetSumsCard

/-- THE TIED CARD OF 'dumbwaiterlaw02.OctetOpens'. -/
def octetOpensCard : Claim7 := { stood := { row := octetOpensRow, standIns := [], harness := (true, "7a6d63be617f8be8e23ddb4babd2e45cc03261cc0689980c6bdad1abec6a3da0"), looks := false }, kinds := [], alts := [], laidByText := true, laidKinds := [.data], laidTests := true, laidLooks := .later }
def OctetOpensCardSaid : Prop := Claim7.holds Tryd.pinned (.plain (OpenSpec.ofChange octetOpensSpec)) octetOpensCard

/-- THE TIED CARD OF 'dumbwaiterlaw02.OctetBursts'. -/
def octetBurstsCard : Claim7 := { stood := { row := octetBurstsRow, standIns := [], harness := (true, "7a6d63be617f8be8e23ddb4babd2e45cc03261cc0689980c6bdad1abec6a3da0"), looks := false }, kinds := [], alts := [], laidByText := true, laidKinds := [.data], laidTests := true, laidLooks := .later }
def OctetBurstsCardSaid : Prop := Claim7.holds Tryd.pinned (.plain (OpenSpec.ofChange octetBurstsSpec)) octetBurstsCard

/-- THE TIED CARD OF 'dumbwaiterlaw02.OctetNil'. -/
def octetNilCard : Claim7 := { stood := { row := octetNilRow, standIns := [], harness := (true, "7a6d63be617f8be8e23ddb4babd2e45cc03261cc0689980c6bdad1abec6a3da0"), looks := false }, kinds := [], alts := [], laidByText := true, laidKinds := [.data], laidTests := true, laidLooks := .later }
def OctetNilCardSaid : Prop := Claim7.holds Tryd.pinned (.plain (OpenSpec.ofChange octetNilSpec)) octetNilCard

/-- THE SECOND FORM's CARD OF 'dumbwaiterlaw02.OctetWrites'. -/
def octetWritesUptoCard : Claim7 := { stood := { row := octetWritesUptoRow, standIns := [], harness := (true, "7a6d63be617f8be8e23ddb4babd2e45cc03261cc0689980c6bdad1abec6a3da0"), looks := false }, kinds := [], alts := [], laidByText := true, laidKinds := [.data], laidTests := true, laidLooks := .later }
def OctetWritesUptoCardSaid : Prop := Claim7.holds Tryd.pinned (.plain (OpenSpec.upto octetWritesSpec)) octetWritesUptoCard

/-- THE SECOND FORM's CARD OF 'dumbwaiterlaw02.OctetReads'. -/
def octetReadsUptoCard : Claim7 := { stood := { row := octetReadsUptoRow, standIns := [], harness := (true, "7a6d63be617f8be8e23ddb4babd2e45cc03261cc0689980c6bdad1abec6a3da0"), looks := false }, kinds := [], alts := [], laidByText := true, laidKinds := [.data], laidTests := true, laidLooks := .later }
def OctetReadsUptoCardSaid : Prop := Claim7.holds Tryd.pinned (.plain (OpenSpec.upto octetReadsSpec)) octetReadsUptoCard

/-- THE SECOND FORM's CARD OF 'dumbwaiterlaw02.OctetSums'. -/
def octetSumsUptoCard : Claim7 := { stood := { row := octetSumsUptoRow, standIns := [], harness := (true, "7a6d63be617f8be8e23ddb4babd2e45cc03261cc0689980c6bdad1abec6a3da0"), looks := false }, kinds := [], alts := [], laidByText := true, laidKinds := [.data], laidTests := true, laidLooks := .later }
def OctetSumsUptoCardSaid : Prop := Claim7.holds Tryd.pinned (.plain (OpenSpec.upto octetSumsSpec)) octetSumsUptoCard

/-- THE SECOND FORM's CARD OF 'dumbwaiterlaw02.OctetOpens'. -/
def octetOpensUptoCard : Claim7 := { stood := { row := octetOpensUptoRow, standIns := [], harness := (true, "7a6d63be617f8be8e23ddb4babd2e45cc03261cc0689980c6bdad1abec6a3da0"), looks := false }, kinds := [], alts := [], laidByText := true, laidKinds := [.data], laidTests := true, laidLooks := .later }
def OctetOpensUptoCardSaid : Prop := Claim7.holds Tryd.pinned (.plain (OpenSpec.upto octetOpensSpec)) octetOpensUptoCard

/-- THE SECOND FORM's CARD OF 'dumbwaiterlaw02.OctetBursts'. -/
def octetBurstsUptoCard : Claim7 := { stood := { row := octetBurstsUptoRow, standIns := [], harness := (true, "7a6d63be617f8be8e23ddb4babd2e45cc03261cc0689980c6bdad1abec6a3da0"), looks := false }, kinds := [], alts := [], laidByText := true, laidKinds := [.data], laidTests := true, laidLooks := .later }
def OctetBurstsUptoCardSaid : Prop := Claim7.holds Tryd.pinned (.plain (OpenSpec.upto octetBurstsSpec)) octetBurstsUptoCard

/-- THE SECOND FORM's CARD OF 'dumbwaiterlaw02.OctetNil'. -/
def octetNilUptoCard : Claim7 := { stood := { row := octetNilUptoRow, standIns := [], harness := (true, "7a6d63be617f8be8e23ddb4babd2e45cc03261cc0689980c6bdad1abec6a3da0"), looks := false }, kinds := [], alts := [], laidByText := true, laidKinds := [.data], laidTests := true, laidLooks := .later }
def OctetNilUptoCardSaid : Prop := Claim7.holds Tryd.pinned (.plain (OpenSpec.upto octetNilSpec)) octetNilUptoCard
end Rows
end Go.Proofs.YtonhkmcjfggnlaaDoor
