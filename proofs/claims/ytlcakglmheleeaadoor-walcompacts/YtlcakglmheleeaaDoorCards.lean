/-
  DERIVED. GIVEN WITH THE SEED: THE CARDS: each row of YtlcakglmheleeaaDoorRows.lean that lists a variable, with what it lists TIED to the program's text (the seventh form; the later family's looks); each row that meets fmt, with fmt's text TOLD by the authors' own Lean function (tested against real Go, not proved from fmt's source: count such statements apart). THE CARD IS WHAT COUNTS. Prove the row's statement (the work); the ties are given (YtlcakglmheleeaaDoorTie.lean); close each card by the builder's one call (the guide's Derived/Test/ToyasCard.lean, 'card_holds'). Laid BY PROGRAM, IN A SANDBOX (cutbox-door.mjs). By AI agents, Wed Nov 11 2026. No macro, syntax, notation, axiom, sorry.
-/
import Derived.Test.YtlcakglmheleeaaDoorRows
import GoSem.ClaimSeven
namespace Go.Proofs.YtlcakglmheleeaaDoor
namespace Rows

/-- THE TIED CARD OF 'dumbwaiterlaw08.WalScans'. -/
def walScansCard : Claim7 := { stood := { row := walScansRow, standIns := [], harness := (true, "13c6afe351a639a57549097b40349ca90352a5ddcad39e6d7844cd1e686b12b2"), looks := false }, kinds := [], alts := [], laidByText := true, laidKinds := [.data], laidTests := true, laidLooks := .later }
def WalScansCardSaid : Prop := Claim7.holds Tryd.pinned (.plain (OpenSpec.ofChange walScansSpec)) walScansCard

/-- THE TIED CARD OF 'dumbwaiterlaw08.WalBytes'. -/
def walBytesCard : Claim7 := { stood := { row := walBytesRow, standIns := [], harness := (true, "13c6afe351a639a57549097b40349ca90352a5ddcad39e6d7844cd1e686b12b2"), looks := false }, kinds := [], alts := [], laidByText := true, laidKinds := [.data], laidTests := true, laidLooks := .later }
def WalBytesCardSaid : Prop := Claim7.holds Tryd.pinned (.plain (OpenSpec.ofChange walBytesSpec)) walBytesCard

/-- THE TIED CARD OF 'dumbwaiterlaw08.WalCrashes'. -/
def walCrashesCard : Claim7 := { stood := { row := walCrashesRow, standIns := [], harness := (true, "13c6afe351a639a57549097b40349ca90352a5ddcad39e6d7844cd1e686b12b2"), looks := false }, kinds := [], alts := [], laidByText := true, laidKinds := [.data], laidTests := true, laidLooks := .later }
def WalCrashesCardSaid : Prop := Claim7.holds Tryd.pinned (.plain (OpenSpec.ofChange walCrashesSpec)) walCrashesCard

/-- THE TIED CARD OF 'dumbwaiterlaw08.WalCompacts'. -/
def walCompactsCard : Claim7 := { stood := { row := walCompactsRow, standIns := [], harness := (true, "13c6afe351a639a57549097b40349ca90352a5ddcad39e6d7844cd1e686b12b2"), looks := false }, kinds := [], alts := [], laidByText := true, laidKinds := [.data], laidTests := true, laidLooks := .later }
def WalCompactsCardSaid : Prop := Claim7.holds Tryd.pinned (.plain (OpenSpec.ofChange walCompactsSpec)) walCompactsCard

/-- THE TIED CARD OF 'dumbwaiterlaw08.WalJunk'. -/
def walJunkCard : Claim7 := { stood := { row := walJunkRow, standIns := [], harness := (true, "13c6afe351a639a57549097b40349ca90352a5ddcad39e6d7844cd1e686b12b2"), looks := false }, kinds := [], alts := [], laidByText := true, laidKinds := [.data], laidTests := true, laidLooks := .later }
def WalJunkCardSaid : Prop := Claim7.holds Tryd.pinned (.plain (OpenSpec.ofChange walJunkSpec)) walJunkCard

/-- THE TIED CARD OF 'dumbwaiterlaw08.WalNil'. -/
def walNilCard : Claim7 := { stood := { row := walNilRow, standIns := [], harness := (true, "13c6afe351a639a57549097b40349ca90352a5ddcad39e6d7844cd1e686b12b2"), looks := false }, kinds := [], alts := [], laidByText := true, laidKinds := [.data], laidTests := true, laidLooks := .later }
def WalNilCardSaid : Prop := Claim7.holds Tryd.pinned (.plain (OpenSpec.ofChange walNilSpec)) walNilCard

/-- THE SECOND FORM's CARD OF 'dumbwaiterlaw08.WalScans'. -/
def walScansUptoCard : Claim7 := { stood := { row := walScansUptoRow, standIns := [], harness := (true, "13c6afe351a639a57549097b40349ca90352a5ddcad39e6d7844cd1e686b12b2"), looks := false }, kinds := [], alts := [], laidByText := true, laidKinds := [.data], laidTests := true, laidLooks := .later }
def WalScansUptoCardSaid : Prop := Claim7.holds Tryd.pinned (.plain (OpenSpec.upto walScansSpec)) walScansUptoCard

/-- THE SECOND FORM's CARD OF 'dumbwaiterlaw08.WalBytes'. -/
def walBytesUptoCard : Claim7 := { stood := { row := walBytesUptoRow, standIns := [], harness := (true, "13c6afe351a639a57549097b40349ca90352a5ddcad39e6d7844cd1e686b12b2"), looks := false }, kinds := [], alts := [], laidByText := true, laidKinds := [.data], laidTests := true, laidLooks := .later }
def WalBytesUptoCardSaid : Prop := Claim7.holds Tryd.pinned (.plain (OpenSpec.upto walBytesSpec)) walBytesUptoCard

/-- THE SECOND FORM's CARD OF 'dumbwaiterlaw08.WalCrashes'. -/
def walCrashesUptoCard : Claim7 := { stood := { row := walCrashesUptoRow, standIns := [], harness := (true, "13c6afe351a639a57549097b40349ca90352a5ddcad39e6d7844cd1e686b12b2"), looks := false }, kinds := [], alts := [], laidByText := true, laidKinds := [.data], laidTests := true, laidLooks := .later }
def WalCrashesUptoCardSaid : Prop := Claim7.holds Tryd.pinned (.plain (OpenSpec.upto walCrashesSpec)) walCrashesUptoCard

/-- THE SECOND FORM's CARD OF 'dumbwaiterlaw08.WalCompacts'. -/
def walCompactsUptoCard : Claim7 := { stood := { row := walCompactsUptoRow, standIns := [], harness := (true, "13c6afe351a639a57549097b40349ca90352a5ddcad39e6d7844cd1e686b12b2"), looks := false }, kinds := [], alts := [], laidByText := true, laidKinds := [.data], laidTests := true, laidLooks := .later }
def WalCompactsUptoCardSaid : Prop := Claim7.holds Tryd.pinned (.plain (OpenSpec.upto walCompactsSpec)) walCompactsUptoCard

/-- THE SECOND FORM's CARD OF 'dumbwaiterlaw08.WalJunk'. -/
def walJunkUptoCard : Claim7 := { stood := { row := walJunkUptoRow, standIns := [], harness := (true, "13c6afe351a639a57549097b40349ca90352a5ddcad39e6d7844cd1e686b12b2"), looks := false }, kinds := [], alts := [], laidByText := true, laidKinds := [.data], laidTests := true, laidLooks := .later }
def WalJunkUptoCardSaid : Prop := Claim7.holds Tryd.pinned (.plain (OpenSpec.upto walJunkSpec)) walJunkUptoCard

/-- THE SECOND FORM's CARD OF 'dumbwaiterlaw08.WalNil'. -/
def walNilUptoCard : Claim7 := { stood := { row := walNilUptoRow, standIns := [], harness := (true, "13c6afe351a639a57549097b40349ca90352a5ddcad39e6d7844cd1e686b12b2"), looks := false }, kinds := [], alts := [], laidByText := true, laidKinds := [.data], laidTests := true, laidLooks := .later }
def WalNilUptoCardSaid : Prop := Claim7.holds Tryd.pinned (.plain (OpenSpec.upto walNilSpec)) walNilUptoCard
end Rows
end Go.Proofs.YtlcakglmheleeaaDoor
