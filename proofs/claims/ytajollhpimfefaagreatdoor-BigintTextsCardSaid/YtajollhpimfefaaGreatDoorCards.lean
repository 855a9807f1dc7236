/-
  DERIVED. GIVEN WITH THE SEED: THE CARDS: each row of YtajollhpimfefaaGreatDoorRows.lean that lists a variable, with what it lists TIED to the program's text (the seventh form; the later family's looks); each row that meets fmt, with fmt's text TOLD by the authors' own Lean function (tested against real Go, not proved from fmt's source: count such statements apart). THE CARD IS WHAT COUNTS. Prove the row's statement (the work); the ties are given (YtajollhpimfefaaGreatDoorTie.lean); close each card by the builder's one call (the guide's Derived/Test/ToyasCard.lean, 'card_holds'). Laid BY PROGRAM, IN A SANDBOX (cutbox-door.mjs). By AI agents, Wed Nov 11 2026. No macro, syntax, notation, axiom, sorry.
-/
import Derived.Test.YtajollhpimfefaaGreatDoorRows
import GoSem.ClaimSeven
namespace Go.Proofs.YtajollhpimfefaaGreatDoor
namespace Rows

/-- THE TIED CARD OF 'narrowslaw01.BigintBasics'. -/
def bigintBasicsCard : Claim7 := { stood := { row := bigintBasicsRow, standIns := [], harness := (true, "6abb07e7a39d017decb08181134a3c4bd4c8ac30b791b3302b459caba9e52239"), looks := false }, kinds := [], alts := [], laidByText := true, laidKinds := [.data, .data, .data, .data, .pinned], laidTests := true, laidLooks := .later }
def BigintBasicsCardSaid : Prop := Claim7.holds Tryz.pinned (.plain (OpenSpec.ofChange bigintBasicsSpec)) bigintBasicsCard

/-- THE TIED CARD OF 'narrowslaw01.BigintSums'. -/
def bigintSumsCard : Claim7 := { stood := { row := bigintSumsRow, standIns := [], harness := (true, "6abb07e7a39d017decb08181134a3c4bd4c8ac30b791b3302b459caba9e52239"), looks := false }, kinds := [], alts := [], laidByText := true, laidKinds := [.data, .data, .data, .data, .pinned], laidTests := true, laidLooks := .later }
def BigintSumsCardSaid : Prop := Claim7.holds Tryz.pinned (.plain (OpenSpec.ofChange bigintSumsSpec)) bigintSumsCard

/-- THE TIED CARD OF 'narrowslaw01.BigintQuotients'. -/
def bigintQuotientsCard : Claim7 := { stood := { row := bigintQuotientsRow, standIns := [], harness := (true, "6abb07e7a39d017decb08181134a3c4bd4c8ac30b791b3302b459caba9e52239"), looks := false }, kinds := [], alts := [], laidByText := true, laidKinds := [.data, .data, .data, .data, .pinned], laidTests := true, laidLooks := .later }
def BigintQuotientsCardSaid : Prop := Claim7.holds Tryz.pinned (.plain (OpenSpec.ofChange bigintQuotientsSpec)) bigintQuotientsCard

/-- THE TIED CARD OF 'narrowslaw01.BigintTexts'. -/
def bigintTextsCard : Claim7 := { stood := { row := bigintTextsRow, standIns := [], harness := (true, "6abb07e7a39d017decb08181134a3c4bd4c8ac30b791b3302b459caba9e52239"), looks := false }, kinds := [], alts := [], laidByText := true, laidKinds := [.data, .data, .data, .data, .pinned], laidTests := true, laidLooks := .later }
def BigintTextsCardSaid : Prop := Claim7.holds Tryz.pinned (.plain (OpenSpec.ofChange bigintTextsSpec)) bigintTextsCard

/-- THE TIED CARD OF 'narrowslaw01.BigintRing'. -/
def bigintRingCard : Claim7 := { stood := { row := bigintRingRow, standIns := [], harness := (true, "6abb07e7a39d017decb08181134a3c4bd4c8ac30b791b3302b459caba9e52239"), looks := false }, kinds := [], alts := [], laidByText := true, laidKinds := [.data, .data, .data, .data, .pinned], laidTests := true, laidLooks := .later }
def BigintRingCardSaid : Prop := Claim7.holds Tryz.pinned (.plain (OpenSpec.ofChange bigintRingSpec)) bigintRingCard

/-- THE TIED CARD OF 'narrowslaw01.BigintMachine'. -/
def bigintMachineCard : Claim7 := { stood := { row := bigintMachineRow, standIns := [], harness := (true, "6abb07e7a39d017decb08181134a3c4bd4c8ac30b791b3302b459caba9e52239"), looks := false }, kinds := [], alts := [], laidByText := true, laidKinds := [.data, .data, .data, .data, .pinned], laidTests := true, laidLooks := .later }
def BigintMachineCardSaid : Prop := Claim7.holds Tryz.pinned (.plain (OpenSpec.ofChange bigintMachineSpec)) bigintMachineCard

/-- THE TIED CARD OF 'narrowslaw01.BigintDivides'. -/
def bigintDividesCard : Claim7 := { stood := { row := bigintDividesRow, standIns := [], harness := (true, "6abb07e7a39d017decb08181134a3c4bd4c8ac30b791b3302b459caba9e52239"), looks := false }, kinds := [], alts := [], laidByText := true, laidKinds := [.data, .data, .data, .data, .pinned], laidTests := true, laidLooks := .later }
def BigintDividesCardSaid : Prop := Claim7.holds Tryz.pinned (.plain (OpenSpec.ofChange bigintDividesSpec)) bigintDividesCard

/-- THE TIED CARD OF 'narrowslaw01.BigintDivisors'. -/
def bigintDivisorsCard : Claim7 := { stood := { row := bigintDivisorsRow, standIns := [], harness := (true, "6abb07e7a39d017decb08181134a3c4bd4c8ac30b791b3302b459caba9e52239"), looks := false }, kinds := [], alts := [], laidByText := true, laidKinds := [.data, .data, .data, .data, .pinned], laidTests := true, laidLooks := .later }
def BigintDivisorsCardSaid : Prop := Claim7.holds Tryz.pinned (.plain (OpenSpec.ofChange bigintDivisorsSpec)) bigintDivisorsCard

/-- THE TIED CARD OF 'narrowslaw01.BigintRoots'. -/
def bigintRootsCard : Claim7 := { stood := { row := bigintRootsRow, standIns := [], harness := (true, "6abb07e7a39d017decb08181134a3c4bd4c8ac30b791b3302b459caba9e52239"), looks := false }, kinds := [], alts := [], laidByText := true, laidKinds := [.data, .data, .data, .data, .pinned], laidTests := true, laidLooks := .later }
def BigintRootsCardSaid : Prop := Claim7.holds Tryz.pinned (.plain (OpenSpec.ofChange bigintRootsSpec)) bigintRootsCard

/-- THE TIED CARD OF 'narrowslaw01.BigintDecimal'. -/
def bigintDecimalCard : Claim7 := { stood := { row := bigintDecimalRow, standIns := [], harness := (true, "6abb07e7a39d017decb08181134a3c4bd4c8ac30b791b3302b459caba9e52239"), looks := false }, kinds := [], alts := [], laidByText := true, laidKinds := [.data, .data, .data, .data, .pinned], laidTests := true, laidLooks := .later }
def BigintDecimalCardSaid : Prop := Claim7.holds Tryz.pinned (.plain (OpenSpec.ofChange bigintDecimalSpec)) bigintDecimalCard

/-- THE TIED CARD OF 'narrowslaw01.BigintOrder'. -/
def bigintOrderCard : Claim7 := { stood := { row := bigintOrderRow, standIns := [], harness := (true, "6abb07e7a39d017decb08181134a3c4bd4c8ac30b791b3302b459caba9e52239"), looks := false }, kinds := [], alts := [], laidByText := true, laidKinds := [.data, .data, .data, .data, .pinned], laidTests := true, laidLooks := .later }
def BigintOrderCardSaid : Prop := Claim7.holds Tryz.pinned (.plain (OpenSpec.ofChange bigintOrderSpec)) bigintOrderCard

/-- THE SECOND FORM's CARD OF 'narrowslaw01.BigintBasics'. -/
def bigintBasicsUptoCard : Claim7 := { stood := { row := bigintBasicsUptoRow, standIns := [], harness := (true, "6abb07e7a39d017decb08181134a3c4bd4c8ac30b791b3302b459caba9e52239"), looks := false }, kinds := [], alts := [], laidByText := true, laidKinds := [.data, .data, .data, .data, .pinned], laidTests := true, laidLooks := .later }
def BigintBasicsUptoCardSaid : Prop := Claim7.holds Tryz.pinned (.plain (OpenSpec.upto bigintBasicsSpec)) bigintBasicsUptoCard

/-- THE SECOND FORM's CARD OF 'narrowslaw01.BigintSums'. -/
def bigintSumsUptoCard : Claim7 := { stood := { row := bigintSumsUptoRow, standIns := [], harness := (true, "6abb07e7a39d017decb08181134a3c4bd4c8ac30b791b3302b459caba9e52239"), looks := false }, kinds := [], alts := [], laidByText := true, laidKinds := [.data, .data, .data, .data, .pinned], laidTests := true, laidLooks := .later }
def BigintSumsUptoCardSaid : Prop := Claim7.holds Tryz.pinned (.plain (OpenSpec.upto bigintSumsSpec)) bigintSumsUptoCard

/-- THE SECOND FORM's CARD OF 'narrowslaw01.BigintQuotients'. -/
def bigintQuotientsUptoCard : Claim7 := { stood := { row := bigintQuotientsUptoRow, standIns := [], harness := (true, "6abb07e7a39d017decb08181134a3c4bd4c8ac30b791b3302b459caba9e52239"), looks := false }, kinds := [], alts := [], laidByText := true, laidKinds := [.data, .data, .data, .data, .pinned], laidTests := true, laidLooks := .later }
def BigintQuotientsUptoCardSaid : Prop := Claim7.holds Tryz.pinned (.plain (OpenSpec.upto bigintQuotientsSpec)) bigintQuotientsUptoCard

/-- THE SECOND FORM's CARD OF 'narrowslaw01.BigintTexts'. -/
def bigintTextsUptoCard : Claim7 := { stood := { row := bigintTextsUptoRow, standIns := [], harness := (true, "6abb07e7a39d017decb08181134a3c4bd4c8ac30b791b3302b459caba9e52239"), looks := false }, kinds := [], alts := [], laidByText := true, laidKinds := [.data, .data, .data, .data, .pinned], laidTests := true, laidLooks := .later }
def BigintTextsUptoCardSaid : Prop := Claim7.holds Tryz.pinned (.plain (OpenSpec.upto bigintTextsSpec)) bigintTextsUptoCard

/-- THE SECOND FORM's CARD OF 'narrowslaw01.BigintRing'. -/
def bigintRingUptoCard : Claim7 := { stood := { row := bigintRingUptoRow, standIns := [], harness := (true, "6abb07e7a39d017decb08181134a3c4bd4c8ac30b791b3302b459caba9e52239"), looks := false }, kinds := [], alts := [], laidByText := true, laidKinds := [.data, .data, .data, .data, .pinned], laidTests := true, laidLooks := .later }
def BigintRingUptoCardSaid : Prop := Claim7.holds Tryz.pinned (.plain (OpenSpec.upto bigintRingSpec)) bigintRingUptoCard

/-- THE SECOND FORM's CARD OF 'narrowslaw01.BigintMachine'. -/
def bigintMachineUptoCard : Claim7 := { stood := { row := bigintMachineUptoRow, standIns := [], harness := (true, "6abb07e7a39d017decb08181134a3c4bd4c8ac30b791b3302b459caba9e52239"), looks := false }, kinds := [], alts := [], laidByText := true, laidKinds := [.data, .data, .data, .data, .pinned], laidTests := true, laidLooks := .later }
def BigintMachineUptoCardSaid : Prop := Claim7.holds Tryz.pinned (.plain (OpenSpec.upto bigintMachineSpec)) bigintMachineUptoCard

/-- THE SECOND FORM's CARD OF 'narrowslaw01.BigintDivides'. -/
def bigintDividesUptoCard : Claim7 := { stood := { row := bigintDividesUptoRow, standIns := [], harness := (true, "6abb07e7a39d017decb08181134a3c4bd4c8ac30b791b3302b459caba9e52239"), looks := false }, kinds := [], alts := [], laidByText := true, laidKinds := [.data, .data, .data, .data, .pinned], laidTests := true, laidLooks := .later }
def BigintDividesUptoCardSaid : Prop := Claim7.holds Tryz.pinned (.plain (OpenSpec.upto bigintDividesSpec)) bigintDividesUptoCard

/-- THE SECOND FORM's CARD OF 'narrowslaw01.BigintDivisors'. -/
def bigintDivisorsUptoCard : Claim7 := { stood := { row := bigintDivisorsUptoRow, standIns := [], harness := (true, "6abb07e7a39d017decb08181134a3c4bd4c8ac30b791b3302b459caba9e52239"), looks := false }, kinds := [], alts := [], laidByText := true, laidKinds := [.data, .data, .data, .data, .pinned], laidTests := true, laidLooks := .later }
def BigintDivisorsUptoCardSaid : Prop := Claim7.holds Tryz.pinned (.plain (OpenSpec.upto bigintDivisorsSpec)) bigintDivisorsUptoCard

/-- THE SECOND FORM's CARD OF 'narrowslaw01.BigintRoots'. -/
def bigintRootsUptoCard : Claim7 := { stood := { row := bigintRootsUptoRow, standIns := [], harness := (true, "6abb07e7a39d017decb08181134a3c4bd4c8ac30b791b3302b459caba9e52239"), looks := false }, kinds := [], alts := [], laidByText := true, laidKinds := [.data, .data, .data, .data, .pinned], laidTests := true, laidLooks := .later }
def BigintRootsUptoCardSaid : Prop := Claim7.holds Tryz.pinned (.plain (OpenSpec.upto bigintRootsSpec)) bigintRootsUptoCard

/-- THE SECOND FORM's CARD OF 'narrowslaw01.BigintDecimal'. -/
def bigintDecimalUptoCard : Claim7 := { stood := { row := bigintDecimalUptoRow, standIns := [], harness := (true, "6abb07e7a39d017decb08181134a3c4bd4c8ac30b791b3302b459caba9e52239"), looks := false }, kinds := [], alts := [], laidByText := true, laidKinds := [.data, .data, .data, .data, .pinned], laidTests := true, laidLooks := .later }
def BigintDecimalUptoCardSaid : Prop := Claim7.holds Tryz.pinned (.plain (OpenSpec.upto bigintDecimalSpec)) bigintDecimalUptoCard

/-- THE SECOND FORM's CARD OF 'narrowslaw01.BigintOrder'. -/
def bigintOrderUptoCard : Claim7 := { stood := { row := bigintOrderUptoRow, standIns := [], harness := (true, "6abb07e7a39d017decb08181134a3c4bd4c8ac30b791b3302b459caba9e52239"), looks := false }, kinds := [], alts := [], laidByText := true, laidKinds := [.data, .data, .data, .data, .pinned], laidTests := true, laidLooks := .later }
def BigintOrderUptoCardSaid : Prop := Claim7.holds Tryz.pinned (.plain (OpenSpec.upto bigintOrderSpec)) bigintOrderUptoCard
end Rows
end Go.Proofs.YtajollhpimfefaaGreatDoor
