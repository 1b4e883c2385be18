/-
  DERIVED. GIVEN WITH THE SEED: THE CARDS: each row of YtollmclcogmlbaaDoorRows.lean that lists a variable, with what it lists TIED to the program's text (the seventh form; the later family's looks); each row that meets fmt, with fmt's text TOLD by the authors' own Lean function (tested against real Go, not proved from fmt's source: count such statements apart). THE CARD IS WHAT COUNTS. Prove the row's statement (the work); the ties are given (YtollmclcogmlbaaDoorTie.lean); close each card by the builder's one call (the guide's Derived/Test/ToyasCard.lean, 'card_holds'). Laid BY PROGRAM, IN A SANDBOX (cutbox-door.mjs). By AI agents, Wed Nov 11 2026. No macro, syntax, notation, axiom, sorry.
-/
import Derived.Test.YtollmclcogmlbaaDoorRows
import GoSem.ClaimSeven
namespace Go.Proofs.YtollmclcogmlbaaDoor
namespace Rows

/-- THE TIED CARD OF 'leechbooklaw03.DigitsWrites'. -/
def digitsWritesCard : Claim7 := { stood := { row := digitsWritesRow, standIns := [], harness := (true, "bfc12cd362c365bbd82ac4e39799d8475ca28f2c5fd4c40c4f92336aa7adb358"), looks := false }, kinds := [], alts := [], laidByText := true, laidKinds := [.data, .data, .data], laidTests := true, laidLooks := .later }
def DigitsWritesCardSaid : Prop := Claim7.holds Tryd.pinned (.plain (OpenSpec.ofChange digitsWritesSpec)) digitsWritesCard

/-- THE TIED CARD OF 'leechbooklaw03.DigitsReads'. -/
def digitsReadsCard : Claim7 := { stood := { row := digitsReadsRow, standIns := [], harness := (true, "bfc12cd362c365bbd82ac4e39799d8475ca28f2c5fd4c40c4f92336aa7adb358"), looks := false }, kinds := [], alts := [], laidByText := true, laidKinds := [.data, .data, .data], laidTests := true, laidLooks := .later }
def DigitsReadsCardSaid : Prop := Claim7.holds Tryd.pinned (.plain (OpenSpec.ofChange digitsReadsSpec)) digitsReadsCard

/-- THE TIED CARD OF 'leechbooklaw03.DigitsBack'. -/
def digitsBackCard : Claim7 := { stood := { row := digitsBackRow, standIns := [], harness := (true, "bfc12cd362c365bbd82ac4e39799d8475ca28f2c5fd4c40c4f92336aa7adb358"), looks := false }, kinds := [], alts := [], laidByText := true, laidKinds := [.data, .data, .data], laidTests := true, laidLooks := .later }
def DigitsBackCardSaid : Prop := Claim7.holds Tryd.pinned (.plain (OpenSpec.ofChange digitsBackSpec)) digitsBackCard

/-- THE TIED CARD OF 'leechbooklaw03.DigitsOnce'. -/
def digitsOnceCard : Claim7 := { stood := { row := digitsOnceRow, standIns := [], harness := (true, "bfc12cd362c365bbd82ac4e39799d8475ca28f2c5fd4c40c4f92336aa7adb358"), looks := false }, kinds := [], alts := [], laidByText := true, laidKinds := [.data, .data, .data], laidTests := true, laidLooks := .later }
def DigitsOnceCardSaid : Prop := Claim7.holds Tryd.pinned (.plain (OpenSpec.ofChange digitsOnceSpec)) digitsOnceCard

/-- THE TIED CARD OF 'leechbooklaw03.DigitsOrders'. -/
def digitsOrdersCard : Claim7 := { stood := { row := digitsOrdersRow, standIns := [], harness := (true, "bfc12cd362c365bbd82ac4e39799d8475ca28f2c5fd4c40c4f92336aa7adb358"), looks := false }, kinds := [], alts := [], laidByText := true, laidKinds := [.data, .data, .data], laidTests := true, laidLooks := .later }
def DigitsOrdersCardSaid : Prop := Claim7.holds Tryd.pinned (.plain (OpenSpec.ofChange digitsOrdersSpec)) digitsOrdersCard

/-- THE TIED CARD OF 'leechbooklaw03.DigitsZeros'. -/
def digitsZerosCard : Claim7 := { stood := { row := digitsZerosRow, standIns := [], harness := (true, "bfc12cd362c365bbd82ac4e39799d8475ca28f2c5fd4c40c4f92336aa7adb358"), looks := false }, kinds := [], alts := [], laidByText := true, laidKinds := [.data, .data, .data], laidTests := true, laidLooks := .later }
def DigitsZerosCardSaid : Prop := Claim7.holds Tryd.pinned (.plain (OpenSpec.ofChange digitsZerosSpec)) digitsZerosCard

/-- THE SECOND FORM's CARD OF 'leechbooklaw03.DigitsWrites'. -/
def digitsWritesUptoCard : Claim7 := { stood := { row := digitsWritesUptoRow, standIns := [], harness := (true, "bfc12cd362c365bbd82ac4e39799d8475ca28f2c5fd4c40c4f92336aa7adb358"), looks := false }, kinds := [], alts := [], laidByText := true, laidKinds := [.data, .data, .data], laidTests := true, laidLooks := .later }
def DigitsWritesUptoCardSaid : Prop := Claim7.holds Tryd.pinned (.plain (OpenSpec.upto digitsWritesSpec)) digitsWritesUptoCard

/-- THE SECOND FORM's CARD OF 'leechbooklaw03.DigitsReads'. -/
def digitsReadsUptoCard : Claim7 := { stood := { row := digitsReadsUptoRow, standIns := [], harness := (true, "bfc12cd362c365bbd82ac4e39799d8475ca28f2c5fd4c40c4f92336aa7adb358"), looks := false }, kinds := [], alts := [], laidByText := true, laidKinds := [.data, .data, .data], laidTests := true, laidLooks := .later }
def DigitsReadsUptoCardSaid : Prop := Claim7.holds Tryd.pinned (.plain (OpenSpec.upto digitsReadsSpec)) digitsReadsUptoCard

/-- THE SECOND FORM's CARD OF 'leechbooklaw03.DigitsBack'. -/
def digitsBackUptoCard : Claim7 := { stood := { row := digitsBackUptoRow, standIns := [], harness := (true, "bfc12cd362c365bbd82ac4e39799d8475ca28f2c5fd4c40c4f92336aa7adb358"), looks := false }, kinds := [], alts := [], laidByText := true, laidKinds := [.data, .data, .data], laidTests := true, laidLooks := .later }
def DigitsBackUptoCardSaid : Prop := Claim7.holds Tryd.pinned (.plain (OpenSpec.upto digitsBackSpec)) digitsBackUptoCard

/-- THE SECOND FORM's CARD OF 'leechbooklaw03.DigitsOnce'. -/
def digitsOnceUptoCard : Claim7 := { stood := { row := digitsOnceUptoRow, standIns := [], harness := (true, "bfc12cd362c365bbd82ac4e39799d8475ca28f2c5fd4c40c4f92336aa7adb358"), looks := false }, kinds := [], alts := [], laidByText := true, laidKinds := [.data, .data, .data], laidTests := true, laidLooks := .later }
def DigitsOnceUptoCardSaid : Prop := Claim7.holds Tryd.pinned (.plain (OpenSpec.upto digitsOnceSpec)) digitsOnceUptoCard

/-- THE SECOND FORM's CARD OF 'leechbooklaw03.DigitsOrders'. -/
def digitsOrdersUptoCard : Claim7 := { stood := { row := digitsOrdersUptoRow, standIns := [], harness := (true, "bfc12cd362c365bbd82ac4e39799d8475ca28f2c5fd4c40c4f92336aa7adb358"), looks := false }, kinds := [], alts := [], laidByText := true, laidKinds := [.data, .data, .data], laidTests := true, laidLooks := .later }
def DigitsOrdersUptoCardSaid : Prop := Claim7.holds Tryd.pinned (.plain (OpenSpec.upto digitsOrdersSpec)) digitsOrdersUptoCard

/-- THE SECOND FORM's CARD OF 'leechbooklaw03.DigitsZeros'. -/
def digitsZerosUptoCard : Claim7 := { stood := { row := digitsZerosUptoRow, standIns := [], harness := (true, "bfc12cd362c365bbd82ac4e39799d8475ca28f2c5fd4c40c4f92336aa7adb358"), looks := false }, kinds := [], alts := [], laidByText := true, laidKinds := [.data, .data, .data], laidTests := true, laidLooks := .later }
def DigitsZerosUptoCardSaid : Prop := Claim7.holds Tryd.pinned (.plain (OpenSpec.upto digitsZerosSpec)) digitsZerosUptoCard
end Rows
end Go.Proofs.YtollmclcogmlbaaDoor
