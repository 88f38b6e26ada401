/-
  DERIVED. GIVEN WITH THE SEED: THE CARDS: each row of YtpophjloedpcfaaGreatDoorRows.lean that lists a variable, with what it lists TIED to the program's text (the seventh form; the later family's looks); each row that meets fmt, with fmt's text TOLD by the authors' own Lean function (tested against real Go, not proved from fmt's source: count such statements apart). THE CARD IS WHAT COUNTS. Prove the row's statement (the work); the ties are given (YtpophjloedpcfaaGreatDoorTie.lean); close each card by the builder's one call (the guide's Derived/Test/ToyasCard.lean, 'card_holds'). Laid BY PROGRAM, IN A SANDBOX (cutbox-door.mjs). By AI agents, Wed Nov 11 2026. No macro, syntax, notation, axiom, sorry.
-/
import Derived.Test.YtpophjloedpcfaaGreatDoorRows
import GoSem.ClaimSeven
namespace Go.Proofs.YtpophjloedpcfaaGreatDoor
namespace Rows

/-- THE TIED CARD OF 'laws.FnAlgebraText'. -/
def fnAlgebraTextCard : Claim7 := { stood := { row := fnAlgebraTextRow, standIns := [], harness := (true, "9bb84a5266199a6ce9496ac45b50c7670d2644ba52bb47e99ff9a96e59380507"), looks := true }, kinds := [], alts := [], laidByText := true, laidKinds := [.data, .data, .data, .data, .sentinel, .sentinel, .pinned], laidTests := true, laidLooks := .later }
def FnAlgebraTextCardSaid : Prop := Claim7.holds Tryz.pinned (.plain (OpenSpec.ofChange fnAlgebraTextSpec)) fnAlgebraTextCard

/-- THE TIED CARD OF 'laws.FnParseAlgebra'. -/
def fnParseAlgebraCard : Claim7 := { stood := { row := fnParseAlgebraRow, standIns := [], harness := (true, "9bb84a5266199a6ce9496ac45b50c7670d2644ba52bb47e99ff9a96e59380507"), looks := true }, kinds := [], alts := [], laidByText := true, laidKinds := [.data, .data, .data, .data, .sentinel, .sentinel, .pinned], laidTests := true, laidLooks := .later }
def FnParseAlgebraCardSaid : Prop := Claim7.holds Tryz.pinned (.plain (OpenSpec.ofChange fnParseAlgebraSpec)) fnParseAlgebraCard

/-- THE TIED CARD OF 'laws.FnRunDesk'. -/
def fnRunDeskCard : Claim7 := { stood := { row := fnRunDeskRow, standIns := [], harness := (true, "9bb84a5266199a6ce9496ac45b50c7670d2644ba52bb47e99ff9a96e59380507"), looks := true }, kinds := [], alts := [], laidByText := true, laidKinds := [.data, .data, .data, .data, .handle, .sentinel, .sentinel, .sentinel, .pinned], laidTests := true, laidLooks := .later }
def FnRunDeskCardSaid : Prop := Claim7.holds Tryz.pinned (.plain (OpenSpec.ofChange fnRunDeskSpec)) fnRunDeskCard

/-- THE TIED CARD OF 'laws.FnExactParseAlgebra'. -/
def fnExactParseAlgebraCard : Claim7 := { stood := { row := fnExactParseAlgebraRow, standIns := [], harness := (true, "9bb84a5266199a6ce9496ac45b50c7670d2644ba52bb47e99ff9a96e59380507"), looks := true }, kinds := [], alts := [], laidByText := true, laidKinds := [.data, .data, .data, .data, .sentinel, .sentinel, .pinned], laidTests := true, laidLooks := .later }
def FnExactParseAlgebraCardSaid : Prop := Claim7.holds Tryz.pinned (.plain (OpenSpec.ofChange fnExactParseAlgebraSpec)) fnExactParseAlgebraCard

/-- THE TIED CARD OF 'laws.FnExactRunDesk'. -/
def fnExactRunDeskCard : Claim7 := { stood := { row := fnExactRunDeskRow, standIns := [], harness := (true, "9bb84a5266199a6ce9496ac45b50c7670d2644ba52bb47e99ff9a96e59380507"), looks := true }, kinds := [], alts := [], laidByText := true, laidKinds := [.data, .data, .data, .data, .handle, .sentinel, .sentinel, .sentinel, .pinned], laidTests := true, laidLooks := .later }
def FnExactRunDeskCardSaid : Prop := Claim7.holds Tryz.pinned (.plain (OpenSpec.ofChange fnExactRunDeskSpec)) fnExactRunDeskCard

/-- THE SECOND FORM's CARD OF 'laws.FnAlgebraText'. -/
def fnAlgebraTextUptoCard : Claim7 := { stood := { row := fnAlgebraTextUptoRow, standIns := [], harness := (true, "9bb84a5266199a6ce9496ac45b50c7670d2644ba52bb47e99ff9a96e59380507"), looks := true }, kinds := [], alts := [], laidByText := true, laidKinds := [.data, .data, .data, .data, .sentinel, .sentinel, .pinned], laidTests := true, laidLooks := .later }
def FnAlgebraTextUptoCardSaid : Prop := Claim7.holds Tryz.pinned (.plain (OpenSpec.upto fnAlgebraTextSpec)) fnAlgebraTextUptoCard

/-- THE SECOND FORM's CARD OF 'laws.FnParseAlgebra'. -/
def fnParseAlgebraUptoCard : Claim7 := { stood := { row := fnParseAlgebraUptoRow, standIns := [], harness := (true, "9bb84a5266199a6ce9496ac45b50c7670d2644ba52bb47e99ff9a96e59380507"), looks := true }, kinds := [], alts := [], laidByText := true, laidKinds := [.data, .data, .data, .data, .sentinel, .sentinel, .pinned], laidTests := true, laidLooks := .later }
def FnParseAlgebraUptoCardSaid : Prop := Claim7.holds Tryz.pinned (.plain (OpenSpec.upto fnParseAlgebraSpec)) fnParseAlgebraUptoCard

/-- THE SECOND FORM's CARD OF 'laws.FnRunDesk'. -/
def fnRunDeskUptoCard : Claim7 := { stood := { row := fnRunDeskUptoRow, standIns := [], harness := (true, "9bb84a5266199a6ce9496ac45b50c7670d2644ba52bb47e99ff9a96e59380507"), looks := true }, kinds := [], alts := [], laidByText := true, laidKinds := [.data, .data, .data, .data, .handle, .sentinel, .sentinel, .sentinel, .pinned], laidTests := true, laidLooks := .later }
def FnRunDeskUptoCardSaid : Prop := Claim7.holds Tryz.pinned (.plain (OpenSpec.upto fnRunDeskSpec)) fnRunDeskUptoCard

/-- THE SECOND FORM's CARD OF 'laws.FnExactParseAlgebra'. -/
def fnExactParseAlgebraUptoCard : Claim7 := { stood := { row := fnExactParseAlgebraUptoRow, standIns := [], harness := (true, "9bb84a5266199a6ce9496ac45b50c7670d2644ba52bb47e99ff9a96e59380507"), looks := true }, kinds := [], alts := [], laidByText := true, laidKinds := [.data, .data, .data, .data, .sentinel, .sentinel, .pinned], laidTests := true, laidLooks := .later }
def FnExactParseAlgebraUptoCardSaid : Prop := Claim7.holds Tryz.pinned (.plain (OpenSpec.upto fnExactParseAlgebraSpec)) fnExactParseAlgebraUptoCard

/-- THE SECOND FORM's CARD OF 'laws.FnExactRunDesk'. -/
def fnExactRunDeskUptoCard : Claim7 := { stood := { row := fnExactRunDeskUptoRow, standIns := [], harness := (true, "9bb84a5266199a6ce9496ac45b50c7670d2644ba52bb47e99ff9a96e59380507"), looks := true }, kinds := [], alts := [], laidByText := true, laidKinds := [.data, .data, .data, .data, .handle, .sentinel, .sentinel, .sentinel, .pinned], laidTests := true, laidLooks := .later }
def FnExactRunDeskUptoCardSaid : Prop := Claim7.holds Tryz.pinned (.plain (OpenSpec.upto fnExactRunDeskSpec)) fnExactRunDeskUptoCard
end Rows
end Go.Proofs.YtpophjloedpcfaaGreatDoor
