/-
  DERIVED. GIVEN WITH THE SEED: THE CARDS: each row of YtidlgecognedlaaGreatDoorRows.lean that lists a variable, with what it lists TIED to the program's text (the seventh form; the later family's looks); each row that meets fmt, with fmt's text TOLD by the authors' own Lean function (tested against real Go, not proved from fmt's source: count such statements apart). THE CARD IS WHAT COUNTS. Prove the row's statement (the work); the ties are given (YtidlgecognedlaaGreatDoorTie.lean); close each card by the builder's one call (the guide's Derived/Test/ToyasCard.lean, 'card_holds'). Laid BY PROGRAM, IN A SANDBOX (cutbox-door.mjs). By AI agents, Wed Nov 11 2026. No macro, syntax, notation, axiom, sorry.
-/
import Derived.Test.YtidlgecognedlaaGreatDoorRows
import GoSem.ClaimSeven
namespace Go.Proofs.YtidlgecognedlaaGreatDoor
namespace Rows

/-- THE TIED CARD OF 'affidavitlaw10.MsgPuts'. -/
def msgPutsCard : Claim7 := { stood := { row := msgPutsRow, standIns := [], harness := (true, "13b6fa1e03616571691fe375483eda57d555c83c3b9395122552457aff03d5a7"), looks := true }, kinds := [], alts := [], laidByText := true, laidKinds := [.data, .data, .data, .sentinel, .sentinel], laidTests := true, laidLooks := .later }
def MsgPutsCardSaid : Prop := Claim7.holds Tryz.pinned (.plain (OpenSpec.ofChange msgPutsSpec)) msgPutsCard

/-- THE TIED CARD OF 'affidavitlaw12.RegsDo'. -/
def regsDoCard : Claim7 := { stood := { row := regsDoRow, standIns := [], harness := (true, "13b6fa1e03616571691fe375483eda57d555c83c3b9395122552457aff03d5a7"), looks := true }, kinds := [], alts := [], laidByText := true, laidKinds := [.data, .data, .data, .sentinel, .sentinel], laidTests := true, laidLooks := .later }
def RegsDoCardSaid : Prop := Claim7.holds Tryz.pinned (.plain (OpenSpec.ofChange regsDoSpec)) regsDoCard

/-- THE TIED CARD OF 'affidavitlaw12.RegsOrder'. -/
def regsOrderCard : Claim7 := { stood := { row := regsOrderRow, standIns := [], harness := (true, "13b6fa1e03616571691fe375483eda57d555c83c3b9395122552457aff03d5a7"), looks := true }, kinds := [], alts := [], laidByText := true, laidKinds := [.data, .data, .data, .sentinel, .sentinel], laidTests := true, laidLooks := .later }
def RegsOrderCardSaid : Prop := Claim7.holds Tryz.pinned (.plain (OpenSpec.ofChange regsOrderSpec)) regsOrderCard

/-- THE TIED CARD OF 'affidavitlaw12.RegsAgain'. -/
def regsAgainCard : Claim7 := { stood := { row := regsAgainRow, standIns := [], harness := (true, "13b6fa1e03616571691fe375483eda57d555c83c3b9395122552457aff03d5a7"), looks := true }, kinds := [], alts := [], laidByText := true, laidKinds := [.data, .data, .data, .sentinel, .sentinel], laidTests := true, laidLooks := .later }
def RegsAgainCardSaid : Prop := Claim7.holds Tryz.pinned (.plain (OpenSpec.ofChange regsAgainSpec)) regsAgainCard

/-- THE TIED CARD OF 'affidavitlaw13.ServerDoes'. -/
def serverDoesCard : Claim7 := { stood := { row := serverDoesRow, standIns := [], harness := (true, "13b6fa1e03616571691fe375483eda57d555c83c3b9395122552457aff03d5a7"), looks := true }, kinds := [], alts := [], laidByText := true, laidKinds := [.data, .data, .data, .sentinel, .sentinel], laidTests := true, laidLooks := .later }
def ServerDoesCardSaid : Prop := Claim7.holds Tryz.pinned (.plain (OpenSpec.ofChange serverDoesSpec)) serverDoesCard

/-- THE TIED CARD OF 'affidavitlaw13.ServerAgain'. -/
def serverAgainCard : Claim7 := { stood := { row := serverAgainRow, standIns := [], harness := (true, "13b6fa1e03616571691fe375483eda57d555c83c3b9395122552457aff03d5a7"), looks := true }, kinds := [], alts := [], laidByText := true, laidKinds := [.data, .data, .data, .sentinel, .sentinel], laidTests := true, laidLooks := .later }
def ServerAgainCardSaid : Prop := Claim7.holds Tryz.pinned (.plain (OpenSpec.ofChange serverAgainSpec)) serverAgainCard

/-- THE SECOND FORM's CARD OF 'affidavitlaw10.MsgPuts'. -/
def msgPutsUptoCard : Claim7 := { stood := { row := msgPutsUptoRow, standIns := [], harness := (true, "13b6fa1e03616571691fe375483eda57d555c83c3b9395122552457aff03d5a7"), looks := true }, kinds := [], alts := [], laidByText := true, laidKinds := [.data, .data, .data, .sentinel, .sentinel], laidTests := true, laidLooks := .later }
def MsgPutsUptoCardSaid : Prop := Claim7.holds Tryz.pinned (.plain (OpenSpec.upto msgPutsSpec)) msgPutsUptoCard

/-- THE SECOND FORM's CARD OF 'affidavitlaw12.RegsDo'. -/
def regsDoUptoCard : Claim7 := { stood := { row := regsDoUptoRow, standIns := [], harness := (true, "13b6fa1e03616571691fe375483eda57d555c83c3b9395122552457aff03d5a7"), looks := true }, kinds := [], alts := [], laidByText := true, laidKinds := [.data, .data, .data, .sentinel, .sentinel], laidTests := true, laidLooks := .later }
def RegsDoUptoCardSaid : Prop := Claim7.holds Tryz.pinned (.plain (OpenSpec.upto regsDoSpec)) regsDoUptoCard

/-- THE SECOND FORM's CARD OF 'affidavitlaw12.RegsOrder'. -/
def regsOrderUptoCard : Claim7 := { stood := { row := regsOrderUptoRow, standIns := [], harness := (true, "13b6fa1e03616571691fe375483eda57d555c83c3b9395122552457aff03d5a7"), looks := true }, kinds := [], alts := [], laidByText := true, laidKinds := [.data, .data, .data, .sentinel, .sentinel], laidTests := true, laidLooks := .later }
def RegsOrderUptoCardSaid : Prop := Claim7.holds Tryz.pinned (.plain (OpenSpec.upto regsOrderSpec)) regsOrderUptoCard

/-- THE SECOND FORM's CARD OF 'affidavitlaw12.RegsAgain'. -/
def regsAgainUptoCard : Claim7 := { stood := { row := regsAgainUptoRow, standIns := [], harness := (true, "13b6fa1e03616571691fe375483eda57d555c83c3b9395122552457aff03d5a7"), looks := true }, kinds := [], alts := [], laidByText := true, laidKinds := [.data, .data, .data, .sentinel, .sentinel], laidTests := true, laidLooks := .later }
def RegsAgainUptoCardSaid : Prop := Claim7.holds Tryz.pinned (.plain (OpenSpec.upto regsAgainSpec)) regsAgainUptoCard

/-- THE SECOND FORM's CARD OF 'affidavitlaw13.ServerDoes'. -/
def serverDoesUptoCard : Claim7 := { stood := { row := serverDoesUptoRow, standIns := [], harness := (true, "13b6fa1e03616571691fe375483eda57d555c83c3b9395122552457aff03d5a7"), looks := true }, kinds := [], alts := [], laidByText := true, laidKinds := [.data, .data, .data, .sentinel, .sentinel], laidTests := true, laidLooks := .later }
def ServerDoesUptoCardSaid : Prop := Claim7.holds Tryz.pinned (.plain (OpenSpec.upto serverDoesSpec)) serverDoesUptoCard

/-- THE SECOND FORM's CARD OF 'affidavitlaw13.ServerAgain'. -/
def serverAgainUptoCard : Claim7 := { stood := { row := serverAgainUptoRow, standIns := [], harness := (true, "13b6fa1e03616571691fe375483eda57d555c83c3b9395122552457aff03d5a7"), looks := true }, kinds := [], alts := [], laidByText := true, laidKinds := [.data, .data, .data, .sentinel, .sentinel], laidTests := true, laidLooks := .later }
def ServerAgainUptoCardSaid : Prop := Claim7.holds Tryz.pinned (.plain (OpenSpec.upto serverAgainSpec)) serverAgainUptoCard
end Rows
end Go.Proofs.YtidlgecognedlaaGreatDoor
