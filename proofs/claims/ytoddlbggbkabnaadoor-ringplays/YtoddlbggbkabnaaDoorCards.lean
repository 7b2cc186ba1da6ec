/-
  DERIVED. GIVEN WITH THE SEED: THE CARDS: each row of YtoddlbggbkabnaaDoorRows.lean that lists a variable, with what it lists TIED to the program's text (the seventh form; the later family's looks); each row that meets fmt, with fmt's text TOLD by the authors' own Lean function (tested against real Go, not proved from fmt's source: count such statements apart). THE CARD IS WHAT COUNTS. Prove the row's statement (the work); the ties are given (YtoddlbggbkabnaaDoorTie.lean); close each card by the builder's one call (the guide's Derived/Test/ToyasCard.lean, 'card_holds'). Laid BY PROGRAM, IN A SANDBOX (cutbox-door.mjs). By AI agents, Wed Nov 11 2026. No macro, syntax, notation, axiom, sorry.
-/
import Derived.Test.YtoddlbggbkabnaaDoorRows
import GoSem.ClaimSeven
namespace Go.Proofs.YtoddlbggbkabnaaDoor
namespace Rows

/-- THE TIED CARD OF 'affidavitlaw04.RingPlays'. -/
def ringPlaysCard : Claim7 := { stood := { row := ringPlaysRow, standIns := [], harness := (true, "17a9c7c4a59d5c7a2655b36b71b429907b8b4c12c7a05666a4ca9a6611e154aa"), looks := false }, kinds := [], alts := [], laidByText := true, laidKinds := [.data, .data, .data, .data], laidTests := true, laidLooks := .later }
def RingPlaysCardSaid : Prop := Claim7.holds Tryd.pinned (.plain (OpenSpec.ofChange ringPlaysSpec)) ringPlaysCard

/-- THE TIED CARD OF 'affidavitlaw04.RingBook'. -/
def ringBookCard : Claim7 := { stood := { row := ringBookRow, standIns := [], harness := (true, "17a9c7c4a59d5c7a2655b36b71b429907b8b4c12c7a05666a4ca9a6611e154aa"), looks := false }, kinds := [], alts := [], laidByText := true, laidKinds := [.data, .data, .data, .data], laidTests := true, laidLooks := .later }
def RingBookCardSaid : Prop := Claim7.holds Tryd.pinned (.plain (OpenSpec.ofChange ringBookSpec)) ringBookCard

/-- THE TIED CARD OF 'affidavitlaw04.RingTurned'. -/
def ringTurnedCard : Claim7 := { stood := { row := ringTurnedRow, standIns := [], harness := (true, "17a9c7c4a59d5c7a2655b36b71b429907b8b4c12c7a05666a4ca9a6611e154aa"), looks := false }, kinds := [], alts := [], laidByText := true, laidKinds := [.data, .data, .data, .data], laidTests := true, laidLooks := .later }
def RingTurnedCardSaid : Prop := Claim7.holds Tryd.pinned (.plain (OpenSpec.ofChange ringTurnedSpec)) ringTurnedCard

/-- THE TIED CARD OF 'affidavitlaw04.RingSame'. -/
def ringSameCard : Claim7 := { stood := { row := ringSameRow, standIns := [], harness := (true, "17a9c7c4a59d5c7a2655b36b71b429907b8b4c12c7a05666a4ca9a6611e154aa"), looks := false }, kinds := [], alts := [], laidByText := true, laidKinds := [.data, .data, .data, .data], laidTests := true, laidLooks := .later }
def RingSameCardSaid : Prop := Claim7.holds Tryd.pinned (.plain (OpenSpec.ofChange ringSameSpec)) ringSameCard

/-- THE TIED CARD OF 'affidavitlaw04.RingNone'. -/
def ringNoneCard : Claim7 := { stood := { row := ringNoneRow, standIns := [], harness := (true, "17a9c7c4a59d5c7a2655b36b71b429907b8b4c12c7a05666a4ca9a6611e154aa"), looks := false }, kinds := [], alts := [], laidByText := true, laidKinds := [.data, .data, .data, .data], laidTests := true, laidLooks := .later }
def RingNoneCardSaid : Prop := Claim7.holds Tryd.pinned (.plain (OpenSpec.ofChange ringNoneSpec)) ringNoneCard

/-- THE SECOND FORM's CARD OF 'affidavitlaw04.RingPlays'. -/
def ringPlaysUptoCard : Claim7 := { stood := { row := ringPlaysUptoRow, standIns := [], harness := (true, "17a9c7c4a59d5c7a2655b36b71b429907b8b4c12c7a05666a4ca9a6611e154aa"), looks := false }, kinds := [], alts := [], laidByText := true, laidKinds := [.data, .data, .data, .data], laidTests := true, laidLooks := .later }
def RingPlaysUptoCardSaid : Prop := Claim7.holds Tryd.pinned (.plain (OpenSpec.upto ringPlaysSpec)) ringPlaysUptoCard

/-- THE SECOND FORM's CARD OF 'affidavitlaw04.RingBook'. -/
def ringBookUptoCard : Claim7 := { stood := { row := ringBookUptoRow, standIns := [], harness := (true, "17a9c7c4a59d5c7a2655b36b71b429907b8b4c12c7a05666a4ca9a6611e154aa"), looks := false }, kinds := [], alts := [], laidByText := true, laidKinds := [.data, .data, .data, .data], laidTests := true, laidLooks := .later }
def RingBookUptoCardSaid : Prop := Claim7.holds Tryd.pinned (.plain (OpenSpec.upto ringBookSpec)) ringBookUptoCard

/-- THE SECOND FORM's CARD OF 'affidavitlaw04.RingTurned'. -/
def ringTurnedUptoCard : Claim7 := { stood := { row := ringTurnedUptoRow, standIns := [], harness := (true, "17a9c7c4a59d5c7a2655b36b71b429907b8b4c12c7a05666a4ca9a6611e154aa"), looks := false }, kinds := [], alts := [], laidByText := true, laidKinds := [.data, .data, .data, .data], laidTests := true, laidLooks := .later }
def RingTurnedUptoCardSaid : Prop := Claim7.holds Tryd.pinned (.plain (OpenSpec.upto ringTurnedSpec)) ringTurnedUptoCard

/-- THE SECOND FORM's CARD OF 'affidavitlaw04.RingSame'. -/
def ringSameUptoCard : Claim7 := { stood := { row := ringSameUptoRow, standIns := [], harness := (true, "17a9c7c4a59d5c7a2655b36b71b429907b8b4c12c7a05666a4ca9a6611e154aa"), looks := false }, kinds := [], alts := [], laidByText := true, laidKinds := [.data, .data, .data, .data], laidTests := true, laidLooks := .later }
def RingSameUptoCardSaid : Prop := Claim7.holds Tryd.pinned (.plain (OpenSpec.upto ringSameSpec)) ringSameUptoCard

/-- THE SECOND FORM's CARD OF 'affidavitlaw04.RingNone'. -/
def ringNoneUptoCard : Claim7 := { stood := { row := ringNoneUptoRow, standIns := [], harness := (true, "17a9c7c4a59d5c7a2655b36b71b429907b8b4c12c7a05666a4ca9a6611e154aa"), looks := false }, kinds := [], alts := [], laidByText := true, laidKinds := [.data, .data, .data, .data], laidTests := true, laidLooks := .later }
def RingNoneUptoCardSaid : Prop := Claim7.holds Tryd.pinned (.plain (OpenSpec.upto ringNoneSpec)) ringNoneUptoCard
end Rows
end Go.Proofs.YtoddlbggbkabnaaDoor
