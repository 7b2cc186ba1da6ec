/-
  DERIVED. GIVEN WITH THE SEED: THE CARDS: each row of YthpannpadmeknaaDoorRows.lean that lists a variable, with what it lists TIED to the program's text (the seventh form; the later family's looks); each row that meets fmt, with fmt's text TOLD by the authors' own Lean function (tested against real Go, not proved from fmt's source: count such statements apart). THE CARD IS WHAT COUNTS. Prove the row's statement (the work); the ties are given (YthpannpadmeknaaDoorTie.lean); close each card by the builder's one call (the guide's Derived/Test/ToyasCard.lean, 'card_holds'). Laid BY PROGRAM, IN A SANDBOX (cutbox-door.mjs). By AI agents, Wed Nov 11 2026. No macro, syntax, notation, axiom, sorry.
-/
import Derived.Test.YthpannpadmeknaaDoorRows
import GoSem.ClaimSeven
namespace Go.Proofs.YthpannpadmeknaaDoor
namespace Rows

/-- THE TIED CARD OF 'affidavitlaw03.MacTags'. -/
def macTagsCard : Claim7 := { stood := { row := macTagsRow, standIns := [], harness := (true, "3ec493838b3e55bfbec9b5376f8f5c6582a5f31133065c10581829e1a8cbec90"), looks := false }, kinds := [], alts := [], laidByText := true, laidKinds := [.data, .data, .data, .data], laidTests := true, laidLooks := .later }
def MacTagsCardSaid : Prop := Claim7.holds Tryd.pinned (.plain (OpenSpec.ofChange macTagsSpec)) macTagsCard

/-- THE TIED CARD OF 'affidavitlaw03.MacJoins'. -/
def macJoinsCard : Claim7 := { stood := { row := macJoinsRow, standIns := [], harness := (true, "3ec493838b3e55bfbec9b5376f8f5c6582a5f31133065c10581829e1a8cbec90"), looks := false }, kinds := [], alts := [], laidByText := true, laidKinds := [.data, .data, .data, .data], laidTests := true, laidLooks := .later }
def MacJoinsCardSaid : Prop := Claim7.holds Tryd.pinned (.plain (OpenSpec.ofChange macJoinsSpec)) macJoinsCard

/-- THE TIED CARD OF 'affidavitlaw03.MacLong'. -/
def macLongCard : Claim7 := { stood := { row := macLongRow, standIns := [], harness := (true, "3ec493838b3e55bfbec9b5376f8f5c6582a5f31133065c10581829e1a8cbec90"), looks := false }, kinds := [], alts := [], laidByText := true, laidKinds := [.data, .data, .data, .data], laidTests := true, laidLooks := .later }
def MacLongCardSaid : Prop := Claim7.holds Tryd.pinned (.plain (OpenSpec.ofChange macLongSpec)) macLongCard

/-- THE TIED CARD OF 'affidavitlaw03.MacBytes'. -/
def macBytesCard : Claim7 := { stood := { row := macBytesRow, standIns := [], harness := (true, "3ec493838b3e55bfbec9b5376f8f5c6582a5f31133065c10581829e1a8cbec90"), looks := false }, kinds := [], alts := [], laidByText := true, laidKinds := [.data, .data, .data, .data], laidTests := true, laidLooks := .later }
def MacBytesCardSaid : Prop := Claim7.holds Tryd.pinned (.plain (OpenSpec.ofChange macBytesSpec)) macBytesCard

/-- THE TIED CARD OF 'affidavitlaw03.MacLabels'. -/
def macLabelsCard : Claim7 := { stood := { row := macLabelsRow, standIns := [], harness := (true, "3ec493838b3e55bfbec9b5376f8f5c6582a5f31133065c10581829e1a8cbec90"), looks := false }, kinds := [], alts := [], laidByText := true, laidKinds := [.data, .data, .data, .data], laidTests := true, laidLooks := .later }
def MacLabelsCardSaid : Prop := Claim7.holds Tryd.pinned (.plain (OpenSpec.ofChange macLabelsSpec)) macLabelsCard

/-- THE SECOND FORM's CARD OF 'affidavitlaw03.MacTags'. -/
def macTagsUptoCard : Claim7 := { stood := { row := macTagsUptoRow, standIns := [], harness := (true, "3ec493838b3e55bfbec9b5376f8f5c6582a5f31133065c10581829e1a8cbec90"), looks := false }, kinds := [], alts := [], laidByText := true, laidKinds := [.data, .data, .data, .data], laidTests := true, laidLooks := .later }
def MacTagsUptoCardSaid : Prop := Claim7.holds Tryd.pinned (.plain (OpenSpec.upto macTagsSpec)) macTagsUptoCard

/-- THE SECOND FORM's CARD OF 'affidavitlaw03.MacJoins'. -/
def macJoinsUptoCard : Claim7 := { stood := { row := macJoinsUptoRow, standIns := [], harness := (true, "3ec493838b3e55bfbec9b5376f8f5c6582a5f31133065c10581829e1a8cbec90"), looks := false }, kinds := [], alts := [], laidByText := true, laidKinds := [.data, .data, .data, .data], laidTests := true, laidLooks := .later }
def MacJoinsUptoCardSaid : Prop := Claim7.holds Tryd.pinned (.plain (OpenSpec.upto macJoinsSpec)) macJoinsUptoCard

/-- THE SECOND FORM's CARD OF 'affidavitlaw03.MacLong'. -/
def macLongUptoCard : Claim7 := { stood := { row := macLongUptoRow, standIns := [], harness := (true, "3ec493838b3e55bfbec9b5376f8f5c6582a5f31133065c10581829e1a8cbec90"), looks := false }, kinds := [], alts := [], laidByText := true, laidKinds := [.data, .data, .data, .data], laidTests := true, laidLooks := .later }
def MacLongUptoCardSaid : Prop := Claim7.holds Tryd.pinned (.plain (OpenSpec.upto macLongSpec)) macLongUptoCard

/-- THE SECOND FORM's CARD OF 'affidavitlaw03.MacBytes'. -/
def macBytesUptoCard : Claim7 := { stood := { row := macBytesUptoRow, standIns := [], harness := (true, "3ec493838b3e55bfbec9b5376f8f5c6582a5f31133065c10581829e1a8cbec90"), looks := false }, kinds := [], alts := [], laidByText := true, laidKinds := [.data, .data, .data, .data], laidTests := true, laidLooks := .later }
def MacBytesUptoCardSaid : Prop := Claim7.holds Tryd.pinned (.plain (OpenSpec.upto macBytesSpec)) macBytesUptoCard

/-- THE SECOND FORM's CARD OF 'affidavitlaw03.MacLabels'. -/
def macLabelsUptoCard : Claim7 := { stood := { row := macLabelsUptoRow, standIns := [], harness := (true, "3ec493838b3e55bfbec9b5376f8f5c6582a5f31133065c10581829e1a8cbec90"), looks := false }, kinds := [], alts := [], laidByText := true, laidKinds := [.data, .data, .data, .data], laidTests := true, laidLooks := .later }
def MacLabelsUptoCardSaid : Prop := Claim7.holds Tryd.pinned (.plain (OpenSpec.upto macLabelsSpec)) macLabelsUptoCard
end Rows
end Go.Proofs.YthpannpadmeknaaDoor
