/-
  DERIVED. GIVEN WITH THE SEED: THE CARDS: each row of YtpegnobijnhbmaaDoorRows.lean that lists a variable, with what it lists TIED to the program's text (the seventh form; the later family's looks); each row that meets fmt, with fmt's text TOLD by the authors' own Lean function (tested against real Go, not proved from fmt's source: count such statements apart). THE CARD IS WHAT COUNTS. Prove the row's statement (the work); the ties are given (YtpegnobijnhbmaaDoorTie.lean); close each card by the builder's one call (the guide's Derived/Test/ToyasCard.lean, 'card_holds'). Laid BY PROGRAM, IN A SANDBOX (cutbox-door.mjs). By AI agents, Wed Nov 11 2026. No macro, syntax, notation, axiom, sorry.
-/
import Derived.Test.YtpegnobijnhbmaaDoorRows
import GoSem.ClaimSeven
namespace Go.Proofs.YtpegnobijnhbmaaDoor
namespace Rows

/-- THE TIED CARD OF 'polliwoglaw06.PduBack'. -/
def pduBackCard : Claim7 := { stood := { row := pduBackRow, standIns := [], harness := (true, "4e4f2be336cc7f4833bdec19d19aa65bf218a493ea1b0839abc33c3a18d8eec2"), looks := false }, kinds := [], alts := [], laidByText := true, laidKinds := [.data], laidTests := true, laidLooks := .later }
def PduBackCardSaid : Prop := Claim7.holds Tryd.pinned (.plain (OpenSpec.ofChange pduBackSpec)) pduBackCard

/-- THE TIED CARD OF 'polliwoglaw06.PduReads'. -/
def pduReadsCard : Claim7 := { stood := { row := pduReadsRow, standIns := [], harness := (true, "4e4f2be336cc7f4833bdec19d19aa65bf218a493ea1b0839abc33c3a18d8eec2"), looks := false }, kinds := [], alts := [], laidByText := true, laidKinds := [.data], laidTests := true, laidLooks := .later }
def PduReadsCardSaid : Prop := Claim7.holds Tryd.pinned (.plain (OpenSpec.ofChange pduReadsSpec)) pduReadsCard

/-- THE TIED CARD OF 'polliwoglaw06.PduNames'. -/
def pduNamesCard : Claim7 := { stood := { row := pduNamesRow, standIns := [], harness := (true, "4e4f2be336cc7f4833bdec19d19aa65bf218a493ea1b0839abc33c3a18d8eec2"), looks := false }, kinds := [], alts := [], laidByText := true, laidKinds := [.data, .data], laidTests := true, laidLooks := .later }
def PduNamesCardSaid : Prop := Claim7.holds Tryd.pinned (.plain (OpenSpec.ofChange pduNamesSpec)) pduNamesCard

/-- THE TIED CARD OF 'polliwoglaw06.PduUnlike'. -/
def pduUnlikeCard : Claim7 := { stood := { row := pduUnlikeRow, standIns := [], harness := (true, "4e4f2be336cc7f4833bdec19d19aa65bf218a493ea1b0839abc33c3a18d8eec2"), looks := false }, kinds := [], alts := [], laidByText := true, laidKinds := [.data], laidTests := true, laidLooks := .later }
def PduUnlikeCardSaid : Prop := Claim7.holds Tryd.pinned (.plain (OpenSpec.ofChange pduUnlikeSpec)) pduUnlikeCard

/-- THE TIED CARD OF 'polliwoglaw06.PduSizes'. -/
def pduSizesCard : Claim7 := { stood := { row := pduSizesRow, standIns := [], harness := (true, "4e4f2be336cc7f4833bdec19d19aa65bf218a493ea1b0839abc33c3a18d8eec2"), looks := false }, kinds := [], alts := [], laidByText := true, laidKinds := [.data], laidTests := true, laidLooks := .later }
def PduSizesCardSaid : Prop := Claim7.holds Tryd.pinned (.plain (OpenSpec.ofChange pduSizesSpec)) pduSizesCard

/-- THE SECOND FORM's CARD OF 'polliwoglaw06.PduBack'. -/
def pduBackUptoCard : Claim7 := { stood := { row := pduBackUptoRow, standIns := [], harness := (true, "4e4f2be336cc7f4833bdec19d19aa65bf218a493ea1b0839abc33c3a18d8eec2"), looks := false }, kinds := [], alts := [], laidByText := true, laidKinds := [.data], laidTests := true, laidLooks := .later }
def PduBackUptoCardSaid : Prop := Claim7.holds Tryd.pinned (.plain (OpenSpec.upto pduBackSpec)) pduBackUptoCard

/-- THE SECOND FORM's CARD OF 'polliwoglaw06.PduReads'. -/
def pduReadsUptoCard : Claim7 := { stood := { row := pduReadsUptoRow, standIns := [], harness := (true, "4e4f2be336cc7f4833bdec19d19aa65bf218a493ea1b0839abc33c3a18d8eec2"), looks := false }, kinds := [], alts := [], laidByText := true, laidKinds := [.data], laidTests := true, laidLooks := .later }
def PduReadsUptoCardSaid : Prop := Claim7.holds Tryd.pinned (.plain (OpenSpec.upto pduReadsSpec)) pduReadsUptoCard

/-- THE SECOND FORM's CARD OF 'polliwoglaw06.PduNames'. -/
def pduNamesUptoCard : Claim7 := { stood := { row := pduNamesUptoRow, standIns := [], harness := (true, "4e4f2be336cc7f4833bdec19d19aa65bf218a493ea1b0839abc33c3a18d8eec2"), looks := false }, kinds := [], alts := [], laidByText := true, laidKinds := [.data, .data], laidTests := true, laidLooks := .later }
def PduNamesUptoCardSaid : Prop := Claim7.holds Tryd.pinned (.plain (OpenSpec.upto pduNamesSpec)) pduNamesUptoCard

/-- THE SECOND FORM's CARD OF 'polliwoglaw06.PduUnlike'. -/
def pduUnlikeUptoCard : Claim7 := { stood := { row := pduUnlikeUptoRow, standIns := [], harness := (true, "4e4f2be336cc7f4833bdec19d19aa65bf218a493ea1b0839abc33c3a18d8eec2"), looks := false }, kinds := [], alts := [], laidByText := true, laidKinds := [.data], laidTests := true, laidLooks := .later }
def PduUnlikeUptoCardSaid : Prop := Claim7.holds Tryd.pinned (.plain (OpenSpec.upto pduUnlikeSpec)) pduUnlikeUptoCard

/-- THE SECOND FORM's CARD OF 'polliwoglaw06.PduSizes'. -/
def pduSizesUptoCard : Claim7 := { stood := { row := pduSizesUptoRow, standIns := [], harness := (true, "4e4f2be336cc7f4833bdec19d19aa65bf218a493ea1b0839abc33c3a18d8eec2"), looks := false }, kinds := [], alts := [], laidByText := true, laidKinds := [.data], laidTests := true, laidLooks := .later }
def PduSizesUptoCardSaid : Prop := Claim7.holds Tryd.pinned (.plain (OpenSpec.upto pduSizesSpec)) pduSizesUptoCard
end Rows
end Go.Proofs.YtpegnobijnhbmaaDoor
