/-
  DERIVED. GIVEN WITH THE SEED: THE CARDS: each row of YtkphompjahcjiaaDoorRows.lean that lists a variable, with what it lists TIED to the program's text (the seventh form; the later family's looks); each row that meets fmt, with fmt's text TOLD by the authors' own Lean function (tested against real Go, not proved from fmt's source: count such statements apart). THE CARD IS WHAT COUNTS. Prove the row's statement (the work); the ties are given (YtkphompjahcjiaaDoorTie.lean); close each card by the builder's one call (the guide's Derived/Test/ToyasCard.lean, 'card_holds'). Laid BY PROGRAM, IN A SANDBOX (cutbox-door.mjs). By AI agents, Wed Nov 11 2026. No macro, syntax, notation, axiom, sorry.
-/
import Derived.Test.YtkphompjahcjiaaDoorRows
import GoSem.ClaimSeven
namespace Go.Proofs.YtkphompjahcjiaaDoor
namespace Rows

/-- THE TIED CARD OF 'polliwoglaw14.ConnPlays'. -/
def connPlaysCard : Claim7 := { stood := { row := connPlaysRow, standIns := [], harness := (true, "ac2306de9f262d37f7581c849a2b6fbdd887df0434516b54cd65a74cebc898ca"), looks := false }, kinds := [], alts := [], laidByText := true, laidKinds := [.data, .data], laidTests := true, laidLooks := .later }
def ConnPlaysCardSaid : Prop := Claim7.holds Tryd.pinned (.plain (OpenSpec.ofChange connPlaysSpec)) connPlaysCard

/-- THE TIED CARD OF 'polliwoglaw14.ConnCovers'. -/
def connCoversCard : Claim7 := { stood := { row := connCoversRow, standIns := [], harness := (true, "ac2306de9f262d37f7581c849a2b6fbdd887df0434516b54cd65a74cebc898ca"), looks := false }, kinds := [], alts := [], laidByText := true, laidKinds := [.data, .data], laidTests := true, laidLooks := .later }
def ConnCoversCardSaid : Prop := Claim7.holds Tryd.pinned (.plain (OpenSpec.ofChange connCoversSpec)) connCoversCard

/-- THE TIED CARD OF 'polliwoglaw14.ConnEpochs'. -/
def connEpochsCard : Claim7 := { stood := { row := connEpochsRow, standIns := [], harness := (true, "ac2306de9f262d37f7581c849a2b6fbdd887df0434516b54cd65a74cebc898ca"), looks := false }, kinds := [], alts := [], laidByText := true, laidKinds := [.data, .data], laidTests := true, laidLooks := .later }
def ConnEpochsCardSaid : Prop := Claim7.holds Tryd.pinned (.plain (OpenSpec.ofChange connEpochsSpec)) connEpochsCard

/-- THE TIED CARD OF 'polliwoglaw14.ConnTwo'. -/
def connTwoCard : Claim7 := { stood := { row := connTwoRow, standIns := [], harness := (true, "ac2306de9f262d37f7581c849a2b6fbdd887df0434516b54cd65a74cebc898ca"), looks := false }, kinds := [], alts := [], laidByText := true, laidKinds := [.data], laidTests := true, laidLooks := .later }
def ConnTwoCardSaid : Prop := Claim7.holds Tryd.pinned (.plain (OpenSpec.ofChange connTwoSpec)) connTwoCard

/-- THE TIED CARD OF 'polliwoglaw14.ConnGives'. -/
def connGivesCard : Claim7 := { stood := { row := connGivesRow, standIns := [], harness := (true, "ac2306de9f262d37f7581c849a2b6fbdd887df0434516b54cd65a74cebc898ca"), looks := false }, kinds := [], alts := [], laidByText := true, laidKinds := [.data, .data], laidTests := true, laidLooks := .later }
def ConnGivesCardSaid : Prop := Claim7.holds Tryd.pinned (.plain (OpenSpec.ofChange connGivesSpec)) connGivesCard

/-- THE TIED CARD OF 'polliwoglaw14.ConnNumbers'. -/
def connNumbersCard : Claim7 := { stood := { row := connNumbersRow, standIns := [], harness := (true, "ac2306de9f262d37f7581c849a2b6fbdd887df0434516b54cd65a74cebc898ca"), looks := false }, kinds := [], alts := [], laidByText := true, laidKinds := [.data], laidTests := true, laidLooks := .later }
def ConnNumbersCardSaid : Prop := Claim7.holds Tryd.pinned (.plain (OpenSpec.ofChange connNumbersSpec)) connNumbersCard

/-- THE TIED CARD OF 'polliwoglaw14.ConnFails'. -/
def connFailsCard : Claim7 := { stood := { row := connFailsRow, standIns := [], harness := (true, "ac2306de9f262d37f7581c849a2b6fbdd887df0434516b54cd65a74cebc898ca"), looks := false }, kinds := [], alts := [], laidByText := true, laidKinds := [.data, .data], laidTests := true, laidLooks := .later }
def ConnFailsCardSaid : Prop := Claim7.holds Tryd.pinned (.plain (OpenSpec.ofChange connFailsSpec)) connFailsCard

/-- THE SECOND FORM's CARD OF 'polliwoglaw14.ConnPlays'. -/
def connPlaysUptoCard : Claim7 := { stood := { row := connPlaysUptoRow, standIns := [], harness := (true, "ac2306de9f262d37f7581c849a2b6fbdd887df0434516b54cd65a74cebc898ca"), looks := false }, kinds := [], alts := [], laidByText := true, laidKinds := [.data, .data], laidTests := true, laidLooks := .later }
def ConnPlaysUptoCardSaid : Prop := Claim7.holds Tryd.pinned (.plain (OpenSpec.upto connPlaysSpec)) connPlaysUptoCard

/-- THE SECOND FORM's CARD OF 'polliwoglaw14.ConnCovers'. -/
def connCoversUptoCard : Claim7 := { stood := { row := connCoversUptoRow, standIns := [], harness := (true, "ac2306de9f262d37f7581c849a2b6fbdd887df0434516b54cd65a74cebc898ca"), looks := false }, kinds := [], alts := [], laidByText := true, laidKinds := [.data, .data], laidTests := true, laidLooks := .later }
def ConnCoversUptoCardSaid : Prop := Claim7.holds Tryd.pinned (.plain (OpenSpec.upto connCoversSpec)) connCoversUptoCard

/-- THE SECOND FORM's CARD OF 'polliwoglaw14.ConnEpochs'. -/
def connEpochsUptoCard : Claim7 := { stood := { row := connEpochsUptoRow, standIns := [], harness := (true, "ac2306de9f262d37f7581c849a2b6fbdd887df0434516b54cd65a74cebc898ca"), looks := false }, kinds := [], alts := [], laidByText := true, laidKinds := [.data, .data], laidTests := true, laidLooks := .later }
def ConnEpochsUptoCardSaid : Prop := Claim7.holds Tryd.pinned (.plain (OpenSpec.upto connEpochsSpec)) connEpochsUptoCard

/-- THE SECOND FORM's CARD OF 'polliwoglaw14.ConnTwo'. -/
def connTwoUptoCard : Claim7 := { stood := { row := connTwoUptoRow, standIns := [], harness := (true, "ac2306de9f262d37f7581c849a2b6fbdd887df0434516b54cd65a74cebc898ca"), looks := false }, kinds := [], alts := [], laidByText := true, laidKinds := [.data], laidTests := true, laidLooks := .later }
def ConnTwoUptoCardSaid : Prop := Claim7.holds Tryd.pinned (.plain (OpenSpec.upto connTwoSpec)) connTwoUptoCard

/-- THE SECOND FORM's CARD OF 'polliwoglaw14.ConnGives'. -/
def connGivesUptoCard : Claim7 := { stood := { row := connGivesUptoRow, standIns := [], harness := (true, "ac2306de9f262d37f7581c849a2b6fbdd887df0434516b54cd65a74cebc898ca"), looks := false }, kinds := [], alts := [], laidByText := true, laidKinds := [.data, .data], laidTests := true, laidLooks := .later }
def ConnGivesUptoCardSaid : Prop := Claim7.holds Tryd.pinned (.plain (OpenSpec.upto connGivesSpec)) connGivesUptoCard

/-- THE SECOND FORM's CARD OF 'polliwoglaw14.ConnNumbers'. -/
def connNumbersUptoCard : Claim7 := { stood := { row := connNumbersUptoRow, standIns := [], harness := (true, "ac2306de9f262d37f7581c849a2b6fbdd887df0434516b54cd65a74cebc898ca"), looks := false }, kinds := [], alts := [], laidByText := true, laidKinds := [.data], laidTests := true, laidLooks := .later }
def ConnNumbersUptoCardSaid : Prop := Claim7.holds Tryd.pinned (.plain (OpenSpec.upto connNumbersSpec)) connNumbersUptoCard

/-- THE SECOND FORM's CARD OF 'polliwoglaw14.ConnFails'. -/
def connFailsUptoCard : Claim7 := { stood := { row := connFailsUptoRow, standIns := [], harness := (true, "ac2306de9f262d37f7581c849a2b6fbdd887df0434516b54cd65a74cebc898ca"), looks := false }, kinds := [], alts := [], laidByText := true, laidKinds := [.data, .data], laidTests := true, laidLooks := .later }
def ConnFailsUptoCardSaid : Prop := Claim7.holds Tryd.pinned (.plain (OpenSpec.upto connFailsSpec)) connFailsUptoCard
end Rows
end Go.Proofs.YtkphompjahcjiaaDoor
