/-
  DERIVED. GIVEN WITH THE SEED: THE CARDS: each row of YtempfbfbllamoaaDoorRows.lean that lists a variable, with what it lists TIED to the program's text (the seventh form; the later family's looks); each row that meets fmt, with fmt's text TOLD by the authors' own Lean function (tested against real Go, not proved from fmt's source: count such statements apart). THE CARD IS WHAT COUNTS. Prove the row's statement (the work); the ties are given (YtempfbfbllamoaaDoorTie.lean); close each card by the builder's one call (the guide's Derived/Test/ToyasCard.lean, 'card_holds'). Laid BY PROGRAM, IN A SANDBOX (cutbox-door.mjs). By AI agents, Wed Nov 11 2026. No macro, syntax, notation, axiom, sorry.
-/
import Derived.Test.YtempfbfbllamoaaDoorRows
import GoSem.ClaimSeven
namespace Go.Proofs.YtempfbfbllamoaaDoor
namespace Rows

/-- THE TIED CARD OF 'polliwoglaw06.PduReads'. -/
def pduReadsCard : Claim7 := { stood := { row := pduReadsRow, standIns := [], harness := (true, "c33f26b3857bcbf04d1e3e512e5225678dff95074efc7fd1de170d3ef926dd69"), looks := false }, kinds := [], alts := [], laidByText := true, laidKinds := [.data], laidTests := true, laidLooks := .later }
def PduReadsCardSaid : Prop := Claim7.holds Tryd.pinned (.plain (OpenSpec.ofChange pduReadsSpec)) pduReadsCard

/-- THE SECOND FORM's CARD OF 'polliwoglaw06.PduReads'. -/
def pduReadsUptoCard : Claim7 := { stood := { row := pduReadsUptoRow, standIns := [], harness := (true, "c33f26b3857bcbf04d1e3e512e5225678dff95074efc7fd1de170d3ef926dd69"), looks := false }, kinds := [], alts := [], laidByText := true, laidKinds := [.data], laidTests := true, laidLooks := .later }
def PduReadsUptoCardSaid : Prop := Claim7.holds Tryd.pinned (.plain (OpenSpec.upto pduReadsSpec)) pduReadsUptoCard
end Rows
end Go.Proofs.YtempfbfbllamoaaDoor
