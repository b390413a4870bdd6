/-
  DERIVED. GIVEN WITH THE SEED: THE CARDS: each row of YtfionfbokoamlaaDoorRows.lean that lists a variable, with what it lists TIED to the program's text (the seventh form; the later family's looks); each row that meets fmt, with fmt's text TOLD by the authors' own Lean function (tested against real Go, not proved from fmt's source: count such statements apart). THE CARD IS WHAT COUNTS. Prove the row's statement (the work); the ties are given (YtfionfbokoamlaaDoorTie.lean); close each card by the builder's one call (the guide's Derived/Test/ToyasCard.lean, 'card_holds'). Laid BY PROGRAM, IN A SANDBOX (cutbox-door.mjs). By AI agents, Wed Nov 11 2026. No macro, syntax, notation, axiom, sorry.
-/
import Derived.Test.YtfionfbokoamlaaDoorRows
import GoSem.ClaimSeven
namespace Go.Proofs.YtfionfbokoamlaaDoor
namespace Rows

/-- THE TIED CARD OF 'polliwoglaw10.EventRequests'. -/
def eventRequestsCard : Claim7 := { stood := { row := eventRequestsRow, standIns := [], harness := (true, "34e6818291cb3ac9dcae5bba5335ff02c6c28e013a7e335bfb429a11ae454f18"), looks := false }, kinds := [], alts := [], laidByText := true, laidKinds := [.data, .data, .data, .data, .data], laidTests := true, laidLooks := .later }
def EventRequestsCardSaid : Prop := Claim7.holds Tryd.pinned (.plain (OpenSpec.ofChange eventRequestsSpec)) eventRequestsCard

/-- THE TIED CARD OF 'polliwoglaw10.EventTexts'. -/
def eventTextsCard : Claim7 := { stood := { row := eventTextsRow, standIns := [], harness := (true, "34e6818291cb3ac9dcae5bba5335ff02c6c28e013a7e335bfb429a11ae454f18"), looks := false }, kinds := [], alts := [], laidByText := true, laidKinds := [.data, .data, .data, .data, .data], laidTests := true, laidLooks := .later }
def EventTextsCardSaid : Prop := Claim7.holds Tryd.pinned (.plain (OpenSpec.ofChange eventTextsSpec)) eventTextsCard

/-- THE TIED CARD OF 'polliwoglaw10.EventUnlike'. -/
def eventUnlikeCard : Claim7 := { stood := { row := eventUnlikeRow, standIns := [], harness := (true, "34e6818291cb3ac9dcae5bba5335ff02c6c28e013a7e335bfb429a11ae454f18"), looks := false }, kinds := [], alts := [], laidByText := true, laidKinds := [.data, .data, .data, .data, .data], laidTests := true, laidLooks := .later }
def EventUnlikeCardSaid : Prop := Claim7.holds Tryd.pinned (.plain (OpenSpec.ofChange eventUnlikeSpec)) eventUnlikeCard

/-- THE TIED CARD OF 'polliwoglaw10.EventHex'. -/
def eventHexCard : Claim7 := { stood := { row := eventHexRow, standIns := [], harness := (true, "34e6818291cb3ac9dcae5bba5335ff02c6c28e013a7e335bfb429a11ae454f18"), looks := false }, kinds := [], alts := [], laidByText := true, laidKinds := [.data, .data, .data, .data, .data], laidTests := true, laidLooks := .later }
def EventHexCardSaid : Prop := Claim7.holds Tryd.pinned (.plain (OpenSpec.ofChange eventHexSpec)) eventHexCard

/-- THE TIED CARD OF 'polliwoglaw10.EventKinds'. -/
def eventKindsCard : Claim7 := { stood := { row := eventKindsRow, standIns := [], harness := (true, "34e6818291cb3ac9dcae5bba5335ff02c6c28e013a7e335bfb429a11ae454f18"), looks := false }, kinds := [], alts := [], laidByText := true, laidKinds := [.data, .data, .data, .data, .data], laidTests := true, laidLooks := .later }
def EventKindsCardSaid : Prop := Claim7.holds Tryd.pinned (.plain (OpenSpec.ofChange eventKindsSpec)) eventKindsCard

/-- THE TIED CARD OF 'polliwoglaw10.EventData'. -/
def eventDataCard : Claim7 := { stood := { row := eventDataRow, standIns := [], harness := (true, "34e6818291cb3ac9dcae5bba5335ff02c6c28e013a7e335bfb429a11ae454f18"), looks := false }, kinds := [], alts := [], laidByText := true, laidKinds := [.data, .data, .data, .data, .data], laidTests := true, laidLooks := .later }
def EventDataCardSaid : Prop := Claim7.holds Tryd.pinned (.plain (OpenSpec.ofChange eventDataSpec)) eventDataCard

/-- THE SECOND FORM's CARD OF 'polliwoglaw10.EventRequests'. -/
def eventRequestsUptoCard : Claim7 := { stood := { row := eventRequestsUptoRow, standIns := [], harness := (true, "34e6818291cb3ac9dcae5bba5335ff02c6c28e013a7e335bfb429a11ae454f18"), looks := false }, kinds := [], alts := [], laidByText := true, laidKinds := [.data, .data, .data, .data, .data], laidTests := true, laidLooks := .later }
def EventRequestsUptoCardSaid : Prop := Claim7.holds Tryd.pinned (.plain (OpenSpec.upto eventRequestsSpec)) eventRequestsUptoCard

/-- THE SECOND FORM's CARD OF 'polliwoglaw10.EventTexts'. -/
def eventTextsUptoCard : Claim7 := { stood := { row := eventTextsUptoRow, standIns := [], harness := (true, "34e6818291cb3ac9dcae5bba5335ff02c6c28e013a7e335bfb429a11ae454f18"), looks := false }, kinds := [], alts := [], laidByText := true, laidKinds := [.data, .data, .data, .data, .data], laidTests := true, laidLooks := .later }
def EventTextsUptoCardSaid : Prop := Claim7.holds Tryd.pinned (.plain (OpenSpec.upto eventTextsSpec)) eventTextsUptoCard

/-- THE SECOND FORM's CARD OF 'polliwoglaw10.EventUnlike'. -/
def eventUnlikeUptoCard : Claim7 := { stood := { row := eventUnlikeUptoRow, standIns := [], harness := (true, "34e6818291cb3ac9dcae5bba5335ff02c6c28e013a7e335bfb429a11ae454f18"), looks := false }, kinds := [], alts := [], laidByText := true, laidKinds := [.data, .data, .data, .data, .data], laidTests := true, laidLooks := .later }
def EventUnlikeUptoCardSaid : Prop := Claim7.holds Tryd.pinned (.plain (OpenSpec.upto eventUnlikeSpec)) eventUnlikeUptoCard

/-- THE SECOND FORM's CARD OF 'polliwoglaw10.EventHex'. -/
def eventHexUptoCard : Claim7 := { stood := { row := eventHexUptoRow, standIns := [], harness := (true, "34e6818291cb3ac9dcae5bba5335ff02c6c28e013a7e335bfb429a11ae454f18"), looks := false }, kinds := [], alts := [], laidByText := true, laidKinds := [.data, .data, .data, .data, .data], laidTests := true, laidLooks := .later }
def EventHexUptoCardSaid : Prop := Claim7.holds Tryd.pinned (.plain (OpenSpec.upto eventHexSpec)) eventHexUptoCard

/-- THE SECOND FORM's CARD OF 'polliwoglaw10.EventKinds'. -/
def eventKindsUptoCard : Claim7 := { stood := { row := eventKindsUptoRow, standIns := [], harness := (true, "34e6818291cb3ac9dcae5bba5335ff02c6c28e013a7e335bfb429a11ae454f18"), looks := false }, kinds := [], alts := [], laidByText := true, laidKinds := [.data, .data, .data, .data, .data], laidTests := true, laidLooks := .later }
def EventKindsUptoCardSaid : Prop := Claim7.holds Tryd.pinned (.plain (OpenSpec.upto eventKindsSpec)) eventKindsUptoCard

/-- THE SECOND FORM's CARD OF 'polliwoglaw10.EventData'. -/
def eventDataUptoCard : Claim7 := { stood := { row := eventDataUptoRow, standIns := [], harness := (true, "34e6818291cb3ac9dcae5bba5335ff02c6c28e013a7e335bfb429a11ae454f18"), looks := false }, kinds := [], alts := [], laidByText := true, laidKinds := [.data, .data, .data, .data, .data], laidTests := true, laidLooks := .later }
def EventDataUptoCardSaid : Prop := Claim7.holds Tryd.pinned (.plain (OpenSpec.upto eventDataSpec)) eventDataUptoCard
end Rows
end Go.Proofs.YtfionfbokoamlaaDoor
