/-
  NARROWER THAN 'FOR EVERY INPUT', by the rows' own cells (each row's printed sentence says how): PduBack: laid · PduReads: laid · PduNames: laid · PduUnlike: laid · PduSizes: laid.
  DERIVED. THE GIVEN ROWS OF THIS SEAT. 5 by the template 'for every input the law returns true; each argument reads behind the call as it read before'; 0 by the template 'total and deterministic' (their statements: YtpegnobijnhbmaaDoorTotals.lean).
  GIVEN WITH THE SEED: the statements are not yours to turn. If you find one false, say at which input.
  Laid BY PROGRAM, IN A SANDBOX (cutbox-rows.mjs): the forced cells as the released guide's own fill.sh prints them over the translation a9163d7a344907ea… (all of the seat's roots in one cut). By AI agents, Wed Nov 11 2026. No macro, syntax, notation, axiom, sorry.
-/
import Derived.Test.YtpegnobijnhbmaaDoorChecked
import GoSem.Claim
import GoSem.ClaimJoined
import GoSem.ClaimMapViews
import Derived.JoinedTies
import Derived.KernelRfl
namespace Go.Proofs.YtpegnobijnhbmaaDoor
/- THE CELL 'sum', in the pinned program and in every row, IS THE sha256 OF THE DUMP (.gsa) THAT YtpegnobijnhbmaaDoorProg.lean LOADS. Nothing in Lean hashes anything: it is a label: what it is worth is what the hold of that sum in a sandbox is worth. -/
noncomputable def Tryd.pinned : Pinned := { name := "ytpegnobijnhbmaadoor", sum := "a9163d7a344907ea24c3ab706913042f70dff4b43a2dc53c6f2aacb1a2158ae1", checked := Tryd.checked }
namespace Rows
def none {H : Type} : Left H := { results := [], args := [] }

/- WHAT THE LISTED PACKAGE-LEVEL VARIABLES READ AS WHEN THE CALL BEGINS. Each datum BY PROGRAM (the guide's laid-datum.mjs) off the statement by which the dump's own 'gosem.cut.vars' lays the variable. In a bare row this is a premise. The card (YtpegnobijnhbmaaDoorCards.lean) ties it to the program's text. -/
def laid_polliwog_pdu_forms {H : Type} : DataW H := .agg [.agg [.lit (.int .i64 0), .lit (.int .u32 0), .lit (.int .u32 0), .lit (.int .u32 0), .lit (.int .i64 0), .lit (.int .i64 0), .lit (.bool false), .lit (.int .i64 0)], .agg [.lit (.int .i64 255), .lit (.int .u32 16777215), .lit (.int .u32 0), .lit (.int .u32 0), .lit (.int .i64 0), .lit (.int .i64 0), .lit (.bool false), .lit (.int .i64 64)], .agg [.lit (.int .i64 255), .lit (.int .u32 16777215), .lit (.int .u32 0), .lit (.int .u32 0), .lit (.int .i64 0), .lit (.int .i64 0), .lit (.bool false), .lit (.int .i64 0)], .agg [.lit (.int .i64 255), .lit (.int .u32 0), .lit (.int .u32 0), .lit (.int .u32 0), .lit (.int .i64 0), .lit (.int .i64 0), .lit (.bool true), .lit (.int .i64 64)], .agg [.lit (.int .i64 255), .lit (.int .u32 0), .lit (.int .u32 0), .lit (.int .u32 0), .lit (.int .i64 0), .lit (.int .i64 0), .lit (.bool false), .lit (.int .i64 0)], .agg [.lit (.int .i64 255), .lit (.int .u32 16777215), .lit (.int .u32 0), .lit (.int .u32 0), .lit (.int .i64 0), .lit (.int .i64 0), .lit (.bool false), .lit (.int .i64 64)], .agg [.lit (.int .i64 255), .lit (.int .u32 16777215), .lit (.int .u32 0), .lit (.int .u32 0), .lit (.int .i64 0), .lit (.int .i64 0), .lit (.bool false), .lit (.int .i64 0)], .agg [.lit (.int .i64 255), .lit (.int .u32 0), .lit (.int .u32 0), .lit (.int .u32 0), .lit (.int .i64 0), .lit (.int .i64 0), .lit (.bool false), .lit (.int .i64 64)], .agg [.lit (.int .i64 0), .lit (.int .u32 16777215), .lit (.int .u32 0), .lit (.int .u32 0), .lit (.int .i64 0), .lit (.int .i64 0), .lit (.bool false), .lit (.int .i64 200)], .agg [.lit (.int .i64 255), .lit (.int .u32 16777215), .lit (.int .u32 0), .lit (.int .u32 0), .lit (.int .i64 0), .lit (.int .i64 0), .lit (.bool false), .lit (.int .i64 0)], .agg [.lit (.int .i64 0), .lit (.int .u32 16777215), .lit (.int .u32 16777215), .lit (.int .u32 0), .lit (.int .i64 0), .lit (.int .i64 0), .lit (.bool false), .lit (.int .i64 0)], .agg [.lit (.int .i64 0), .lit (.int .u32 16777215), .lit (.int .u32 16777215), .lit (.int .u32 16777215), .lit (.int .i64 0), .lit (.int .i64 128), .lit (.bool false), .lit (.int .i64 0)], .agg [.lit (.int .i64 0), .lit (.int .u32 16777215), .lit (.int .u32 0), .lit (.int .u32 16777215), .lit (.int .i64 2), .lit (.int .i64 2), .lit (.bool false), .lit (.int .i64 0)], .agg [.lit (.int .i64 0), .lit (.int .u32 0), .lit (.int .u32 0), .lit (.int .u32 0), .lit (.int .i64 0), .lit (.int .i64 0), .lit (.bool false), .lit (.int .i64 200)], .agg [.lit (.int .i64 0), .lit (.int .u32 0), .lit (.int .u32 0), .lit (.int .u32 0), .lit (.int .i64 0), .lit (.int .i64 0), .lit (.bool false), .lit (.int .i64 200)], .agg [.lit (.int .i64 255), .lit (.int .u32 16777215), .lit (.int .u32 0), .lit (.int .u32 0), .lit (.int .i64 0), .lit (.int .i64 0), .lit (.bool false), .lit (.int .i64 0)]]
def laid_polliwog_pdu_names {H : Type} : DataW H := .agg [.lit (.string []), .lit (.string [98, 103, 110]), .lit (.string [98, 103, 97, 107]), .lit (.string [101, 110, 100]), .lit (.string [101, 110, 100, 97, 107]), .lit (.string [114, 115]), .lit (.string [114, 115, 97, 107]), .lit (.string [98, 103, 114, 101, 106]), .lit (.string [115, 100]), .lit (.string [101, 114]), .lit (.string [112, 111, 108, 108]), .lit (.string [115, 116, 97, 116]), .lit (.string [117, 115, 116, 97, 116]), .lit (.string [117, 100]), .lit (.string [109, 100]), .lit (.string [101, 114, 97, 107])]

/-- 'polliwoglaw06.PduBack': WHATEVER THE INPUT: true; the input reads as it did. -/
def pduBackSpec : ChangeSpec := { name := "pduBack", fn := fun _ => fun
  | [d] => { results := [.lit (.bool true)], args := [d] }
  | _ => none }
def pduBackRow : OpenClaim := { program := "ytpegnobijnhbmaadoor", sum := "a9163d7a344907ea24c3ab706913042f70dff4b43a2dc53c6f2aacb1a2158ae1", func := "polliwog/polliwoglaw06.PduBack", spec := "pduBack", unfollowed := true, recurses := true, named := ["polliwog/pdu.forms"], apart := false, laid := [("polliwog/pdu.forms", laid_polliwog_pdu_forms)] }
def PduBackSaid : Prop := pduBackRow.holds Tryd.pinned (OpenSpec.ofChange pduBackSpec)

/-- ITS FALSE NEIGHBOUR: 'it returns false'. Refute it at one input. -/
def pduBackWrong : ChangeSpec := { name := "pduBack", fn := fun _ => fun
  | [d] => { results := [.lit (.bool false)], args := [d] }
  | _ => none }
def PduBackWrongFalsely : Prop := pduBackRow.holds Tryd.pinned (OpenSpec.ofChange pduBackWrong)

/-- 'polliwoglaw06.PduReads': WHATEVER THE INPUT: true; the input reads as it did. -/
def pduReadsSpec : ChangeSpec := { name := "pduReads", fn := fun _ => fun
  | [d] => { results := [.lit (.bool true)], args := [d] }
  | _ => none }
def pduReadsRow : OpenClaim := { program := "ytpegnobijnhbmaadoor", sum := "a9163d7a344907ea24c3ab706913042f70dff4b43a2dc53c6f2aacb1a2158ae1", func := "polliwog/polliwoglaw06.PduReads", spec := "pduReads", unfollowed := true, recurses := true, named := ["polliwog/pdu.forms"], apart := false, laid := [("polliwog/pdu.forms", laid_polliwog_pdu_forms)] }
def PduReadsSaid : Prop := pduReadsRow.holds Tryd.pinned (OpenSpec.ofChange pduReadsSpec)

/-- ITS FALSE NEIGHBOUR: 'it returns false'. Refute it at one input. -/
def pduReadsWrong : ChangeSpec := { name := "pduReads", fn := fun _ => fun
  | [d] => { results := [.lit (.bool false)], args := [d] }
  | _ => none }
def PduReadsWrongFalsely : Prop := pduReadsRow.holds Tryd.pinned (OpenSpec.ofChange pduReadsWrong)

/-- 'polliwoglaw06.PduNames': WHATEVER THE INPUT: true; the input reads as it did. -/
def pduNamesSpec : ChangeSpec := { name := "pduNames", fn := fun _ => fun
  | [d] => { results := [.lit (.bool true)], args := [d] }
  | _ => none }
def pduNamesRow : OpenClaim := { program := "ytpegnobijnhbmaadoor", sum := "a9163d7a344907ea24c3ab706913042f70dff4b43a2dc53c6f2aacb1a2158ae1", func := "polliwog/polliwoglaw06.PduNames", spec := "pduNames", unfollowed := true, recurses := true, named := ["polliwog/pdu.forms", "polliwog/pdu.names"], apart := false, laid := [("polliwog/pdu.forms", laid_polliwog_pdu_forms), ("polliwog/pdu.names", laid_polliwog_pdu_names)] }
def PduNamesSaid : Prop := pduNamesRow.holds Tryd.pinned (OpenSpec.ofChange pduNamesSpec)

/-- ITS FALSE NEIGHBOUR: 'it returns false'. Refute it at one input. -/
def pduNamesWrong : ChangeSpec := { name := "pduNames", fn := fun _ => fun
  | [d] => { results := [.lit (.bool false)], args := [d] }
  | _ => none }
def PduNamesWrongFalsely : Prop := pduNamesRow.holds Tryd.pinned (OpenSpec.ofChange pduNamesWrong)

/-- 'polliwoglaw06.PduUnlike': WHATEVER THE INPUT: true; the input reads as it did. -/
def pduUnlikeSpec : ChangeSpec := { name := "pduUnlike", fn := fun _ => fun
  | [d1, d2] => { results := [.lit (.bool true)], args := [d1, d2] }
  | _ => none }
def pduUnlikeRow : OpenClaim := { program := "ytpegnobijnhbmaadoor", sum := "a9163d7a344907ea24c3ab706913042f70dff4b43a2dc53c6f2aacb1a2158ae1", func := "polliwog/polliwoglaw06.PduUnlike", spec := "pduUnlike", unfollowed := true, recurses := true, named := ["polliwog/pdu.forms"], apart := false, laid := [("polliwog/pdu.forms", laid_polliwog_pdu_forms)] }
def PduUnlikeSaid : Prop := pduUnlikeRow.holds Tryd.pinned (OpenSpec.ofChange pduUnlikeSpec)

/-- ITS FALSE NEIGHBOUR: 'it returns false'. Refute it at one input. -/
def pduUnlikeWrong : ChangeSpec := { name := "pduUnlike", fn := fun _ => fun
  | [d1, d2] => { results := [.lit (.bool false)], args := [d1, d2] }
  | _ => none }
def PduUnlikeWrongFalsely : Prop := pduUnlikeRow.holds Tryd.pinned (OpenSpec.ofChange pduUnlikeWrong)

/-- 'polliwoglaw06.PduSizes': WHATEVER THE INPUT: true; the input reads as it did. -/
def pduSizesSpec : ChangeSpec := { name := "pduSizes", fn := fun _ => fun
  | [d] => { results := [.lit (.bool true)], args := [d] }
  | _ => none }
def pduSizesRow : OpenClaim := { program := "ytpegnobijnhbmaadoor", sum := "a9163d7a344907ea24c3ab706913042f70dff4b43a2dc53c6f2aacb1a2158ae1", func := "polliwog/polliwoglaw06.PduSizes", spec := "pduSizes", unfollowed := true, recurses := true, named := ["polliwog/pdu.forms"], apart := false, laid := [("polliwog/pdu.forms", laid_polliwog_pdu_forms)] }
def PduSizesSaid : Prop := pduSizesRow.holds Tryd.pinned (OpenSpec.ofChange pduSizesSpec)

/-- ITS FALSE NEIGHBOUR: 'it returns false'. Refute it at one input. -/
def pduSizesWrong : ChangeSpec := { name := "pduSizes", fn := fun _ => fun
  | [d] => { results := [.lit (.bool false)], args := [d] }
  | _ => none }
def PduSizesWrongFalsely : Prop := pduSizesRow.holds Tryd.pinned (OpenSpec.ofChange pduSizesWrong)

/- THE SECOND FORM. 'bulk': how many values and letters a reading holds, each counted each time it is reached (what is shared counts as often as it is met; a slice's spare places count too). A statement '..UptoSaid' is the law's where the arguments, and the package variables that the reading takes, are together of bulk at most 1048576: NARROWER than '..Said'. Prove '..Said' where nothing that the law and all that it calls make is longer than what came in: it says more and counts as full. Else prove '..UptoSaid'. A law counts once. -/
mutual
def uptoBulk {H : Type} : DataW H → Nat
  | .lit (.string bytes) => bytes.length + 1
  | .lit _ => 1
  | .nil => 1
  | .ptr d => uptoBulk d + 1
  | .slice elems spare => uptoBulkAll elems + uptoBulkAll spare + 1
  | .agg parts => uptoBulkAll parts + 1
  | .iface _ d => uptoBulk d + 1
  | .map entries => uptoBulkEntries entries + 1
  | .held _ => 1
def uptoBulkAll {H : Type} : List (DataW H) → Nat
  | [] => 0
  | d :: r => uptoBulk d + uptoBulkAll r
def uptoBulkEntries {H : Type} : List (Lit × DataW H) → Nat
  | [] => 0
  | x :: r => uptoBulkEntry x + uptoBulkEntries r
def uptoBulkEntry {H : Type} : Lit × DataW H → Nat
  | (.string bytes, d) => bytes.length + uptoBulk d + 1
  | (_, d) => uptoBulk d + 1
 end
def uptoSmall : (H : Type) → List (DataW H) → Bool := fun _ ds => decide (uptoBulkAll ds ≤ 1048576)
def OpenSpec.upto (s : _root_.Go.ChangeSpec) : _root_.Go.OpenSpec := { _root_.Go.OpenSpec.ofChange s with cond := some uptoSmall }

/-- 'polliwoglaw06.PduBack', WHERE WHAT IT READS IS OF BULK AT MOST 1048576: true; the input reads as it did. -/
def pduBackUptoRow : OpenClaim := { program := "ytpegnobijnhbmaadoor", sum := "a9163d7a344907ea24c3ab706913042f70dff4b43a2dc53c6f2aacb1a2158ae1", func := "polliwog/polliwoglaw06.PduBack", spec := "pduBack", unfollowed := true, recurses := true, named := ["polliwog/pdu.forms"], apart := false, laid := [("polliwog/pdu.forms", laid_polliwog_pdu_forms)], narrowed := true }
def PduBackUptoSaid : Prop := pduBackUptoRow.holds Tryd.pinned (OpenSpec.upto pduBackSpec)

/-- 'polliwoglaw06.PduReads', WHERE WHAT IT READS IS OF BULK AT MOST 1048576: true; the input reads as it did. -/
def pduReadsUptoRow : OpenClaim := { program := "ytpegnobijnhbmaadoor", sum := "a9163d7a344907ea24c3ab706913042f70dff4b43a2dc53c6f2aacb1a2158ae1", func := "polliwog/polliwoglaw06.PduReads", spec := "pduReads", unfollowed := true, recurses := true, named := ["polliwog/pdu.forms"], apart := false, laid := [("polliwog/pdu.forms", laid_polliwog_pdu_forms)], narrowed := true }
def PduReadsUptoSaid : Prop := pduReadsUptoRow.holds Tryd.pinned (OpenSpec.upto pduReadsSpec)

/-- 'polliwoglaw06.PduNames', WHERE WHAT IT READS IS OF BULK AT MOST 1048576: true; the input reads as it did. -/
def pduNamesUptoRow : OpenClaim := { program := "ytpegnobijnhbmaadoor", sum := "a9163d7a344907ea24c3ab706913042f70dff4b43a2dc53c6f2aacb1a2158ae1", func := "polliwog/polliwoglaw06.PduNames", spec := "pduNames", unfollowed := true, recurses := true, named := ["polliwog/pdu.forms", "polliwog/pdu.names"], apart := false, laid := [("polliwog/pdu.forms", laid_polliwog_pdu_forms), ("polliwog/pdu.names", laid_polliwog_pdu_names)], narrowed := true }
def PduNamesUptoSaid : Prop := pduNamesUptoRow.holds Tryd.pinned (OpenSpec.upto pduNamesSpec)

/-- 'polliwoglaw06.PduUnlike', WHERE WHAT IT READS IS OF BULK AT MOST 1048576: true; the input reads as it did. -/
def pduUnlikeUptoRow : OpenClaim := { program := "ytpegnobijnhbmaadoor", sum := "a9163d7a344907ea24c3ab706913042f70dff4b43a2dc53c6f2aacb1a2158ae1", func := "polliwog/polliwoglaw06.PduUnlike", spec := "pduUnlike", unfollowed := true, recurses := true, named := ["polliwog/pdu.forms"], apart := false, laid := [("polliwog/pdu.forms", laid_polliwog_pdu_forms)], narrowed := true }
def PduUnlikeUptoSaid : Prop := pduUnlikeUptoRow.holds Tryd.pinned (OpenSpec.upto pduUnlikeSpec)

/-- 'polliwoglaw06.PduSizes', WHERE WHAT IT READS IS OF BULK AT MOST 1048576: true; the input reads as it did. -/
def pduSizesUptoRow : OpenClaim := { program := "ytpegnobijnhbmaadoor", sum := "a9163d7a344907ea24c3ab706913042f70dff4b43a2dc53c6f2aacb1a2158ae1", func := "polliwog/polliwoglaw06.PduSizes", spec := "pduSizes", unfollowed := true, recurses := true, named := ["polliwog/pdu.forms"], apart := false, laid := [("polliwog/pdu.forms", laid_polliwog_pdu_forms)], narrowed := true }
def PduSizesUptoSaid : Prop := pduSizesUptoRow.holds Tryd.pinned (OpenSpec.upto pduSizesSpec)

end Rows
end Go.Proofs.YtpegnobijnhbmaaDoor
