/-
  NARROWER THAN 'FOR EVERY INPUT', by the rows' own cells (each row's printed sentence says how): ConnPlays: laid · ConnCovers: laid · ConnEpochs: laid · ConnTwo: laid · ConnGives: laid · ConnNumbers: laid · ConnFails: laid.
  DERIVED. THE GIVEN ROWS OF THIS SEAT. 7 by the template 'for every input the law returns true; each argument reads behind the call as it read before'; 0 by the template 'total and deterministic' (their statements: YtkphompjahcjiaaDoorTotals.lean).
  GIVEN WITH THE SEED: the statements are not yours to turn. If you find one false, say at which input.
  Laid BY PROGRAM, IN A SANDBOX (cutbox-rows.mjs): the forced cells as the released guide's own fill.sh prints them over the translation 190415d3485fa644… (all of the seat's roots in one cut). By AI agents, Wed Nov 11 2026. No macro, syntax, notation, axiom, sorry.
-/
import Derived.Test.YtkphompjahcjiaaDoorChecked
import GoSem.Claim
import GoSem.ClaimJoined
import GoSem.ClaimMapViews
import Derived.JoinedTies
import Derived.KernelRfl
namespace Go.Proofs.YtkphompjahcjiaaDoor
/- THE CELL 'sum', in the pinned program and in every row, IS THE sha256 OF THE DUMP (.gsa) THAT YtkphompjahcjiaaDoorProg.lean LOADS. Nothing in Lean hashes anything: it is a label: what it is worth is what the hold of that sum in a sandbox is worth. -/
noncomputable def Tryd.pinned : Pinned := { name := "ytkphompjahcjiaadoor", sum := "190415d3485fa644c14b3ee2a035a84eac2eccfdf6b23a329dcafbbbddd6b1c4", checked := Tryd.checked }
namespace Rows
def none {H : Type} : Left H := { results := [], args := [] }

/- WHAT THE LISTED PACKAGE-LEVEL VARIABLES READ AS WHEN THE CALL BEGINS. Each datum BY PROGRAM (the guide's laid-datum.mjs) off the statement by which the dump's own 'gosem.cut.vars' lays the variable. In a bare row this is a premise. The card (YtkphompjahcjiaaDoorCards.lean) ties it to the program's text. -/
def laid_polliwog_pdu_forms {H : Type} : DataW H := .agg [.agg [.lit (.int .i64 0), .lit (.int .u32 0), .lit (.int .u32 0), .lit (.int .u32 0), .lit (.int .i64 0), .lit (.int .i64 0), .lit (.bool false), .lit (.int .i64 0)], .agg [.lit (.int .i64 255), .lit (.int .u32 16777215), .lit (.int .u32 0), .lit (.int .u32 0), .lit (.int .i64 0), .lit (.int .i64 0), .lit (.bool false), .lit (.int .i64 64)], .agg [.lit (.int .i64 255), .lit (.int .u32 16777215), .lit (.int .u32 0), .lit (.int .u32 0), .lit (.int .i64 0), .lit (.int .i64 0), .lit (.bool false), .lit (.int .i64 0)], .agg [.lit (.int .i64 255), .lit (.int .u32 0), .lit (.int .u32 0), .lit (.int .u32 0), .lit (.int .i64 0), .lit (.int .i64 0), .lit (.bool true), .lit (.int .i64 64)], .agg [.lit (.int .i64 255), .lit (.int .u32 0), .lit (.int .u32 0), .lit (.int .u32 0), .lit (.int .i64 0), .lit (.int .i64 0), .lit (.bool false), .lit (.int .i64 0)], .agg [.lit (.int .i64 255), .lit (.int .u32 16777215), .lit (.int .u32 0), .lit (.int .u32 0), .lit (.int .i64 0), .lit (.int .i64 0), .lit (.bool false), .lit (.int .i64 64)], .agg [.lit (.int .i64 255), .lit (.int .u32 16777215), .lit (.int .u32 0), .lit (.int .u32 0), .lit (.int .i64 0), .lit (.int .i64 0), .lit (.bool false), .lit (.int .i64 0)], .agg [.lit (.int .i64 255), .lit (.int .u32 0), .lit (.int .u32 0), .lit (.int .u32 0), .lit (.int .i64 0), .lit (.int .i64 0), .lit (.bool false), .lit (.int .i64 64)], .agg [.lit (.int .i64 0), .lit (.int .u32 16777215), .lit (.int .u32 0), .lit (.int .u32 0), .lit (.int .i64 0), .lit (.int .i64 0), .lit (.bool false), .lit (.int .i64 200)], .agg [.lit (.int .i64 255), .lit (.int .u32 16777215), .lit (.int .u32 0), .lit (.int .u32 0), .lit (.int .i64 0), .lit (.int .i64 0), .lit (.bool false), .lit (.int .i64 0)], .agg [.lit (.int .i64 0), .lit (.int .u32 16777215), .lit (.int .u32 16777215), .lit (.int .u32 0), .lit (.int .i64 0), .lit (.int .i64 0), .lit (.bool false), .lit (.int .i64 0)], .agg [.lit (.int .i64 0), .lit (.int .u32 16777215), .lit (.int .u32 16777215), .lit (.int .u32 16777215), .lit (.int .i64 0), .lit (.int .i64 128), .lit (.bool false), .lit (.int .i64 0)], .agg [.lit (.int .i64 0), .lit (.int .u32 16777215), .lit (.int .u32 0), .lit (.int .u32 16777215), .lit (.int .i64 2), .lit (.int .i64 2), .lit (.bool false), .lit (.int .i64 0)], .agg [.lit (.int .i64 0), .lit (.int .u32 0), .lit (.int .u32 0), .lit (.int .u32 0), .lit (.int .i64 0), .lit (.int .i64 0), .lit (.bool false), .lit (.int .i64 200)], .agg [.lit (.int .i64 0), .lit (.int .u32 0), .lit (.int .u32 0), .lit (.int .u32 0), .lit (.int .i64 0), .lit (.int .i64 0), .lit (.bool false), .lit (.int .i64 200)], .agg [.lit (.int .i64 255), .lit (.int .u32 16777215), .lit (.int .u32 0), .lit (.int .u32 0), .lit (.int .i64 0), .lit (.int .i64 0), .lit (.bool false), .lit (.int .i64 0)]]
def laid_polliwog_rules_letters {H : Type} : DataW H := .agg [.lit (.int .u8 0), .lit (.int .u8 66), .lit (.int .u8 67), .lit (.int .u8 69), .lit (.int .u8 70), .lit (.int .u8 74), .lit (.int .u8 75), .lit (.int .u8 68), .lit (.int .u8 65), .lit (.int .u8 76), .lit (.int .u8 71), .lit (.int .u8 72), .lit (.int .u8 73), .lit (.int .u8 0), .lit (.int .u8 0), .lit (.int .u8 77)]

/-- 'polliwoglaw14.ConnPlays': WHATEVER THE INPUT: true; the input reads as it did. -/
def connPlaysSpec : ChangeSpec := { name := "connPlays", fn := fun _ => fun
  | [d1, d2] => { results := [.lit (.bool true)], args := [d1, d2] }
  | _ => none }
def connPlaysRow : OpenClaim := { program := "ytkphompjahcjiaadoor", sum := "190415d3485fa644c14b3ee2a035a84eac2eccfdf6b23a329dcafbbbddd6b1c4", func := "polliwog/polliwoglaw14.ConnPlays", spec := "connPlays", unfollowed := true, recurses := true, named := ["polliwog/rules.letters", "polliwog/pdu.forms"], apart := false, laid := [("polliwog/pdu.forms", laid_polliwog_pdu_forms), ("polliwog/rules.letters", laid_polliwog_rules_letters)] }
def ConnPlaysSaid : Prop := connPlaysRow.holds Tryd.pinned (OpenSpec.ofChange connPlaysSpec)

/-- ITS FALSE NEIGHBOUR: 'it returns false'. Refute it at one input. -/
def connPlaysWrong : ChangeSpec := { name := "connPlays", fn := fun _ => fun
  | [d1, d2] => { results := [.lit (.bool false)], args := [d1, d2] }
  | _ => none }
def ConnPlaysWrongFalsely : Prop := connPlaysRow.holds Tryd.pinned (OpenSpec.ofChange connPlaysWrong)

/-- 'polliwoglaw14.ConnCovers': WHATEVER THE INPUT: true; the input reads as it did. -/
def connCoversSpec : ChangeSpec := { name := "connCovers", fn := fun _ => fun
  | [d1, d2] => { results := [.lit (.bool true)], args := [d1, d2] }
  | _ => none }
def connCoversRow : OpenClaim := { program := "ytkphompjahcjiaadoor", sum := "190415d3485fa644c14b3ee2a035a84eac2eccfdf6b23a329dcafbbbddd6b1c4", func := "polliwog/polliwoglaw14.ConnCovers", spec := "connCovers", unfollowed := true, recurses := true, named := ["polliwog/rules.letters", "polliwog/pdu.forms"], apart := false, laid := [("polliwog/pdu.forms", laid_polliwog_pdu_forms), ("polliwog/rules.letters", laid_polliwog_rules_letters)] }
def ConnCoversSaid : Prop := connCoversRow.holds Tryd.pinned (OpenSpec.ofChange connCoversSpec)

/-- ITS FALSE NEIGHBOUR: 'it returns false'. Refute it at one input. -/
def connCoversWrong : ChangeSpec := { name := "connCovers", fn := fun _ => fun
  | [d1, d2] => { results := [.lit (.bool false)], args := [d1, d2] }
  | _ => none }
def ConnCoversWrongFalsely : Prop := connCoversRow.holds Tryd.pinned (OpenSpec.ofChange connCoversWrong)

/-- 'polliwoglaw14.ConnEpochs': WHATEVER THE INPUT: true; the input reads as it did. -/
def connEpochsSpec : ChangeSpec := { name := "connEpochs", fn := fun _ => fun
  | [d1, d2] => { results := [.lit (.bool true)], args := [d1, d2] }
  | _ => none }
def connEpochsRow : OpenClaim := { program := "ytkphompjahcjiaadoor", sum := "190415d3485fa644c14b3ee2a035a84eac2eccfdf6b23a329dcafbbbddd6b1c4", func := "polliwog/polliwoglaw14.ConnEpochs", spec := "connEpochs", unfollowed := true, recurses := true, named := ["polliwog/rules.letters", "polliwog/pdu.forms"], apart := false, laid := [("polliwog/pdu.forms", laid_polliwog_pdu_forms), ("polliwog/rules.letters", laid_polliwog_rules_letters)] }
def ConnEpochsSaid : Prop := connEpochsRow.holds Tryd.pinned (OpenSpec.ofChange connEpochsSpec)

/-- ITS FALSE NEIGHBOUR: 'it returns false'. Refute it at one input. -/
def connEpochsWrong : ChangeSpec := { name := "connEpochs", fn := fun _ => fun
  | [d1, d2] => { results := [.lit (.bool false)], args := [d1, d2] }
  | _ => none }
def ConnEpochsWrongFalsely : Prop := connEpochsRow.holds Tryd.pinned (OpenSpec.ofChange connEpochsWrong)

/-- 'polliwoglaw14.ConnTwo': WHATEVER THE INPUT: true; the input reads as it did. -/
def connTwoSpec : ChangeSpec := { name := "connTwo", fn := fun _ => fun
  | [d1, d2] => { results := [.lit (.bool true)], args := [d1, d2] }
  | _ => none }
def connTwoRow : OpenClaim := { program := "ytkphompjahcjiaadoor", sum := "190415d3485fa644c14b3ee2a035a84eac2eccfdf6b23a329dcafbbbddd6b1c4", func := "polliwog/polliwoglaw14.ConnTwo", spec := "connTwo", unfollowed := true, recurses := true, named := ["polliwog/rules.letters"], apart := false, laid := [("polliwog/rules.letters", laid_polliwog_rules_letters)] }
def ConnTwoSaid : Prop := connTwoRow.holds Tryd.pinned (OpenSpec.ofChange connTwoSpec)

/-- ITS FALSE NEIGHBOUR: 'it returns false'. Refute it at one input. -/
def connTwoWrong : ChangeSpec := { name := "connTwo", fn := fun _ => fun
  | [d1, d2] => { results := [.lit (.bool false)], args := [d1, d2] }
  | _ => none }
def ConnTwoWrongFalsely : Prop := connTwoRow.holds Tryd.pinned (OpenSpec.ofChange connTwoWrong)

/-- 'polliwoglaw14.ConnGives': WHATEVER THE INPUT: true; the input reads as it did. -/
def connGivesSpec : ChangeSpec := { name := "connGives", fn := fun _ => fun
  | [d1, d2, d3] => { results := [.lit (.bool true)], args := [d1, d2, d3] }
  | _ => none }
def connGivesRow : OpenClaim := { program := "ytkphompjahcjiaadoor", sum := "190415d3485fa644c14b3ee2a035a84eac2eccfdf6b23a329dcafbbbddd6b1c4", func := "polliwog/polliwoglaw14.ConnGives", spec := "connGives", unfollowed := true, recurses := true, named := ["polliwog/rules.letters", "polliwog/pdu.forms"], apart := false, laid := [("polliwog/pdu.forms", laid_polliwog_pdu_forms), ("polliwog/rules.letters", laid_polliwog_rules_letters)] }
def ConnGivesSaid : Prop := connGivesRow.holds Tryd.pinned (OpenSpec.ofChange connGivesSpec)

/-- ITS FALSE NEIGHBOUR: 'it returns false'. Refute it at one input. -/
def connGivesWrong : ChangeSpec := { name := "connGives", fn := fun _ => fun
  | [d1, d2, d3] => { results := [.lit (.bool false)], args := [d1, d2, d3] }
  | _ => none }
def ConnGivesWrongFalsely : Prop := connGivesRow.holds Tryd.pinned (OpenSpec.ofChange connGivesWrong)

/-- 'polliwoglaw14.ConnNumbers': WHATEVER THE INPUT: true; the input reads as it did. -/
def connNumbersSpec : ChangeSpec := { name := "connNumbers", fn := fun _ => fun
  | [d] => { results := [.lit (.bool true)], args := [d] }
  | _ => none }
def connNumbersRow : OpenClaim := { program := "ytkphompjahcjiaadoor", sum := "190415d3485fa644c14b3ee2a035a84eac2eccfdf6b23a329dcafbbbddd6b1c4", func := "polliwog/polliwoglaw14.ConnNumbers", spec := "connNumbers", unfollowed := true, recurses := true, named := ["polliwog/rules.letters"], apart := false, laid := [("polliwog/rules.letters", laid_polliwog_rules_letters)] }
def ConnNumbersSaid : Prop := connNumbersRow.holds Tryd.pinned (OpenSpec.ofChange connNumbersSpec)

/-- ITS FALSE NEIGHBOUR: 'it returns false'. Refute it at one input. -/
def connNumbersWrong : ChangeSpec := { name := "connNumbers", fn := fun _ => fun
  | [d] => { results := [.lit (.bool false)], args := [d] }
  | _ => none }
def ConnNumbersWrongFalsely : Prop := connNumbersRow.holds Tryd.pinned (OpenSpec.ofChange connNumbersWrong)

/-- 'polliwoglaw14.ConnFails': WHATEVER THE INPUT: true; the input reads as it did. -/
def connFailsSpec : ChangeSpec := { name := "connFails", fn := fun _ => fun
  | [d1, d2] => { results := [.lit (.bool true)], args := [d1, d2] }
  | _ => none }
def connFailsRow : OpenClaim := { program := "ytkphompjahcjiaadoor", sum := "190415d3485fa644c14b3ee2a035a84eac2eccfdf6b23a329dcafbbbddd6b1c4", func := "polliwog/polliwoglaw14.ConnFails", spec := "connFails", unfollowed := true, recurses := true, named := ["polliwog/rules.letters", "polliwog/pdu.forms"], apart := false, laid := [("polliwog/pdu.forms", laid_polliwog_pdu_forms), ("polliwog/rules.letters", laid_polliwog_rules_letters)] }
def ConnFailsSaid : Prop := connFailsRow.holds Tryd.pinned (OpenSpec.ofChange connFailsSpec)

/-- ITS FALSE NEIGHBOUR: 'it returns false'. Refute it at one input. -/
def connFailsWrong : ChangeSpec := { name := "connFails", fn := fun _ => fun
  | [d1, d2] => { results := [.lit (.bool false)], args := [d1, d2] }
  | _ => none }
def ConnFailsWrongFalsely : Prop := connFailsRow.holds Tryd.pinned (OpenSpec.ofChange connFailsWrong)

/- THE SECOND FORM. 'bulk': how many values and letters a reading holds, each counted each time it is reached (what is shared counts as often as it is met; a slice's spare places count too). A statement '..UptoSaid' is the law's where the arguments, and the package variables that the reading takes, are together of bulk at most 1048576: NARROWER than '..Said'. Prove '..Said' where nothing that the law and all that it calls make is longer than what came in: it says more and counts as full. Else prove '..UptoSaid'. A law counts once. -/
mutual
def uptoBulk {H : Type} : DataW H → Nat
  | .lit (.string bytes) => bytes.length + 1
  | .lit _ => 1
  | .nil => 1
  | .ptr d => uptoBulk d + 1
  | .slice elems spare => uptoBulkAll elems + uptoBulkAll spare + 1
  | .agg parts => uptoBulkAll parts + 1
  | .iface _ d => uptoBulk d + 1
  | .map entries => uptoBulkEntries entries + 1
  | .held _ => 1
def uptoBulkAll {H : Type} : List (DataW H) → Nat
  | [] => 0
  | d :: r => uptoBulk d + uptoBulkAll r
def uptoBulkEntries {H : Type} : List (Lit × DataW H) → Nat
  | [] => 0
  | x :: r => uptoBulkEntry x + uptoBulkEntries r
def uptoBulkEntry {H : Type} : Lit × DataW H → Nat
  | (.string bytes, d) => bytes.length + uptoBulk d + 1
  | (_, d) => uptoBulk d + 1
 end
def uptoSmall : (H : Type) → List (DataW H) → Bool := fun _ ds => decide (uptoBulkAll ds ≤ 1048576)
def OpenSpec.upto (s : _root_.Go.ChangeSpec) : _root_.Go.OpenSpec := { _root_.Go.OpenSpec.ofChange s with cond := some uptoSmall }

/-- 'polliwoglaw14.ConnPlays', WHERE WHAT IT READS IS OF BULK AT MOST 1048576: true; the input reads as it did. -/
def connPlaysUptoRow : OpenClaim := { program := "ytkphompjahcjiaadoor", sum := "190415d3485fa644c14b3ee2a035a84eac2eccfdf6b23a329dcafbbbddd6b1c4", func := "polliwog/polliwoglaw14.ConnPlays", spec := "connPlays", unfollowed := true, recurses := true, named := ["polliwog/rules.letters", "polliwog/pdu.forms"], apart := false, laid := [("polliwog/pdu.forms", laid_polliwog_pdu_forms), ("polliwog/rules.letters", laid_polliwog_rules_letters)], narrowed := true }
def ConnPlaysUptoSaid : Prop := connPlaysUptoRow.holds Tryd.pinned (OpenSpec.upto connPlaysSpec)

/-- 'polliwoglaw14.ConnCovers', WHERE WHAT IT READS IS OF BULK AT MOST 1048576: true; the input reads as it did. -/
def connCoversUptoRow : OpenClaim := { program := "ytkphompjahcjiaadoor", sum := "190415d3485fa644c14b3ee2a035a84eac2eccfdf6b23a329dcafbbbddd6b1c4", func := "polliwog/polliwoglaw14.ConnCovers", spec := "connCovers", unfollowed := true, recurses := true, named := ["polliwog/rules.letters", "polliwog/pdu.forms"], apart := false, laid := [("polliwog/pdu.forms", laid_polliwog_pdu_forms), ("polliwog/rules.letters", laid_polliwog_rules_letters)], narrowed := true }
def ConnCoversUptoSaid : Prop := connCoversUptoRow.holds Tryd.pinned (OpenSpec.upto connCoversSpec)

/-- 'polliwoglaw14.ConnEpochs', WHERE WHAT IT READS IS OF BULK AT MOST 1048576: true; the input reads as it did. -/
def connEpochsUptoRow : OpenClaim := { program := "ytkphompjahcjiaadoor", sum := "190415d3485fa644c14b3ee2a035a84eac2eccfdf6b23a329dcafbbbddd6b1c4", func := "polliwog/polliwoglaw14.ConnEpochs", spec := "connEpochs", unfollowed := true, recurses := true, named := ["polliwog/rules.letters", "polliwog/pdu.forms"], apart := false, laid := [("polliwog/pdu.forms", laid_polliwog_pdu_forms), ("polliwog/rules.letters", laid_polliwog_rules_letters)], narrowed := true }
def ConnEpochsUptoSaid : Prop := connEpochsUptoRow.holds Tryd.pinned (OpenSpec.upto connEpochsSpec)

/-- 'polliwoglaw14.ConnTwo', WHERE WHAT IT READS IS OF BULK AT MOST 1048576: true; the input reads as it did. -/
def connTwoUptoRow : OpenClaim := { program := "ytkphompjahcjiaadoor", sum := "190415d3485fa644c14b3ee2a035a84eac2eccfdf6b23a329dcafbbbddd6b1c4", func := "polliwog/polliwoglaw14.ConnTwo", spec := "connTwo", unfollowed := true, recurses := true, named := ["polliwog/rules.letters"], apart := false, laid := [("polliwog/rules.letters", laid_polliwog_rules_letters)], narrowed := true }
def ConnTwoUptoSaid : Prop := connTwoUptoRow.holds Tryd.pinned (OpenSpec.upto connTwoSpec)

/-- 'polliwoglaw14.ConnGives', WHERE WHAT IT READS IS OF BULK AT MOST 1048576: true; the input reads as it did. -/
def connGivesUptoRow : OpenClaim := { program := "ytkphompjahcjiaadoor", sum := "190415d3485fa644c14b3ee2a035a84eac2eccfdf6b23a329dcafbbbddd6b1c4", func := "polliwog/polliwoglaw14.ConnGives", spec := "connGives", unfollowed := true, recurses := true, named := ["polliwog/rules.letters", "polliwog/pdu.forms"], apart := false, laid := [("polliwog/pdu.forms", laid_polliwog_pdu_forms), ("polliwog/rules.letters", laid_polliwog_rules_letters)], narrowed := true }
def ConnGivesUptoSaid : Prop := connGivesUptoRow.holds Tryd.pinned (OpenSpec.upto connGivesSpec)

/-- 'polliwoglaw14.ConnNumbers', WHERE WHAT IT READS IS OF BULK AT MOST 1048576: true; the input reads as it did. -/
def connNumbersUptoRow : OpenClaim := { program := "ytkphompjahcjiaadoor", sum := "190415d3485fa644c14b3ee2a035a84eac2eccfdf6b23a329dcafbbbddd6b1c4", func := "polliwog/polliwoglaw14.ConnNumbers", spec := "connNumbers", unfollowed := true, recurses := true, named := ["polliwog/rules.letters"], apart := false, laid := [("polliwog/rules.letters", laid_polliwog_rules_letters)], narrowed := true }
def ConnNumbersUptoSaid : Prop := connNumbersUptoRow.holds Tryd.pinned (OpenSpec.upto connNumbersSpec)

/-- 'polliwoglaw14.ConnFails', WHERE WHAT IT READS IS OF BULK AT MOST 1048576: true; the input reads as it did. -/
def connFailsUptoRow : OpenClaim := { program := "ytkphompjahcjiaadoor", sum := "190415d3485fa644c14b3ee2a035a84eac2eccfdf6b23a329dcafbbbddd6b1c4", func := "polliwog/polliwoglaw14.ConnFails", spec := "connFails", unfollowed := true, recurses := true, named := ["polliwog/rules.letters", "polliwog/pdu.forms"], apart := false, laid := [("polliwog/pdu.forms", laid_polliwog_pdu_forms), ("polliwog/rules.letters", laid_polliwog_rules_letters)], narrowed := true }
def ConnFailsUptoSaid : Prop := connFailsUptoRow.holds Tryd.pinned (OpenSpec.upto connFailsSpec)

end Rows
end Go.Proofs.YtkphompjahcjiaaDoor
