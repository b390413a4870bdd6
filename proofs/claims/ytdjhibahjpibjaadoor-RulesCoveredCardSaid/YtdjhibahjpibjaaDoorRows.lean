/-
  NARROWER THAN 'FOR EVERY INPUT', by the rows' own cells (each row's printed sentence says how): RulesOf: laid · RulesMay: laid · RulesCovered: laid · RulesEnds: laid · RulesRequests: laid.
  DERIVED. THE GIVEN ROWS OF THIS SEAT. 5 by the template 'for every input the law returns true; each argument reads behind the call as it read before'; 0 by the template 'total and deterministic' (their statements: YtdjhibahjpibjaaDoorTotals.lean).
  GIVEN WITH THE SEED: the statements are not yours to turn. If you find one false, say at which input.
  Laid BY PROGRAM, IN A SANDBOX (cutbox-rows.mjs): the forced cells as the released guide's own fill.sh prints them over the translation 1e04c183622ed8c2… (all of the seat's roots in one cut). By AI agents, Wed Nov 11 2026. No macro, syntax, notation, axiom, sorry.
-/
import Derived.Test.YtdjhibahjpibjaaDoorChecked
import GoSem.Claim
import GoSem.ClaimJoined
import GoSem.ClaimMapViews
import Derived.JoinedTies
import Derived.KernelRfl
namespace Go.Proofs.YtdjhibahjpibjaaDoor
/- THE CELL 'sum', in the pinned program and in every row, IS THE sha256 OF THE DUMP (.gsa) THAT YtdjhibahjpibjaaDoorProg.lean LOADS. Nothing in Lean hashes anything: it is a label: what it is worth is what the hold of that sum in a sandbox is worth. -/
noncomputable def Tryd.pinned : Pinned := { name := "ytdjhibahjpibjaadoor", sum := "1e04c183622ed8c277ff49d8415c82f7cbec831be889bcca498407eb897e33e5", checked := Tryd.checked }
namespace Rows
def none {H : Type} : Left H := { results := [], args := [] }

/- WHAT THE LISTED PACKAGE-LEVEL VARIABLES READ AS WHEN THE CALL BEGINS. Each datum BY PROGRAM (the guide's laid-datum.mjs) off the statement by which the dump's own 'gosem.cut.vars' lays the variable. In a bare row this is a premise. The card (YtdjhibahjpibjaaDoorCards.lean) ties it to the program's text. -/
def laid_polliwog_rules_letters {H : Type} : DataW H := .agg [.lit (.int .u8 0), .lit (.int .u8 66), .lit (.int .u8 67), .lit (.int .u8 69), .lit (.int .u8 70), .lit (.int .u8 74), .lit (.int .u8 75), .lit (.int .u8 68), .lit (.int .u8 65), .lit (.int .u8 76), .lit (.int .u8 71), .lit (.int .u8 72), .lit (.int .u8 73), .lit (.int .u8 0), .lit (.int .u8 0), .lit (.int .u8 77)]
def laid_polliwog_rules_names {H : Type} : DataW H := .agg [.lit (.string []), .lit (.string [105, 100, 108, 101]), .lit (.string [111, 117, 116, 103, 111, 105, 110, 103]), .lit (.string [105, 110, 99, 111, 109, 105, 110, 103]), .lit (.string [108, 101, 97, 118, 105, 110, 103]), .lit (.string [114, 101, 115, 121, 110, 99, 105, 110, 103]), .lit (.string [114, 101, 115, 121, 110, 99, 101, 100]), .lit (.string [114, 101, 99, 111, 118, 101, 114, 105, 110, 103]), .lit (.string [97, 110, 115, 119, 101, 114, 101, 100]), .lit (.string [114, 101, 99, 111, 118, 101, 114, 101, 100]), .lit (.string [114, 101, 97, 100, 121])]

/-- 'polliwoglaw13.RulesOf': WHATEVER THE INPUT: true; the input reads as it did. -/
def rulesOfSpec : ChangeSpec := { name := "rulesOf", fn := fun _ => fun
  | [d1, d2] => { results := [.lit (.bool true)], args := [d1, d2] }
  | _ => none }
def rulesOfRow : OpenClaim := { program := "ytdjhibahjpibjaadoor", sum := "1e04c183622ed8c277ff49d8415c82f7cbec831be889bcca498407eb897e33e5", func := "polliwog/polliwoglaw13.RulesOf", spec := "rulesOf", named := ["polliwog/rules.letters", "polliwog/rules.names"], apart := false, laid := [("polliwog/rules.letters", laid_polliwog_rules_letters), ("polliwog/rules.names", laid_polliwog_rules_names)] }
def RulesOfSaid : Prop := rulesOfRow.holds Tryd.pinned (OpenSpec.ofChange rulesOfSpec)

/-- ITS FALSE NEIGHBOUR: 'it returns false'. Refute it at one input. -/
def rulesOfWrong : ChangeSpec := { name := "rulesOf", fn := fun _ => fun
  | [d1, d2] => { results := [.lit (.bool false)], args := [d1, d2] }
  | _ => none }
def RulesOfWrongFalsely : Prop := rulesOfRow.holds Tryd.pinned (OpenSpec.ofChange rulesOfWrong)

/-- 'polliwoglaw13.RulesMay': WHATEVER THE INPUT: true; the input reads as it did. -/
def rulesMaySpec : ChangeSpec := { name := "rulesMay", fn := fun _ => fun
  | [d1, d2] => { results := [.lit (.bool true)], args := [d1, d2] }
  | _ => none }
def rulesMayRow : OpenClaim := { program := "ytdjhibahjpibjaadoor", sum := "1e04c183622ed8c277ff49d8415c82f7cbec831be889bcca498407eb897e33e5", func := "polliwog/polliwoglaw13.RulesMay", spec := "rulesMay", named := ["polliwog/rules.letters", "polliwog/rules.names"], apart := false, laid := [("polliwog/rules.letters", laid_polliwog_rules_letters), ("polliwog/rules.names", laid_polliwog_rules_names)] }
def RulesMaySaid : Prop := rulesMayRow.holds Tryd.pinned (OpenSpec.ofChange rulesMaySpec)

/-- ITS FALSE NEIGHBOUR: 'it returns false'. Refute it at one input. -/
def rulesMayWrong : ChangeSpec := { name := "rulesMay", fn := fun _ => fun
  | [d1, d2] => { results := [.lit (.bool false)], args := [d1, d2] }
  | _ => none }
def RulesMayWrongFalsely : Prop := rulesMayRow.holds Tryd.pinned (OpenSpec.ofChange rulesMayWrong)

/-- 'polliwoglaw13.RulesCovered': WHATEVER THE INPUT: true; the input reads as it did. -/
def rulesCoveredSpec : ChangeSpec := { name := "rulesCovered", fn := fun _ => fun
  | [d] => { results := [.lit (.bool true)], args := [d] }
  | _ => none }
def rulesCoveredRow : OpenClaim := { program := "ytdjhibahjpibjaadoor", sum := "1e04c183622ed8c277ff49d8415c82f7cbec831be889bcca498407eb897e33e5", func := "polliwog/polliwoglaw13.RulesCovered", spec := "rulesCovered", named := ["polliwog/rules.letters", "polliwog/rules.names"], apart := false, laid := [("polliwog/rules.letters", laid_polliwog_rules_letters), ("polliwog/rules.names", laid_polliwog_rules_names)] }
def RulesCoveredSaid : Prop := rulesCoveredRow.holds Tryd.pinned (OpenSpec.ofChange rulesCoveredSpec)

/-- ITS FALSE NEIGHBOUR: 'it returns false'. Refute it at one input. -/
def rulesCoveredWrong : ChangeSpec := { name := "rulesCovered", fn := fun _ => fun
  | [d] => { results := [.lit (.bool false)], args := [d] }
  | _ => none }
def RulesCoveredWrongFalsely : Prop := rulesCoveredRow.holds Tryd.pinned (OpenSpec.ofChange rulesCoveredWrong)

/-- 'polliwoglaw13.RulesEnds': WHATEVER THE INPUT: true; the input reads as it did. -/
def rulesEndsSpec : ChangeSpec := { name := "rulesEnds", fn := fun _ => fun
  | [d] => { results := [.lit (.bool true)], args := [d] }
  | _ => none }
def rulesEndsRow : OpenClaim := { program := "ytdjhibahjpibjaadoor", sum := "1e04c183622ed8c277ff49d8415c82f7cbec831be889bcca498407eb897e33e5", func := "polliwog/polliwoglaw13.RulesEnds", spec := "rulesEnds", named := ["polliwog/rules.letters", "polliwog/rules.names"], apart := false, laid := [("polliwog/rules.letters", laid_polliwog_rules_letters), ("polliwog/rules.names", laid_polliwog_rules_names)] }
def RulesEndsSaid : Prop := rulesEndsRow.holds Tryd.pinned (OpenSpec.ofChange rulesEndsSpec)

/-- ITS FALSE NEIGHBOUR: 'it returns false'. Refute it at one input. -/
def rulesEndsWrong : ChangeSpec := { name := "rulesEnds", fn := fun _ => fun
  | [d] => { results := [.lit (.bool false)], args := [d] }
  | _ => none }
def RulesEndsWrongFalsely : Prop := rulesEndsRow.holds Tryd.pinned (OpenSpec.ofChange rulesEndsWrong)

/-- 'polliwoglaw13.RulesRequests': WHATEVER THE INPUT: true; the input reads as it did. -/
def rulesRequestsSpec : ChangeSpec := { name := "rulesRequests", fn := fun _ => fun
  | [d] => { results := [.lit (.bool true)], args := [d] }
  | _ => none }
def rulesRequestsRow : OpenClaim := { program := "ytdjhibahjpibjaadoor", sum := "1e04c183622ed8c277ff49d8415c82f7cbec831be889bcca498407eb897e33e5", func := "polliwog/polliwoglaw13.RulesRequests", spec := "rulesRequests", named := ["polliwog/rules.letters", "polliwog/rules.names"], apart := false, laid := [("polliwog/rules.letters", laid_polliwog_rules_letters), ("polliwog/rules.names", laid_polliwog_rules_names)] }
def RulesRequestsSaid : Prop := rulesRequestsRow.holds Tryd.pinned (OpenSpec.ofChange rulesRequestsSpec)

/-- ITS FALSE NEIGHBOUR: 'it returns false'. Refute it at one input. -/
def rulesRequestsWrong : ChangeSpec := { name := "rulesRequests", fn := fun _ => fun
  | [d] => { results := [.lit (.bool false)], args := [d] }
  | _ => none }
def RulesRequestsWrongFalsely : Prop := rulesRequestsRow.holds Tryd.pinned (OpenSpec.ofChange rulesRequestsWrong)

/- THE SECOND FORM. 'bulk': how many values and letters a reading holds, each counted each time it is reached (what is shared counts as often as it is met; a slice's spare places count too). A statement '..UptoSaid' is the law's where the arguments, and the package variables that the reading takes, are together of bulk at most 1048576: NARROWER than '..Said'. Prove '..Said' where nothing that the law and all that it calls make is longer than what came in: it says more and counts as full. Else prove '..UptoSaid'. A law counts once. -/
mutual
def uptoBulk {H : Type} : DataW H → Nat
  | .lit (.string bytes) => bytes.length + 1
  | .lit _ => 1
  | .nil => 1
  | .ptr d => uptoBulk d + 1
  | .slice elems spare => uptoBulkAll elems + uptoBulkAll spare + 1
  | .agg parts => uptoBulkAll parts + 1
  | .iface _ d => uptoBulk d + 1
  | .map entries => uptoBulkEntries entries + 1
  | .held _ => 1
def uptoBulkAll {H : Type} : List (DataW H) → Nat
  | [] => 0
  | d :: r => uptoBulk d + uptoBulkAll r
def uptoBulkEntries {H : Type} : List (Lit × DataW H) → Nat
  | [] => 0
  | x :: r => uptoBulkEntry x + uptoBulkEntries r
def uptoBulkEntry {H : Type} : Lit × DataW H → Nat
  | (.string bytes, d) => bytes.length + uptoBulk d + 1
  | (_, d) => uptoBulk d + 1
 end
def uptoSmall : (H : Type) → List (DataW H) → Bool := fun _ ds => decide (uptoBulkAll ds ≤ 1048576)
def OpenSpec.upto (s : _root_.Go.ChangeSpec) : _root_.Go.OpenSpec := { _root_.Go.OpenSpec.ofChange s with cond := some uptoSmall }

/-- 'polliwoglaw13.RulesOf', WHERE WHAT IT READS IS OF BULK AT MOST 1048576: true; the input reads as it did. -/
def rulesOfUptoRow : OpenClaim := { program := "ytdjhibahjpibjaadoor", sum := "1e04c183622ed8c277ff49d8415c82f7cbec831be889bcca498407eb897e33e5", func := "polliwog/polliwoglaw13.RulesOf", spec := "rulesOf", named := ["polliwog/rules.letters", "polliwog/rules.names"], apart := false, laid := [("polliwog/rules.letters", laid_polliwog_rules_letters), ("polliwog/rules.names", laid_polliwog_rules_names)], narrowed := true }
def RulesOfUptoSaid : Prop := rulesOfUptoRow.holds Tryd.pinned (OpenSpec.upto rulesOfSpec)

/-- 'polliwoglaw13.RulesMay', WHERE WHAT IT READS IS OF BULK AT MOST 1048576: true; the input reads as it did. -/
def rulesMayUptoRow : OpenClaim := { program := "ytdjhibahjpibjaadoor", sum := "1e04c183622ed8c277ff49d8415c82f7cbec831be889bcca498407eb897e33e5", func := "polliwog/polliwoglaw13.RulesMay", spec := "rulesMay", named := ["polliwog/rules.letters", "polliwog/rules.names"], apart := false, laid := [("polliwog/rules.letters", laid_polliwog_rules_letters), ("polliwog/rules.names", laid_polliwog_rules_names)], narrowed := true }
def RulesMayUptoSaid : Prop := rulesMayUptoRow.holds Tryd.pinned (OpenSpec.upto rulesMaySpec)

/-- 'polliwoglaw13.RulesCovered', WHERE WHAT IT READS IS OF BULK AT MOST 1048576: true; the input reads as it did. -/
def rulesCoveredUptoRow : OpenClaim := { program := "ytdjhibahjpibjaadoor", sum := "1e04c183622ed8c277ff49d8415c82f7cbec831be889bcca498407eb897e33e5", func := "polliwog/polliwoglaw13.RulesCovered", spec := "rulesCovered", named := ["polliwog/rules.letters", "polliwog/rules.names"], apart := false, laid := [("polliwog/rules.letters", laid_polliwog_rules_letters), ("polliwog/rules.names", laid_polliwog_rules_names)], narrowed := true }
def RulesCoveredUptoSaid : Prop := rulesCoveredUptoRow.holds Tryd.pinned (OpenSpec.upto rulesCoveredSpec)

/-- 'polliwoglaw13.RulesEnds', WHERE WHAT IT READS IS OF BULK AT MOST 1048576: true; the input reads as it did. -/
def rulesEndsUptoRow : OpenClaim := { program := "ytdjhibahjpibjaadoor", sum := "1e04c183622ed8c277ff49d8415c82f7cbec831be889bcca498407eb897e33e5", func := "polliwog/polliwoglaw13.RulesEnds", spec := "rulesEnds", named := ["polliwog/rules.letters", "polliwog/rules.names"], apart := false, laid := [("polliwog/rules.letters", laid_polliwog_rules_letters), ("polliwog/rules.names", laid_polliwog_rules_names)], narrowed := true }
def RulesEndsUptoSaid : Prop := rulesEndsUptoRow.holds Tryd.pinned (OpenSpec.upto rulesEndsSpec)

/-- 'polliwoglaw13.RulesRequests', WHERE WHAT IT READS IS OF BULK AT MOST 1048576: true; the input reads as it did. -/
def rulesRequestsUptoRow : OpenClaim := { program := "ytdjhibahjpibjaadoor", sum := "1e04c183622ed8c277ff49d8415c82f7cbec831be889bcca498407eb897e33e5", func := "polliwog/polliwoglaw13.RulesRequests", spec := "rulesRequests", named := ["polliwog/rules.letters", "polliwog/rules.names"], apart := false, laid := [("polliwog/rules.letters", laid_polliwog_rules_letters), ("polliwog/rules.names", laid_polliwog_rules_names)], narrowed := true }
def RulesRequestsUptoSaid : Prop := rulesRequestsUptoRow.holds Tryd.pinned (OpenSpec.upto rulesRequestsSpec)

end Rows
end Go.Proofs.YtdjhibahjpibjaaDoor
