/-
  No cell of these rows narrows 'for every input' (looked for: loops, veiled, ifaces, maps, wideKeys, modest, calm, conditions, laid).
  DERIVED. THE GIVEN ROWS OF THIS SEAT. 4 by the template 'for every input the law returns true; each argument reads behind the call as it read before'; 0 by the template 'total and deterministic' (their statements: YtlfjndjbfbejkaaTotals.lean).
  GIVEN WITH THE SEED: the statements are not yours to turn. If you find one false, say at which input.
  Laid BY PROGRAM, IN A SANDBOX (cutbox-rows.mjs): the forced cells as the released guide's own fill.sh prints them over the translation fc07f2088caa6472… (all of the seat's roots in one cut). By AI agents, Wed Nov 11 2026. No macro, syntax, notation, axiom, sorry.
-/
import Derived.Test.YtlfjndjbfbejkaaChecked
import GoSem.Claim
import GoSem.ClaimJoined
import GoSem.ClaimMapViews
import Derived.JoinedTies
import Derived.KernelRfl
namespace Go.Proofs.Ytlfjndjbfbejkaa
/- THE CELL 'sum', in the pinned program and in every row, IS THE sha256 OF THE DUMP (.gsa) THAT YtlfjndjbfbejkaaProg.lean LOADS. Nothing in Lean hashes anything: it is a label: what it is worth is what the hold of that sum in a sandbox is worth. -/
noncomputable def Try.pinned : Pinned := { name := "ytlfjndjbfbejkaa", sum := "fc07f2088caa6472bc9df0130c5e74bbe1742eb71f58f0101a701ec71772d045", checked := Try.checked }
namespace Rows
def none {H : Type} : Left H := { results := [], args := [] }

/-- 'polliwoglaw15.PacePlays': WHATEVER THE INPUT: true; the input reads as it did. -/
def pacePlaysSpec : ChangeSpec := { name := "pacePlays", fn := fun _ => fun
  | [d1, d2] => { results := [.lit (.bool true)], args := [d1, d2] }
  | _ => none }
def pacePlaysRow : OpenClaim := { program := "ytlfjndjbfbejkaa", sum := "fc07f2088caa6472bc9df0130c5e74bbe1742eb71f58f0101a701ec71772d045", func := "polliwog/polliwoglaw15.PacePlays", spec := "pacePlays", apart := false }
def PacePlaysSaid : Prop := pacePlaysRow.holds Try.pinned (OpenSpec.ofChange pacePlaysSpec)

/-- ITS FALSE NEIGHBOUR: 'it returns false'. Refute it at one input. -/
def pacePlaysWrong : ChangeSpec := { name := "pacePlays", fn := fun _ => fun
  | [d1, d2] => { results := [.lit (.bool false)], args := [d1, d2] }
  | _ => none }
def PacePlaysWrongFalsely : Prop := pacePlaysRow.holds Try.pinned (OpenSpec.ofChange pacePlaysWrong)

/-- 'polliwoglaw15.PaceLives': WHATEVER THE INPUT: true; the input reads as it did. -/
def paceLivesSpec : ChangeSpec := { name := "paceLives", fn := fun _ => fun
  | [d1, d2, d3] => { results := [.lit (.bool true)], args := [d1, d2, d3] }
  | _ => none }
def paceLivesRow : OpenClaim := { program := "ytlfjndjbfbejkaa", sum := "fc07f2088caa6472bc9df0130c5e74bbe1742eb71f58f0101a701ec71772d045", func := "polliwog/polliwoglaw15.PaceLives", spec := "paceLives", apart := false }
def PaceLivesSaid : Prop := paceLivesRow.holds Try.pinned (OpenSpec.ofChange paceLivesSpec)

/-- ITS FALSE NEIGHBOUR: 'it returns false'. Refute it at one input. -/
def paceLivesWrong : ChangeSpec := { name := "paceLives", fn := fun _ => fun
  | [d1, d2, d3] => { results := [.lit (.bool false)], args := [d1, d2, d3] }
  | _ => none }
def PaceLivesWrongFalsely : Prop := paceLivesRow.holds Try.pinned (OpenSpec.ofChange paceLivesWrong)

/-- 'polliwoglaw15.PaceFresh': WHATEVER THE INPUT: true; the input reads as it did. -/
def paceFreshSpec : ChangeSpec := { name := "paceFresh", fn := fun _ => fun
  | [d] => { results := [.lit (.bool true)], args := [d] }
  | _ => none }
def paceFreshRow : OpenClaim := { program := "ytlfjndjbfbejkaa", sum := "fc07f2088caa6472bc9df0130c5e74bbe1742eb71f58f0101a701ec71772d045", func := "polliwog/polliwoglaw15.PaceFresh", spec := "paceFresh", apart := false }
def PaceFreshSaid : Prop := paceFreshRow.holds Try.pinned (OpenSpec.ofChange paceFreshSpec)

/-- ITS FALSE NEIGHBOUR: 'it returns false'. Refute it at one input. -/
def paceFreshWrong : ChangeSpec := { name := "paceFresh", fn := fun _ => fun
  | [d] => { results := [.lit (.bool false)], args := [d] }
  | _ => none }
def PaceFreshWrongFalsely : Prop := paceFreshRow.holds Try.pinned (OpenSpec.ofChange paceFreshWrong)

/-- 'polliwoglaw15.PaceBusy': WHATEVER THE INPUT: true; the input reads as it did. -/
def paceBusySpec : ChangeSpec := { name := "paceBusy", fn := fun _ => fun
  | [d1, d2] => { results := [.lit (.bool true)], args := [d1, d2] }
  | _ => none }
def paceBusyRow : OpenClaim := { program := "ytlfjndjbfbejkaa", sum := "fc07f2088caa6472bc9df0130c5e74bbe1742eb71f58f0101a701ec71772d045", func := "polliwog/polliwoglaw15.PaceBusy", spec := "paceBusy", apart := false }
def PaceBusySaid : Prop := paceBusyRow.holds Try.pinned (OpenSpec.ofChange paceBusySpec)

/-- ITS FALSE NEIGHBOUR: 'it returns false'. Refute it at one input. -/
def paceBusyWrong : ChangeSpec := { name := "paceBusy", fn := fun _ => fun
  | [d1, d2] => { results := [.lit (.bool false)], args := [d1, d2] }
  | _ => none }
def PaceBusyWrongFalsely : Prop := paceBusyRow.holds Try.pinned (OpenSpec.ofChange paceBusyWrong)

/- THE SECOND FORM. 'bulk': how many values and letters a reading holds, each counted each time it is reached (what is shared counts as often as it is met; a slice's spare places count too). A statement '..UptoSaid' is the law's where the arguments, and the package variables that the reading takes, are together of bulk at most 1048576: NARROWER than '..Said'. Prove '..Said' where nothing that the law and all that it calls make is longer than what came in: it says more and counts as full. Else prove '..UptoSaid'. A law counts once. -/
mutual
def uptoBulk {H : Type} : DataW H → Nat
  | .lit (.string bytes) => bytes.length + 1
  | .lit _ => 1
  | .nil => 1
  | .ptr d => uptoBulk d + 1
  | .slice elems spare => uptoBulkAll elems + uptoBulkAll spare + 1
  | .agg parts => uptoBulkAll parts + 1
  | .iface _ d => uptoBulk d + 1
  | .map entries => uptoBulkEntries entries + 1
  | .held _ => 1
def uptoBulkAll {H : Type} : List (DataW H) → Nat
  | [] => 0
  | d :: r => uptoBulk d + uptoBulkAll r
def uptoBulkEntries {H : Type} : List (Lit × DataW H) → Nat
  | [] => 0
  | x :: r => uptoBulkEntry x + uptoBulkEntries r
def uptoBulkEntry {H : Type} : Lit × DataW H → Nat
  | (.string bytes, d) => bytes.length + uptoBulk d + 1
  | (_, d) => uptoBulk d + 1
 end
def uptoSmall : (H : Type) → List (DataW H) → Bool := fun _ ds => decide (uptoBulkAll ds ≤ 1048576)
def OpenSpec.upto (s : _root_.Go.ChangeSpec) : _root_.Go.OpenSpec := { _root_.Go.OpenSpec.ofChange s with cond := some uptoSmall }

/-- 'polliwoglaw15.PacePlays', WHERE WHAT IT READS IS OF BULK AT MOST 1048576: true; the input reads as it did. -/
def pacePlaysUptoRow : OpenClaim := { program := "ytlfjndjbfbejkaa", sum := "fc07f2088caa6472bc9df0130c5e74bbe1742eb71f58f0101a701ec71772d045", func := "polliwog/polliwoglaw15.PacePlays", spec := "pacePlays", apart := false, narrowed := true }
def PacePlaysUptoSaid : Prop := pacePlaysUptoRow.holds Try.pinned (OpenSpec.upto pacePlaysSpec)

/-- 'polliwoglaw15.PaceLives', WHERE WHAT IT READS IS OF BULK AT MOST 1048576: true; the input reads as it did. -/
def paceLivesUptoRow : OpenClaim := { program := "ytlfjndjbfbejkaa", sum := "fc07f2088caa6472bc9df0130c5e74bbe1742eb71f58f0101a701ec71772d045", func := "polliwog/polliwoglaw15.PaceLives", spec := "paceLives", apart := false, narrowed := true }
def PaceLivesUptoSaid : Prop := paceLivesUptoRow.holds Try.pinned (OpenSpec.upto paceLivesSpec)

/-- 'polliwoglaw15.PaceFresh', WHERE WHAT IT READS IS OF BULK AT MOST 1048576: true; the input reads as it did. -/
def paceFreshUptoRow : OpenClaim := { program := "ytlfjndjbfbejkaa", sum := "fc07f2088caa6472bc9df0130c5e74bbe1742eb71f58f0101a701ec71772d045", func := "polliwog/polliwoglaw15.PaceFresh", spec := "paceFresh", apart := false, narrowed := true }
def PaceFreshUptoSaid : Prop := paceFreshUptoRow.holds Try.pinned (OpenSpec.upto paceFreshSpec)

/-- 'polliwoglaw15.PaceBusy', WHERE WHAT IT READS IS OF BULK AT MOST 1048576: true; the input reads as it did. -/
def paceBusyUptoRow : OpenClaim := { program := "ytlfjndjbfbejkaa", sum := "fc07f2088caa6472bc9df0130c5e74bbe1742eb71f58f0101a701ec71772d045", func := "polliwog/polliwoglaw15.PaceBusy", spec := "paceBusy", apart := false, narrowed := true }
def PaceBusyUptoSaid : Prop := paceBusyUptoRow.holds Try.pinned (OpenSpec.upto paceBusySpec)

end Rows
end Go.Proofs.Ytlfjndjbfbejkaa
