/-
  What is done with units, by the state: the fixed fact.
-/
import Derived.Test.YtdjhibahjpibjaaDoorRules5
import Derived.BigQuiet
import Derived.Deep.QuietTactic
import Derived.Deep.RegionHeld3
namespace Go.Proofs.YtdjhibahjpibjaaDoor.Rules
open Go.ChangeShapes Go.WideShapes Go.RowKit Go.Maps Own

set_option maxRecDepth 100000 in
set_option maxHeartbeats 1000000 in
theorem awake_any (w : World) (h : Tabs w) :
    Calls Tryd.prog 8 #[] w fun e w' => e = .returned (.bool true) ∧ Below w.heap.size w w' := by
  have H := Lib.hid h
  clear h
  go_enter Tryd.func8, Tryd.ntmps8
  go_wp2_with fail
  refine (of_any 1 8 (by decide) _).mono ?_; rintro e w1 ⟨rfl, hb1⟩
  rw [show ofI 1 8 = 3 from by decide +kernel]
  have H1 := Lib.hid (H.out.below hb1)
  have B1 := Lib.hid hb1
  clear hb1
  go_wp2_with fail
  refine (of_any 2 8 (by decide) _).mono ?_; rintro e w2 ⟨rfl, hb2⟩
  rw [show ofI 2 8 = 0 from by decide +kernel]
  have H2 := Lib.hid (H1.out.below hb2)
  have B2 := Lib.hid (B1.out.trans (hb2.mono B1.out.size))
  clear hb2
  go_wp2_with fail
  refine (letter_any 8 _ H2.out).mono ?_; rintro e w3 ⟨rfl, rfl⟩
  rw [show letterI 8 = 65 from by decide +kernel]
  go_wp2_with fail
  refine (may_any 1 1 _).mono ?_; rintro e w3 ⟨rfl, hb3⟩
  rw [show mayI 1 1 = true from by decide +kernel]
  have H3 := Lib.hid (H2.out.below hb3)
  have B3 := Lib.hid (B2.out.trans (hb3.mono B2.out.size))
  clear hb3
  go_wp2_with fail
  refine (name_any 10 _ H3.out).mono ?_; rintro e w3 ⟨rfl, rfl⟩
  rw [show nameI 10 = ⟨#[114, 101, 97, 100, 121]⟩ from rfl]
  go_wp2_with fail
  all_goals go_ret
  all_goals exact ⟨rfl, B3.out⟩
end Go.Proofs.YtdjhibahjpibjaaDoor.Rules
