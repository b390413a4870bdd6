/-
  RulesEnds is proved: whoever isn't Outgoing handles an END; whoever is Ready or on the way back falls at what can't be; for every input the law returns true.
-/
import Derived.Test.YtdjhibahjpibjaaDoorLaid
import Derived.Test.YtdjhibahjpibjaaDoorCards
import Derived.Test.YtdjhibahjpibjaaDoorRules6
namespace Go.Proofs.YtdjhibahjpibjaaDoor.rulesEnds
open Go.ChangeShapes Go.WideShapes Go.ChangeAt Go.RowKit
set_option linter.unusedVariables false      -- a walk need not use every bound of an argument

open Rules
theorem and255 (n : Int) : bits .and .i64 n 255 = n % 256 := by
  have h31 : (BitVec.ofInt 64 255).toNat = 2 ^ 8 - 1 := by decide
  have key : (BitVec.ofInt 64 n &&& BitVec.ofInt 64 255).toNat = (n % ((2 ^ 64 : Nat) : Int)).toNat % 2 ^ 8 := by
    rw [BitVec.toNat_and, BitVec.toNat_ofInt, h31, Nat.and_two_pow_sub_one_eq_mod]
  show IntKind.i64.wrap ((BitVec.ofInt 64 n &&& BitVec.ofInt 64 255).toNat : Nat) = n % 256
  rw [key, IntKind.wrap_i64]
  omega
theorem st (n : Int) : ∃ t : Nat, (bits .and .i64 n 255).tmod 10 = (t : Int) ∧ t < 10 := by
  rw [and255]
  refine ⟨(n % 256 % 10).toNat, ?_, by omega⟩
  rw [Int.tmod_eq_emod_of_nonneg (by omega)]; omega
set_option maxRecDepth 100000 in
set_option maxHeartbeats 1000000 in
theorem walk1 (w : World) (a0 : Int) (ht : (bits .and .i64 a0 255).tmod 10 = (0 : Int)) (HT : Hid (Tabs w)) :
    Calls Tryd.prog 6 #[.int .i64 a0] w fun e w' => e = .returned (.bool true) ∧ Below w.heap.size w w' := by
  go_enter Tryd.func6, Tryd.ntmps6
  go_wp2_with fail
  refine (awake_any _ HT.out).mono ?_; rintro e W1 ⟨rfl, hb1⟩
  have HT1 := Lib.hid (HT.out.below hb1)
  have B1 := Lib.hid hb1
  clear hb1
  go_wp2_with fail
  refine (of_any 1 3 (by decide) _).mono ?_; rintro e W2 ⟨rfl, hb2⟩
  rw [show ofI 1 3 = 1 from by decide +kernel]
  have HT2 := Lib.hid (HT1.out.below hb2)
  have B2 := Lib.hid (B1.out.trans (hb2.mono B1.out.size))
  clear hb2
  go_wp2_with fail
  refine (of_any 1 4 (by decide) _).mono ?_; rintro e W3 ⟨rfl, hb2⟩
  rw [show ofI 1 4 = 0 from by decide +kernel]
  have HT3 := Lib.hid (HT2.out.below hb2)
  have B3 := Lib.hid (B2.out.trans (hb2.mono B2.out.size))
  clear hb2
  go_wp2_with fail
  refine (of_any 1 1 (by decide) _).mono ?_; rintro e W4 ⟨rfl, hb2⟩
  rw [show ofI 1 1 = 1 from by decide +kernel]
  have HT4 := Lib.hid (HT3.out.below hb2)
  have B4 := Lib.hid (B3.out.trans (hb2.mono B3.out.size))
  clear hb2
  go_wp2_with fail
  refine (of_any 1 13 (by decide) _).mono ?_; rintro e W5 ⟨rfl, hb2⟩
  rw [show ofI 1 13 = 1 from by decide +kernel]
  have HT5 := Lib.hid (HT4.out.below hb2)
  have B5 := Lib.hid (B4.out.trans (hb2.mono B4.out.size))
  clear hb2
  go_wp2_with fail
  refine (of_any 1 14 (by decide) _).mono ?_; rintro e W6 ⟨rfl, hb2⟩
  rw [show ofI 1 14 = 1 from by decide +kernel]
  have HT6 := Lib.hid (HT5.out.below hb2)
  have B6 := Lib.hid (B5.out.trans (hb2.mono B5.out.size))
  clear hb2
  go_wp2_with fail
  all_goals go_ret
  all_goals exact ⟨rfl, B6.out⟩
set_option maxRecDepth 100000 in
set_option maxHeartbeats 1000000 in
theorem walk2 (w : World) (a0 : Int) (ht : (bits .and .i64 a0 255).tmod 10 = (1 : Int)) (HT : Hid (Tabs w)) :
    Calls Tryd.prog 6 #[.int .i64 a0] w fun e w' => e = .returned (.bool true) ∧ Below w.heap.size w w' := by
  go_enter Tryd.func6, Tryd.ntmps6
  go_wp2_with fail
  refine (awake_any _ HT.out).mono ?_; rintro e W1 ⟨rfl, hb1⟩
  have HT1 := Lib.hid (HT.out.below hb1)
  have B1 := Lib.hid hb1
  clear hb1
  go_wp2_with fail
  refine (of_any 2 3 (by decide) _).mono ?_; rintro e W2 ⟨rfl, hb2⟩
  rw [show ofI 2 3 = 0 from by decide +kernel]
  have HT2 := Lib.hid (HT1.out.below hb2)
  have B2 := Lib.hid (B1.out.trans (hb2.mono B1.out.size))
  clear hb2
  go_wp2_with fail
  refine (of_any 2 4 (by decide) _).mono ?_; rintro e W3 ⟨rfl, hb2⟩
  rw [show ofI 2 4 = 0 from by decide +kernel]
  have HT3 := Lib.hid (HT2.out.below hb2)
  have B3 := Lib.hid (B2.out.trans (hb2.mono B2.out.size))
  clear hb2
  go_wp2_with fail
  refine (of_any 2 1 (by decide) _).mono ?_; rintro e W4 ⟨rfl, hb2⟩
  rw [show ofI 2 1 = 1 from by decide +kernel]
  have HT4 := Lib.hid (HT3.out.below hb2)
  have B4 := Lib.hid (B3.out.trans (hb2.mono B3.out.size))
  clear hb2
  go_wp2_with fail
  refine (of_any 2 13 (by decide) _).mono ?_; rintro e W5 ⟨rfl, hb2⟩
  rw [show ofI 2 13 = 1 from by decide +kernel]
  have HT5 := Lib.hid (HT4.out.below hb2)
  have B5 := Lib.hid (B4.out.trans (hb2.mono B4.out.size))
  clear hb2
  go_wp2_with fail
  refine (of_any 2 14 (by decide) _).mono ?_; rintro e W6 ⟨rfl, hb2⟩
  rw [show ofI 2 14 = 1 from by decide +kernel]
  have HT6 := Lib.hid (HT5.out.below hb2)
  have B6 := Lib.hid (B5.out.trans (hb2.mono B5.out.size))
  clear hb2
  go_wp2_with fail
  all_goals go_ret
  all_goals exact ⟨rfl, B6.out⟩
set_option maxRecDepth 100000 in
set_option maxHeartbeats 1000000 in
theorem walk3 (w : World) (a0 : Int) (ht : (bits .and .i64 a0 255).tmod 10 = (2 : Int)) (HT : Hid (Tabs w)) :
    Calls Tryd.prog 6 #[.int .i64 a0] w fun e w' => e = .returned (.bool true) ∧ Below w.heap.size w w' := by
  go_enter Tryd.func6, Tryd.ntmps6
  go_wp2_with fail
  refine (awake_any _ HT.out).mono ?_; rintro e W1 ⟨rfl, hb1⟩
  have HT1 := Lib.hid (HT.out.below hb1)
  have B1 := Lib.hid hb1
  clear hb1
  go_wp2_with fail
  refine (of_any 3 3 (by decide) _).mono ?_; rintro e W2 ⟨rfl, hb2⟩
  rw [show ofI 3 3 = 1 from by decide +kernel]
  have HT2 := Lib.hid (HT1.out.below hb2)
  have B2 := Lib.hid (B1.out.trans (hb2.mono B1.out.size))
  clear hb2
  go_wp2_with fail
  refine (of_any 3 4 (by decide) _).mono ?_; rintro e W3 ⟨rfl, hb2⟩
  rw [show ofI 3 4 = 2 from by decide +kernel]
  have HT3 := Lib.hid (HT2.out.below hb2)
  have B3 := Lib.hid (B2.out.trans (hb2.mono B2.out.size))
  clear hb2
  go_wp2_with fail
  refine (of_any 3 1 (by decide) _).mono ?_; rintro e W4 ⟨rfl, hb2⟩
  rw [show ofI 3 1 = 1 from by decide +kernel]
  have HT4 := Lib.hid (HT3.out.below hb2)
  have B4 := Lib.hid (B3.out.trans (hb2.mono B3.out.size))
  clear hb2
  go_wp2_with fail
  refine (of_any 3 13 (by decide) _).mono ?_; rintro e W5 ⟨rfl, hb2⟩
  rw [show ofI 3 13 = 1 from by decide +kernel]
  have HT5 := Lib.hid (HT4.out.below hb2)
  have B5 := Lib.hid (B4.out.trans (hb2.mono B4.out.size))
  clear hb2
  go_wp2_with fail
  refine (of_any 3 14 (by decide) _).mono ?_; rintro e W6 ⟨rfl, hb2⟩
  rw [show ofI 3 14 = 1 from by decide +kernel]
  have HT6 := Lib.hid (HT5.out.below hb2)
  have B6 := Lib.hid (B5.out.trans (hb2.mono B5.out.size))
  clear hb2
  go_wp2_with fail
  all_goals go_ret
  all_goals exact ⟨rfl, B6.out⟩
set_option maxRecDepth 100000 in
set_option maxHeartbeats 1000000 in
theorem walk4 (w : World) (a0 : Int) (ht : (bits .and .i64 a0 255).tmod 10 = (3 : Int)) (HT : Hid (Tabs w)) :
    Calls Tryd.prog 6 #[.int .i64 a0] w fun e w' => e = .returned (.bool true) ∧ Below w.heap.size w w' := by
  go_enter Tryd.func6, Tryd.ntmps6
  go_wp2_with fail
  refine (awake_any _ HT.out).mono ?_; rintro e W1 ⟨rfl, hb1⟩
  have HT1 := Lib.hid (HT.out.below hb1)
  have B1 := Lib.hid hb1
  clear hb1
  go_wp2_with fail
  refine (of_any 4 3 (by decide) _).mono ?_; rintro e W2 ⟨rfl, hb2⟩
  rw [show ofI 4 3 = 1 from by decide +kernel]
  have HT2 := Lib.hid (HT1.out.below hb2)
  have B2 := Lib.hid (B1.out.trans (hb2.mono B1.out.size))
  clear hb2
  go_wp2_with fail
  refine (of_any 4 4 (by decide) _).mono ?_; rintro e W3 ⟨rfl, hb2⟩
  rw [show ofI 4 4 = 1 from by decide +kernel]
  have HT3 := Lib.hid (HT2.out.below hb2)
  have B3 := Lib.hid (B2.out.trans (hb2.mono B2.out.size))
  clear hb2
  go_wp2_with fail
  refine (of_any 4 1 (by decide) _).mono ?_; rintro e W4 ⟨rfl, hb2⟩
  rw [show ofI 4 1 = 1 from by decide +kernel]
  have HT4 := Lib.hid (HT3.out.below hb2)
  have B4 := Lib.hid (B3.out.trans (hb2.mono B3.out.size))
  clear hb2
  go_wp2_with fail
  refine (of_any 4 13 (by decide) _).mono ?_; rintro e W5 ⟨rfl, hb2⟩
  rw [show ofI 4 13 = 1 from by decide +kernel]
  have HT5 := Lib.hid (HT4.out.below hb2)
  have B5 := Lib.hid (B4.out.trans (hb2.mono B4.out.size))
  clear hb2
  go_wp2_with fail
  refine (of_any 4 14 (by decide) _).mono ?_; rintro e W6 ⟨rfl, hb2⟩
  rw [show ofI 4 14 = 1 from by decide +kernel]
  have HT6 := Lib.hid (HT5.out.below hb2)
  have B6 := Lib.hid (B5.out.trans (hb2.mono B5.out.size))
  clear hb2
  go_wp2_with fail
  all_goals go_ret
  all_goals exact ⟨rfl, B6.out⟩
set_option maxRecDepth 100000 in
set_option maxHeartbeats 1000000 in
theorem walk5 (w : World) (a0 : Int) (ht : (bits .and .i64 a0 255).tmod 10 = (4 : Int)) (HT : Hid (Tabs w)) :
    Calls Tryd.prog 6 #[.int .i64 a0] w fun e w' => e = .returned (.bool true) ∧ Below w.heap.size w w' := by
  go_enter Tryd.func6, Tryd.ntmps6
  go_wp2_with fail
  refine (awake_any _ HT.out).mono ?_; rintro e W1 ⟨rfl, hb1⟩
  have HT1 := Lib.hid (HT.out.below hb1)
  have B1 := Lib.hid hb1
  clear hb1
  go_wp2_with fail
  refine (of_any 5 3 (by decide) _).mono ?_; rintro e W2 ⟨rfl, hb2⟩
  rw [show ofI 5 3 = 1 from by decide +kernel]
  have HT2 := Lib.hid (HT1.out.below hb2)
  have B2 := Lib.hid (B1.out.trans (hb2.mono B1.out.size))
  clear hb2
  go_wp2_with fail
  refine (of_any 5 4 (by decide) _).mono ?_; rintro e W3 ⟨rfl, hb2⟩
  rw [show ofI 5 4 = 4 from by decide +kernel]
  have HT3 := Lib.hid (HT2.out.below hb2)
  have B3 := Lib.hid (B2.out.trans (hb2.mono B2.out.size))
  clear hb2
  go_wp2_with fail
  refine (of_any 5 7 (by decide) _).mono ?_; rintro e W4 ⟨rfl, hb2⟩
  rw [show ofI 5 7 = 4 from by decide +kernel]
  have HT4 := Lib.hid (HT3.out.below hb2)
  have B4 := Lib.hid (B3.out.trans (hb2.mono B3.out.size))
  clear hb2
  go_wp2_with fail
  refine (of_any 5 1 (by decide) _).mono ?_; rintro e W5 ⟨rfl, hb2⟩
  rw [show ofI 5 1 = 1 from by decide +kernel]
  have HT5 := Lib.hid (HT4.out.below hb2)
  have B5 := Lib.hid (B4.out.trans (hb2.mono B4.out.size))
  clear hb2
  go_wp2_with fail
  refine (of_any 5 13 (by decide) _).mono ?_; rintro e W6 ⟨rfl, hb2⟩
  rw [show ofI 5 13 = 1 from by decide +kernel]
  have HT6 := Lib.hid (HT5.out.below hb2)
  have B6 := Lib.hid (B5.out.trans (hb2.mono B5.out.size))
  clear hb2
  go_wp2_with fail
  refine (of_any 5 14 (by decide) _).mono ?_; rintro e W7 ⟨rfl, hb2⟩
  rw [show ofI 5 14 = 1 from by decide +kernel]
  have HT7 := Lib.hid (HT6.out.below hb2)
  have B7 := Lib.hid (B6.out.trans (hb2.mono B6.out.size))
  clear hb2
  go_wp2_with fail
  all_goals go_ret
  all_goals exact ⟨rfl, B7.out⟩
set_option maxRecDepth 100000 in
set_option maxHeartbeats 1000000 in
theorem walk6 (w : World) (a0 : Int) (ht : (bits .and .i64 a0 255).tmod 10 = (5 : Int)) (HT : Hid (Tabs w)) :
    Calls Tryd.prog 6 #[.int .i64 a0] w fun e w' => e = .returned (.bool true) ∧ Below w.heap.size w w' := by
  go_enter Tryd.func6, Tryd.ntmps6
  go_wp2_with fail
  refine (awake_any _ HT.out).mono ?_; rintro e W1 ⟨rfl, hb1⟩
  have HT1 := Lib.hid (HT.out.below hb1)
  have B1 := Lib.hid hb1
  clear hb1
  go_wp2_with fail
  refine (of_any 6 3 (by decide) _).mono ?_; rintro e W2 ⟨rfl, hb2⟩
  rw [show ofI 6 3 = 1 from by decide +kernel]
  have HT2 := Lib.hid (HT1.out.below hb2)
  have B2 := Lib.hid (B1.out.trans (hb2.mono B1.out.size))
  clear hb2
  go_wp2_with fail
  refine (of_any 6 4 (by decide) _).mono ?_; rintro e W3 ⟨rfl, hb2⟩
  rw [show ofI 6 4 = 4 from by decide +kernel]
  have HT3 := Lib.hid (HT2.out.below hb2)
  have B3 := Lib.hid (B2.out.trans (hb2.mono B2.out.size))
  clear hb2
  go_wp2_with fail
  refine (of_any 6 7 (by decide) _).mono ?_; rintro e W4 ⟨rfl, hb2⟩
  rw [show ofI 6 7 = 4 from by decide +kernel]
  have HT4 := Lib.hid (HT3.out.below hb2)
  have B4 := Lib.hid (B3.out.trans (hb2.mono B3.out.size))
  clear hb2
  go_wp2_with fail
  refine (of_any 6 1 (by decide) _).mono ?_; rintro e W5 ⟨rfl, hb2⟩
  rw [show ofI 6 1 = 1 from by decide +kernel]
  have HT5 := Lib.hid (HT4.out.below hb2)
  have B5 := Lib.hid (B4.out.trans (hb2.mono B4.out.size))
  clear hb2
  go_wp2_with fail
  refine (of_any 6 13 (by decide) _).mono ?_; rintro e W6 ⟨rfl, hb2⟩
  rw [show ofI 6 13 = 1 from by decide +kernel]
  have HT6 := Lib.hid (HT5.out.below hb2)
  have B6 := Lib.hid (B5.out.trans (hb2.mono B5.out.size))
  clear hb2
  go_wp2_with fail
  refine (of_any 6 14 (by decide) _).mono ?_; rintro e W7 ⟨rfl, hb2⟩
  rw [show ofI 6 14 = 1 from by decide +kernel]
  have HT7 := Lib.hid (HT6.out.below hb2)
  have B7 := Lib.hid (B6.out.trans (hb2.mono B6.out.size))
  clear hb2
  go_wp2_with fail
  all_goals go_ret
  all_goals exact ⟨rfl, B7.out⟩
set_option maxRecDepth 100000 in
set_option maxHeartbeats 1000000 in
theorem walk7 (w : World) (a0 : Int) (ht : (bits .and .i64 a0 255).tmod 10 = (6 : Int)) (HT : Hid (Tabs w)) :
    Calls Tryd.prog 6 #[.int .i64 a0] w fun e w' => e = .returned (.bool true) ∧ Below w.heap.size w w' := by
  go_enter Tryd.func6, Tryd.ntmps6
  go_wp2_with fail
  refine (awake_any _ HT.out).mono ?_; rintro e W1 ⟨rfl, hb1⟩
  have HT1 := Lib.hid (HT.out.below hb1)
  have B1 := Lib.hid hb1
  clear hb1
  go_wp2_with fail
  refine (of_any 7 3 (by decide) _).mono ?_; rintro e W2 ⟨rfl, hb2⟩
  rw [show ofI 7 3 = 1 from by decide +kernel]
  have HT2 := Lib.hid (HT1.out.below hb2)
  have B2 := Lib.hid (B1.out.trans (hb2.mono B1.out.size))
  clear hb2
  go_wp2_with fail
  refine (of_any 7 4 (by decide) _).mono ?_; rintro e W3 ⟨rfl, hb2⟩
  rw [show ofI 7 4 = 4 from by decide +kernel]
  have HT3 := Lib.hid (HT2.out.below hb2)
  have B3 := Lib.hid (B2.out.trans (hb2.mono B2.out.size))
  clear hb2
  go_wp2_with fail
  refine (of_any 7 7 (by decide) _).mono ?_; rintro e W4 ⟨rfl, hb2⟩
  rw [show ofI 7 7 = 4 from by decide +kernel]
  have HT4 := Lib.hid (HT3.out.below hb2)
  have B4 := Lib.hid (B3.out.trans (hb2.mono B3.out.size))
  clear hb2
  go_wp2_with fail
  refine (of_any 7 1 (by decide) _).mono ?_; rintro e W5 ⟨rfl, hb2⟩
  rw [show ofI 7 1 = 1 from by decide +kernel]
  have HT5 := Lib.hid (HT4.out.below hb2)
  have B5 := Lib.hid (B4.out.trans (hb2.mono B4.out.size))
  clear hb2
  go_wp2_with fail
  refine (of_any 7 13 (by decide) _).mono ?_; rintro e W6 ⟨rfl, hb2⟩
  rw [show ofI 7 13 = 1 from by decide +kernel]
  have HT6 := Lib.hid (HT5.out.below hb2)
  have B6 := Lib.hid (B5.out.trans (hb2.mono B5.out.size))
  clear hb2
  go_wp2_with fail
  refine (of_any 7 14 (by decide) _).mono ?_; rintro e W7 ⟨rfl, hb2⟩
  rw [show ofI 7 14 = 1 from by decide +kernel]
  have HT7 := Lib.hid (HT6.out.below hb2)
  have B7 := Lib.hid (B6.out.trans (hb2.mono B6.out.size))
  clear hb2
  go_wp2_with fail
  all_goals go_ret
  all_goals exact ⟨rfl, B7.out⟩
set_option maxRecDepth 100000 in
set_option maxHeartbeats 1000000 in
theorem walk8 (w : World) (a0 : Int) (ht : (bits .and .i64 a0 255).tmod 10 = (7 : Int)) (HT : Hid (Tabs w)) :
    Calls Tryd.prog 6 #[.int .i64 a0] w fun e w' => e = .returned (.bool true) ∧ Below w.heap.size w w' := by
  go_enter Tryd.func6, Tryd.ntmps6
  go_wp2_with fail
  refine (awake_any _ HT.out).mono ?_; rintro e W1 ⟨rfl, hb1⟩
  have HT1 := Lib.hid (HT.out.below hb1)
  have B1 := Lib.hid hb1
  clear hb1
  go_wp2_with fail
  refine (of_any 8 3 (by decide) _).mono ?_; rintro e W2 ⟨rfl, hb2⟩
  rw [show ofI 8 3 = 1 from by decide +kernel]
  have HT2 := Lib.hid (HT1.out.below hb2)
  have B2 := Lib.hid (B1.out.trans (hb2.mono B1.out.size))
  clear hb2
  go_wp2_with fail
  refine (of_any 8 4 (by decide) _).mono ?_; rintro e W3 ⟨rfl, hb2⟩
  rw [show ofI 8 4 = 4 from by decide +kernel]
  have HT3 := Lib.hid (HT2.out.below hb2)
  have B3 := Lib.hid (B2.out.trans (hb2.mono B2.out.size))
  clear hb2
  go_wp2_with fail
  refine (of_any 8 7 (by decide) _).mono ?_; rintro e W4 ⟨rfl, hb2⟩
  rw [show ofI 8 7 = 4 from by decide +kernel]
  have HT4 := Lib.hid (HT3.out.below hb2)
  have B4 := Lib.hid (B3.out.trans (hb2.mono B3.out.size))
  clear hb2
  go_wp2_with fail
  refine (of_any 8 1 (by decide) _).mono ?_; rintro e W5 ⟨rfl, hb2⟩
  rw [show ofI 8 1 = 1 from by decide +kernel]
  have HT5 := Lib.hid (HT4.out.below hb2)
  have B5 := Lib.hid (B4.out.trans (hb2.mono B4.out.size))
  clear hb2
  go_wp2_with fail
  refine (of_any 8 13 (by decide) _).mono ?_; rintro e W6 ⟨rfl, hb2⟩
  rw [show ofI 8 13 = 1 from by decide +kernel]
  have HT6 := Lib.hid (HT5.out.below hb2)
  have B6 := Lib.hid (B5.out.trans (hb2.mono B5.out.size))
  clear hb2
  go_wp2_with fail
  refine (of_any 8 14 (by decide) _).mono ?_; rintro e W7 ⟨rfl, hb2⟩
  rw [show ofI 8 14 = 1 from by decide +kernel]
  have HT7 := Lib.hid (HT6.out.below hb2)
  have B7 := Lib.hid (B6.out.trans (hb2.mono B6.out.size))
  clear hb2
  go_wp2_with fail
  all_goals go_ret
  all_goals exact ⟨rfl, B7.out⟩
set_option maxRecDepth 100000 in
set_option maxHeartbeats 1000000 in
theorem walk9 (w : World) (a0 : Int) (ht : (bits .and .i64 a0 255).tmod 10 = (8 : Int)) (HT : Hid (Tabs w)) :
    Calls Tryd.prog 6 #[.int .i64 a0] w fun e w' => e = .returned (.bool true) ∧ Below w.heap.size w w' := by
  go_enter Tryd.func6, Tryd.ntmps6
  go_wp2_with fail
  refine (awake_any _ HT.out).mono ?_; rintro e W1 ⟨rfl, hb1⟩
  have HT1 := Lib.hid (HT.out.below hb1)
  have B1 := Lib.hid hb1
  clear hb1
  go_wp2_with fail
  refine (of_any 9 3 (by decide) _).mono ?_; rintro e W2 ⟨rfl, hb2⟩
  rw [show ofI 9 3 = 1 from by decide +kernel]
  have HT2 := Lib.hid (HT1.out.below hb2)
  have B2 := Lib.hid (B1.out.trans (hb2.mono B1.out.size))
  clear hb2
  go_wp2_with fail
  refine (of_any 9 4 (by decide) _).mono ?_; rintro e W3 ⟨rfl, hb2⟩
  rw [show ofI 9 4 = 4 from by decide +kernel]
  have HT3 := Lib.hid (HT2.out.below hb2)
  have B3 := Lib.hid (B2.out.trans (hb2.mono B2.out.size))
  clear hb2
  go_wp2_with fail
  refine (of_any 9 7 (by decide) _).mono ?_; rintro e W4 ⟨rfl, hb2⟩
  rw [show ofI 9 7 = 4 from by decide +kernel]
  have HT4 := Lib.hid (HT3.out.below hb2)
  have B4 := Lib.hid (B3.out.trans (hb2.mono B3.out.size))
  clear hb2
  go_wp2_with fail
  refine (of_any 9 1 (by decide) _).mono ?_; rintro e W5 ⟨rfl, hb2⟩
  rw [show ofI 9 1 = 1 from by decide +kernel]
  have HT5 := Lib.hid (HT4.out.below hb2)
  have B5 := Lib.hid (B4.out.trans (hb2.mono B4.out.size))
  clear hb2
  go_wp2_with fail
  refine (of_any 9 13 (by decide) _).mono ?_; rintro e W6 ⟨rfl, hb2⟩
  rw [show ofI 9 13 = 1 from by decide +kernel]
  have HT6 := Lib.hid (HT5.out.below hb2)
  have B6 := Lib.hid (B5.out.trans (hb2.mono B5.out.size))
  clear hb2
  go_wp2_with fail
  refine (of_any 9 14 (by decide) _).mono ?_; rintro e W7 ⟨rfl, hb2⟩
  rw [show ofI 9 14 = 1 from by decide +kernel]
  have HT7 := Lib.hid (HT6.out.below hb2)
  have B7 := Lib.hid (B6.out.trans (hb2.mono B6.out.size))
  clear hb2
  go_wp2_with fail
  all_goals go_ret
  all_goals exact ⟨rfl, B7.out⟩
set_option maxRecDepth 100000 in
set_option maxHeartbeats 1000000 in
theorem walk10 (w : World) (a0 : Int) (ht : (bits .and .i64 a0 255).tmod 10 = (9 : Int)) (HT : Hid (Tabs w)) :
    Calls Tryd.prog 6 #[.int .i64 a0] w fun e w' => e = .returned (.bool true) ∧ Below w.heap.size w w' := by
  go_enter Tryd.func6, Tryd.ntmps6
  go_wp2_with fail
  refine (awake_any _ HT.out).mono ?_; rintro e W1 ⟨rfl, hb1⟩
  have HT1 := Lib.hid (HT.out.below hb1)
  have B1 := Lib.hid hb1
  clear hb1
  go_wp2_with fail
  refine (of_any 10 3 (by decide) _).mono ?_; rintro e W2 ⟨rfl, hb2⟩
  rw [show ofI 10 3 = 1 from by decide +kernel]
  have HT2 := Lib.hid (HT1.out.below hb2)
  have B2 := Lib.hid (B1.out.trans (hb2.mono B1.out.size))
  clear hb2
  go_wp2_with fail
  refine (of_any 10 4 (by decide) _).mono ?_; rintro e W3 ⟨rfl, hb2⟩
  rw [show ofI 10 4 = 4 from by decide +kernel]
  have HT3 := Lib.hid (HT2.out.below hb2)
  have B3 := Lib.hid (B2.out.trans (hb2.mono B2.out.size))
  clear hb2
  go_wp2_with fail
  refine (of_any 10 7 (by decide) _).mono ?_; rintro e W4 ⟨rfl, hb2⟩
  rw [show ofI 10 7 = 4 from by decide +kernel]
  have HT4 := Lib.hid (HT3.out.below hb2)
  have B4 := Lib.hid (B3.out.trans (hb2.mono B3.out.size))
  clear hb2
  go_wp2_with fail
  refine (of_any 10 1 (by decide) _).mono ?_; rintro e W5 ⟨rfl, hb2⟩
  rw [show ofI 10 1 = 1 from by decide +kernel]
  have HT5 := Lib.hid (HT4.out.below hb2)
  have B5 := Lib.hid (B4.out.trans (hb2.mono B4.out.size))
  clear hb2
  go_wp2_with fail
  refine (of_any 10 13 (by decide) _).mono ?_; rintro e W6 ⟨rfl, hb2⟩
  rw [show ofI 10 13 = 1 from by decide +kernel]
  have HT6 := Lib.hid (HT5.out.below hb2)
  have B6 := Lib.hid (B5.out.trans (hb2.mono B5.out.size))
  clear hb2
  go_wp2_with fail
  refine (of_any 10 14 (by decide) _).mono ?_; rintro e W7 ⟨rfl, hb2⟩
  rw [show ofI 10 14 = 1 from by decide +kernel]
  have HT7 := Lib.hid (HT6.out.below hb2)
  have B7 := Lib.hid (B6.out.trans (hb2.mono B6.out.size))
  clear hb2
  go_wp2_with fail
  all_goals go_ret
  all_goals exact ⟨rfl, B7.out⟩
theorem walk (w : World) (a0 : Int) (w0 : (Lit.int .i64 a0).wf = true) (hL : laidMetH Tryd.prog Rows.rulesEndsRow.laid w) :
    Calls Tryd.prog 6 #[.int .i64 a0] w fun e w' => e = .returned (.bool true) ∧ Below w.heap.size w w' := by
  have HT := Lib.hid (tabs_laid (by kernel_rfl) hL (by simp [Rows.rulesEndsRow]) (by simp [Rows.rulesEndsRow]))
  obtain ⟨t, ht, h10⟩ := st a0
  match t, h10 with
  | 0, _ => exact walk1 w a0 ht HT
  | 1, _ => exact walk2 w a0 ht HT
  | 2, _ => exact walk3 w a0 ht HT
  | 3, _ => exact walk4 w a0 ht HT
  | 4, _ => exact walk5 w a0 ht HT
  | 5, _ => exact walk6 w a0 ht HT
  | 6, _ => exact walk7 w a0 ht HT
  | 7, _ => exact walk8 w a0 ht HT
  | 8, _ => exact walk9 w a0 ht HT
  | 9, _ => exact walk10 w a0 ht HT
  | t + 10, h => exact absurd h (by omega)

theorem own : ownKnob Tryd.prog.godebug = none := by kernel_rfl
theorem laidOut : laidOutB Tryd.prog = true := by kernel_rfl

set_option maxRecDepth 100000 in
theorem lifted (os : Os) (started : os.Started) (H : Type) (enc : TypeId × Value → H) :
    ReturnsInHanded {} Tryd.checked os 6 .any (fun w args => (Rows.rulesEndsSpec.pre enc Tryd.prog Tryd.f6 Rows.rulesEndsRow.domain false w args ∧ laidMetH Tryd.prog Rows.rulesEndsRow.laid w) ∧ sizedMet enc Tryd.prog Tryd.f6 (OpenSpec.ofChange Rows.rulesEndsSpec) false w args) (Rows.rulesEndsSpec.post enc Tryd.prog Tryd.f6 false true false false) := by
  refine Base.law_laid (C := Tryd.checked) own started (by kernel_rfl) Tryd.func6 laidOut (by kernel_rfl) rfl Tryd.underlying4 rfl ?_
    (Base.laid_witness #[.int .i64 0] (World.shaped_of_ZipB (by kernel_rfl) (by kernel_rfl)) (by kernel_rfl) (by kernel_rfl) (by kernel_rfl) (by rw [MakeChecks.laidMetH_plain _ _ _ (by kernel_rfl)]; exact laidMet_laidAll _ (by kernel_rfl) (by kernel_rfl))) ?_
  · intro ds h
    match ds, h with
    | [_d0], _ => exact ⟨rfl, rfl, rfl⟩
  · intro W base args ds before hval0 hA0 hlt hsz hL
    have hval : ∀ (j : Nat) t v, Tryd.f6.params[j]? = some t → args[j]? = some v → Value.okWide Tryd.prog W .any base t v := hval0
    have hA : DataW.TrodAll enc Tryd.prog W 0 (fun _ => true) true Tryd.f6.params.toList args.toList ds before := hA0
    clear hval0 hA0
    rw [Tryd.params6] at hA hval hsz
    obtain ⟨v0, vs0, d0, ds0, p0, q0, hargs, rfl, rfl, h0, r0⟩ := trodAll_cons hA
    obtain ⟨rfl, rfl, rfl⟩ := trodAll_nil r0
    obtain rfl : args = #[v0] := by cases args; simp_all
    obtain ⟨a0, rfl, rfl, rfl, w0⟩ := open_int Tryd.underlying3 (hval 0 3 v0 rfl rfl) h0
    exact walk W a0 w0 hL

theorem over : Rows.rulesEndsRow.holds Tryd.pinned (OpenSpec.ofChange Rows.rulesEndsSpec) :=
  OpenClaim.holds_of_wide 6 Tryd.f6 rfl rfl rfl rfl rfl rfl rfl ⟨rfl, rfl, rfl, rfl, rfl⟩ rfl rfl rfl rfl rfl (by kernel_rfl) Tryd.func6 (by kernel_rfl)
    (of_decide_eq_true (by kernel_rfl)) (by unfold Func.isWrapper; first | (rw [if_pos (by decide +kernel)]; kernel_rfl) | (rw [if_neg (by decide +kernel)]; exact ⟨rfl, rfl⟩))
    (fun os started H enc _ => lifted os started H enc)

theorem proved : Rows.RulesEndsCardSaid :=
  Claim7.holds_tied_plain_at .later [] [.data, .data] true Rows.rulesEndsCard.stood.harness false over (fun _ h => by cases h) (by kernel_rfl) (fun _ h => by cases h) rulesEnds_row_tie rfl ⟨rfl, rfl⟩ (by kernel_rfl) rfl
    (fun f fn hf hfn => by
      obtain rfl : f = 6 := Option.some.inj ((show Tryd.prog.funcNamed Rows.rulesEndsRow.func = some 6 by kernel_rfl).symm.trans hf) |>.symm
      obtain rfl : fn = Tryd.f6 := (Option.some.inj (Tryd.func6.symm.trans hfn)).symm
      exact ⟨by kernel_rfl, fun j t ht => by
        rw [Tryd.params6] at ht
        have hm : t ∈ [3] := by simpa using Array.mem_of_getElem? ht
        have hall : ([3].all fun u => !Tryd.prog.wantsStandIn u) = true := by kernel_rfl
        exact (show Tryd.prog.wantsStandIn t = false by simpa using List.all_eq_true.1 hall t hm)⟩)
    (by kernel_rfl)
#print axioms proved
end Go.Proofs.YtdjhibahjpibjaaDoor.rulesEnds
