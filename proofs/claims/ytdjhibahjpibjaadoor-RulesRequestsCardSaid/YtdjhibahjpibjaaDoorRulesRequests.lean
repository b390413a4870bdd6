/-
  RulesRequests is proved: whoever isn't Idle or Leaving may be released; whoever is may begin; for every input the law returns true.
-/
import Derived.Test.YtdjhibahjpibjaaDoorLaid
import Derived.Test.YtdjhibahjpibjaaDoorCards
import Derived.Test.YtdjhibahjpibjaaDoorRules6
namespace Go.Proofs.YtdjhibahjpibjaaDoor.rulesRequests
open Go.ChangeShapes Go.WideShapes Go.ChangeAt Go.RowKit
set_option linter.unusedVariables false      -- a walk need not use every bound of an argument

open Rules
theorem and255 (n : Int) : bits .and .i64 n 255 = n % 256 := by
  have h31 : (BitVec.ofInt 64 255).toNat = 2 ^ 8 - 1 := by decide
  have key : (BitVec.ofInt 64 n &&& BitVec.ofInt 64 255).toNat = (n % ((2 ^ 64 : Nat) : Int)).toNat % 2 ^ 8 := by
    rw [BitVec.toNat_and, BitVec.toNat_ofInt, h31, Nat.and_two_pow_sub_one_eq_mod]
  show IntKind.i64.wrap ((BitVec.ofInt 64 n &&& BitVec.ofInt 64 255).toNat : Nat) = n % 256
  rw [key, IntKind.wrap_i64]
  omega
theorem st (n : Int) : ∃ t : Nat, (bits .and .i64 n 255).tmod 10 = (t : Int) ∧ t < 10 := by
  rw [and255]
  refine ⟨(n % 256 % 10).toNat, ?_, by omega⟩
  rw [Int.tmod_eq_emod_of_nonneg (by omega)]; omega
set_option maxRecDepth 100000 in
set_option maxHeartbeats 1000000 in
theorem walk1 (w : World) (a0 : Int) (ht : (bits .and .i64 a0 255).tmod 10 = (0 : Int)) (HT : Hid (Tabs w)) :
    Calls Tryd.prog 7 #[.int .i64 a0] w fun e w' => e = .returned (.bool true) ∧ Below w.heap.size w w' := by
  go_enter Tryd.func7, Tryd.ntmps7
  go_wp2_with fail
  refine (awake_any _ HT.out).mono ?_; rintro e W1 ⟨rfl, hb1⟩
  have HT1 := Lib.hid (HT.out.below hb1)
  have B1 := Lib.hid hb1
  clear hb1
  go_wp2_with fail
  refine (may_any 1 1 _).mono ?_; rintro e W2 ⟨rfl, hb2⟩
  rw [show mayI 1 1 = true from by decide +kernel]
  have HT2 := Lib.hid (HT1.out.below hb2)
  have B2 := Lib.hid (B1.out.trans (hb2.mono B1.out.size))
  clear hb2
  go_wp2_with fail
  refine (may_any 1 3 _).mono ?_; rintro e W3 ⟨rfl, hb2⟩
  rw [show mayI 1 3 = false from by decide +kernel]
  have HT3 := Lib.hid (HT2.out.below hb2)
  have B3 := Lib.hid (B2.out.trans (hb2.mono B2.out.size))
  clear hb2
  go_wp2_with fail
  refine (may_any 1 2 _).mono ?_; rintro e W4 ⟨rfl, hb2⟩
  rw [show mayI 1 2 = false from by decide +kernel]
  have HT4 := Lib.hid (HT3.out.below hb2)
  have B4 := Lib.hid (B3.out.trans (hb2.mono B3.out.size))
  clear hb2
  go_wp2_with fail
  refine (may_any 1 8 _).mono ?_; rintro e W5 ⟨rfl, hb2⟩
  rw [show mayI 1 8 = true from by decide +kernel]
  have HT5 := Lib.hid (HT4.out.below hb2)
  have B5 := Lib.hid (B4.out.trans (hb2.mono B4.out.size))
  clear hb2
  go_wp2_with fail
  refine (may_any 1 11 _).mono ?_; rintro e W6 ⟨rfl, hb2⟩
  rw [show mayI 1 11 = true from by decide +kernel]
  have HT6 := Lib.hid (HT5.out.below hb2)
  have B6 := Lib.hid (B5.out.trans (hb2.mono B5.out.size))
  clear hb2
  go_wp2_with fail
  refine (may_any 1 0 _).mono ?_; rintro e W7 ⟨rfl, hb2⟩
  rw [show mayI 1 0 = false from by decide +kernel]
  have HT7 := Lib.hid (HT6.out.below hb2)
  have B7 := Lib.hid (B6.out.trans (hb2.mono B6.out.size))
  clear hb2
  go_wp2_with fail
  refine (may_any 1 12 _).mono ?_; rintro e W8 ⟨rfl, hb2⟩
  rw [show mayI 1 12 = false from by decide +kernel]
  have HT8 := Lib.hid (HT7.out.below hb2)
  have B8 := Lib.hid (B7.out.trans (hb2.mono B7.out.size))
  clear hb2
  go_wp2_with fail
  all_goals go_ret
  all_goals exact ⟨rfl, B8.out⟩
set_option maxRecDepth 100000 in
set_option maxHeartbeats 1000000 in
theorem walk2 (w : World) (a0 : Int) (ht : (bits .and .i64 a0 255).tmod 10 = (1 : Int)) (HT : Hid (Tabs w)) :
    Calls Tryd.prog 7 #[.int .i64 a0] w fun e w' => e = .returned (.bool true) ∧ Below w.heap.size w w' := by
  go_enter Tryd.func7, Tryd.ntmps7
  go_wp2_with fail
  refine (awake_any _ HT.out).mono ?_; rintro e W1 ⟨rfl, hb1⟩
  have HT1 := Lib.hid (HT.out.below hb1)
  have B1 := Lib.hid hb1
  clear hb1
  go_wp2_with fail
  refine (may_any 2 1 _).mono ?_; rintro e W2 ⟨rfl, hb2⟩
  rw [show mayI 2 1 = false from by decide +kernel]
  have HT2 := Lib.hid (HT1.out.below hb2)
  have B2 := Lib.hid (B1.out.trans (hb2.mono B1.out.size))
  clear hb2
  go_wp2_with fail
  refine (may_any 2 3 _).mono ?_; rintro e W3 ⟨rfl, hb2⟩
  rw [show mayI 2 3 = true from by decide +kernel]
  have HT3 := Lib.hid (HT2.out.below hb2)
  have B3 := Lib.hid (B2.out.trans (hb2.mono B2.out.size))
  clear hb2
  go_wp2_with fail
  refine (may_any 2 2 _).mono ?_; rintro e W4 ⟨rfl, hb2⟩
  rw [show mayI 2 2 = false from by decide +kernel]
  have HT4 := Lib.hid (HT3.out.below hb2)
  have B4 := Lib.hid (B3.out.trans (hb2.mono B3.out.size))
  clear hb2
  go_wp2_with fail
  refine (may_any 2 8 _).mono ?_; rintro e W5 ⟨rfl, hb2⟩
  rw [show mayI 2 8 = true from by decide +kernel]
  have HT5 := Lib.hid (HT4.out.below hb2)
  have B5 := Lib.hid (B4.out.trans (hb2.mono B4.out.size))
  clear hb2
  go_wp2_with fail
  refine (may_any 2 11 _).mono ?_; rintro e W6 ⟨rfl, hb2⟩
  rw [show mayI 2 11 = true from by decide +kernel]
  have HT6 := Lib.hid (HT5.out.below hb2)
  have B6 := Lib.hid (B5.out.trans (hb2.mono B5.out.size))
  clear hb2
  go_wp2_with fail
  refine (may_any 2 0 _).mono ?_; rintro e W7 ⟨rfl, hb2⟩
  rw [show mayI 2 0 = false from by decide +kernel]
  have HT7 := Lib.hid (HT6.out.below hb2)
  have B7 := Lib.hid (B6.out.trans (hb2.mono B6.out.size))
  clear hb2
  go_wp2_with fail
  refine (may_any 2 12 _).mono ?_; rintro e W8 ⟨rfl, hb2⟩
  rw [show mayI 2 12 = false from by decide +kernel]
  have HT8 := Lib.hid (HT7.out.below hb2)
  have B8 := Lib.hid (B7.out.trans (hb2.mono B7.out.size))
  clear hb2
  go_wp2_with fail
  all_goals go_ret
  all_goals exact ⟨rfl, B8.out⟩
set_option maxRecDepth 100000 in
set_option maxHeartbeats 1000000 in
theorem walk3 (w : World) (a0 : Int) (ht : (bits .and .i64 a0 255).tmod 10 = (2 : Int)) (HT : Hid (Tabs w)) :
    Calls Tryd.prog 7 #[.int .i64 a0] w fun e w' => e = .returned (.bool true) ∧ Below w.heap.size w w' := by
  go_enter Tryd.func7, Tryd.ntmps7
  go_wp2_with fail
  refine (awake_any _ HT.out).mono ?_; rintro e W1 ⟨rfl, hb1⟩
  have HT1 := Lib.hid (HT.out.below hb1)
  have B1 := Lib.hid hb1
  clear hb1
  go_wp2_with fail
  refine (may_any 3 1 _).mono ?_; rintro e W2 ⟨rfl, hb2⟩
  rw [show mayI 3 1 = false from by decide +kernel]
  have HT2 := Lib.hid (HT1.out.below hb2)
  have B2 := Lib.hid (B1.out.trans (hb2.mono B1.out.size))
  clear hb2
  go_wp2_with fail
  refine (may_any 3 3 _).mono ?_; rintro e W3 ⟨rfl, hb2⟩
  rw [show mayI 3 3 = true from by decide +kernel]
  have HT3 := Lib.hid (HT2.out.below hb2)
  have B3 := Lib.hid (B2.out.trans (hb2.mono B2.out.size))
  clear hb2
  go_wp2_with fail
  refine (may_any 3 2 _).mono ?_; rintro e W4 ⟨rfl, hb2⟩
  rw [show mayI 3 2 = true from by decide +kernel]
  have HT4 := Lib.hid (HT3.out.below hb2)
  have B4 := Lib.hid (B3.out.trans (hb2.mono B3.out.size))
  clear hb2
  go_wp2_with fail
  refine (may_any 3 8 _).mono ?_; rintro e W5 ⟨rfl, hb2⟩
  rw [show mayI 3 8 = true from by decide +kernel]
  have HT5 := Lib.hid (HT4.out.below hb2)
  have B5 := Lib.hid (B4.out.trans (hb2.mono B4.out.size))
  clear hb2
  go_wp2_with fail
  refine (may_any 3 11 _).mono ?_; rintro e W6 ⟨rfl, hb2⟩
  rw [show mayI 3 11 = true from by decide +kernel]
  have HT6 := Lib.hid (HT5.out.below hb2)
  have B6 := Lib.hid (B5.out.trans (hb2.mono B5.out.size))
  clear hb2
  go_wp2_with fail
  refine (may_any 3 0 _).mono ?_; rintro e W7 ⟨rfl, hb2⟩
  rw [show mayI 3 0 = false from by decide +kernel]
  have HT7 := Lib.hid (HT6.out.below hb2)
  have B7 := Lib.hid (B6.out.trans (hb2.mono B6.out.size))
  clear hb2
  go_wp2_with fail
  refine (may_any 3 12 _).mono ?_; rintro e W8 ⟨rfl, hb2⟩
  rw [show mayI 3 12 = false from by decide +kernel]
  have HT8 := Lib.hid (HT7.out.below hb2)
  have B8 := Lib.hid (B7.out.trans (hb2.mono B7.out.size))
  clear hb2
  go_wp2_with fail
  all_goals go_ret
  all_goals exact ⟨rfl, B8.out⟩
set_option maxRecDepth 100000 in
set_option maxHeartbeats 1000000 in
theorem walk4 (w : World) (a0 : Int) (ht : (bits .and .i64 a0 255).tmod 10 = (3 : Int)) (HT : Hid (Tabs w)) :
    Calls Tryd.prog 7 #[.int .i64 a0] w fun e w' => e = .returned (.bool true) ∧ Below w.heap.size w w' := by
  go_enter Tryd.func7, Tryd.ntmps7
  go_wp2_with fail
  refine (awake_any _ HT.out).mono ?_; rintro e W1 ⟨rfl, hb1⟩
  have HT1 := Lib.hid (HT.out.below hb1)
  have B1 := Lib.hid hb1
  clear hb1
  go_wp2_with fail
  refine (may_any 4 1 _).mono ?_; rintro e W2 ⟨rfl, hb2⟩
  rw [show mayI 4 1 = true from by decide +kernel]
  have HT2 := Lib.hid (HT1.out.below hb2)
  have B2 := Lib.hid (B1.out.trans (hb2.mono B1.out.size))
  clear hb2
  go_wp2_with fail
  refine (may_any 4 3 _).mono ?_; rintro e W3 ⟨rfl, hb2⟩
  rw [show mayI 4 3 = false from by decide +kernel]
  have HT3 := Lib.hid (HT2.out.below hb2)
  have B3 := Lib.hid (B2.out.trans (hb2.mono B2.out.size))
  clear hb2
  go_wp2_with fail
  refine (may_any 4 2 _).mono ?_; rintro e W4 ⟨rfl, hb2⟩
  rw [show mayI 4 2 = false from by decide +kernel]
  have HT4 := Lib.hid (HT3.out.below hb2)
  have B4 := Lib.hid (B3.out.trans (hb2.mono B3.out.size))
  clear hb2
  go_wp2_with fail
  refine (may_any 4 8 _).mono ?_; rintro e W5 ⟨rfl, hb2⟩
  rw [show mayI 4 8 = true from by decide +kernel]
  have HT5 := Lib.hid (HT4.out.below hb2)
  have B5 := Lib.hid (B4.out.trans (hb2.mono B4.out.size))
  clear hb2
  go_wp2_with fail
  refine (may_any 4 11 _).mono ?_; rintro e W6 ⟨rfl, hb2⟩
  rw [show mayI 4 11 = true from by decide +kernel]
  have HT6 := Lib.hid (HT5.out.below hb2)
  have B6 := Lib.hid (B5.out.trans (hb2.mono B5.out.size))
  clear hb2
  go_wp2_with fail
  refine (may_any 4 0 _).mono ?_; rintro e W7 ⟨rfl, hb2⟩
  rw [show mayI 4 0 = false from by decide +kernel]
  have HT7 := Lib.hid (HT6.out.below hb2)
  have B7 := Lib.hid (B6.out.trans (hb2.mono B6.out.size))
  clear hb2
  go_wp2_with fail
  refine (may_any 4 12 _).mono ?_; rintro e W8 ⟨rfl, hb2⟩
  rw [show mayI 4 12 = false from by decide +kernel]
  have HT8 := Lib.hid (HT7.out.below hb2)
  have B8 := Lib.hid (B7.out.trans (hb2.mono B7.out.size))
  clear hb2
  go_wp2_with fail
  all_goals go_ret
  all_goals exact ⟨rfl, B8.out⟩
set_option maxRecDepth 100000 in
set_option maxHeartbeats 1000000 in
theorem walk5 (w : World) (a0 : Int) (ht : (bits .and .i64 a0 255).tmod 10 = (4 : Int)) (HT : Hid (Tabs w)) :
    Calls Tryd.prog 7 #[.int .i64 a0] w fun e w' => e = .returned (.bool true) ∧ Below w.heap.size w w' := by
  go_enter Tryd.func7, Tryd.ntmps7
  go_wp2_with fail
  refine (awake_any _ HT.out).mono ?_; rintro e W1 ⟨rfl, hb1⟩
  have HT1 := Lib.hid (HT.out.below hb1)
  have B1 := Lib.hid hb1
  clear hb1
  go_wp2_with fail
  refine (may_any 5 1 _).mono ?_; rintro e W2 ⟨rfl, hb2⟩
  rw [show mayI 5 1 = false from by decide +kernel]
  have HT2 := Lib.hid (HT1.out.below hb2)
  have B2 := Lib.hid (B1.out.trans (hb2.mono B1.out.size))
  clear hb2
  go_wp2_with fail
  refine (may_any 5 3 _).mono ?_; rintro e W3 ⟨rfl, hb2⟩
  rw [show mayI 5 3 = true from by decide +kernel]
  have HT3 := Lib.hid (HT2.out.below hb2)
  have B3 := Lib.hid (B2.out.trans (hb2.mono B2.out.size))
  clear hb2
  go_wp2_with fail
  refine (may_any 5 2 _).mono ?_; rintro e W4 ⟨rfl, hb2⟩
  rw [show mayI 5 2 = false from by decide +kernel]
  have HT4 := Lib.hid (HT3.out.below hb2)
  have B4 := Lib.hid (B3.out.trans (hb2.mono B3.out.size))
  clear hb2
  go_wp2_with fail
  refine (may_any 5 8 _).mono ?_; rintro e W5 ⟨rfl, hb2⟩
  rw [show mayI 5 8 = true from by decide +kernel]
  have HT5 := Lib.hid (HT4.out.below hb2)
  have B5 := Lib.hid (B4.out.trans (hb2.mono B4.out.size))
  clear hb2
  go_wp2_with fail
  refine (may_any 5 11 _).mono ?_; rintro e W6 ⟨rfl, hb2⟩
  rw [show mayI 5 11 = true from by decide +kernel]
  have HT6 := Lib.hid (HT5.out.below hb2)
  have B6 := Lib.hid (B5.out.trans (hb2.mono B5.out.size))
  clear hb2
  go_wp2_with fail
  refine (may_any 5 0 _).mono ?_; rintro e W7 ⟨rfl, hb2⟩
  rw [show mayI 5 0 = false from by decide +kernel]
  have HT7 := Lib.hid (HT6.out.below hb2)
  have B7 := Lib.hid (B6.out.trans (hb2.mono B6.out.size))
  clear hb2
  go_wp2_with fail
  refine (may_any 5 12 _).mono ?_; rintro e W8 ⟨rfl, hb2⟩
  rw [show mayI 5 12 = false from by decide +kernel]
  have HT8 := Lib.hid (HT7.out.below hb2)
  have B8 := Lib.hid (B7.out.trans (hb2.mono B7.out.size))
  clear hb2
  go_wp2_with fail
  all_goals go_ret
  all_goals exact ⟨rfl, B8.out⟩
set_option maxRecDepth 100000 in
set_option maxHeartbeats 1000000 in
theorem walk6 (w : World) (a0 : Int) (ht : (bits .and .i64 a0 255).tmod 10 = (5 : Int)) (HT : Hid (Tabs w)) :
    Calls Tryd.prog 7 #[.int .i64 a0] w fun e w' => e = .returned (.bool true) ∧ Below w.heap.size w w' := by
  go_enter Tryd.func7, Tryd.ntmps7
  go_wp2_with fail
  refine (awake_any _ HT.out).mono ?_; rintro e W1 ⟨rfl, hb1⟩
  have HT1 := Lib.hid (HT.out.below hb1)
  have B1 := Lib.hid hb1
  clear hb1
  go_wp2_with fail
  refine (may_any 6 1 _).mono ?_; rintro e W2 ⟨rfl, hb2⟩
  rw [show mayI 6 1 = false from by decide +kernel]
  have HT2 := Lib.hid (HT1.out.below hb2)
  have B2 := Lib.hid (B1.out.trans (hb2.mono B1.out.size))
  clear hb2
  go_wp2_with fail
  refine (may_any 6 3 _).mono ?_; rintro e W3 ⟨rfl, hb2⟩
  rw [show mayI 6 3 = true from by decide +kernel]
  have HT3 := Lib.hid (HT2.out.below hb2)
  have B3 := Lib.hid (B2.out.trans (hb2.mono B2.out.size))
  clear hb2
  go_wp2_with fail
  refine (may_any 6 2 _).mono ?_; rintro e W4 ⟨rfl, hb2⟩
  rw [show mayI 6 2 = false from by decide +kernel]
  have HT4 := Lib.hid (HT3.out.below hb2)
  have B4 := Lib.hid (B3.out.trans (hb2.mono B3.out.size))
  clear hb2
  go_wp2_with fail
  refine (may_any 6 8 _).mono ?_; rintro e W5 ⟨rfl, hb2⟩
  rw [show mayI 6 8 = true from by decide +kernel]
  have HT5 := Lib.hid (HT4.out.below hb2)
  have B5 := Lib.hid (B4.out.trans (hb2.mono B4.out.size))
  clear hb2
  go_wp2_with fail
  refine (may_any 6 11 _).mono ?_; rintro e W6 ⟨rfl, hb2⟩
  rw [show mayI 6 11 = true from by decide +kernel]
  have HT6 := Lib.hid (HT5.out.below hb2)
  have B6 := Lib.hid (B5.out.trans (hb2.mono B5.out.size))
  clear hb2
  go_wp2_with fail
  refine (may_any 6 0 _).mono ?_; rintro e W7 ⟨rfl, hb2⟩
  rw [show mayI 6 0 = false from by decide +kernel]
  have HT7 := Lib.hid (HT6.out.below hb2)
  have B7 := Lib.hid (B6.out.trans (hb2.mono B6.out.size))
  clear hb2
  go_wp2_with fail
  refine (may_any 6 12 _).mono ?_; rintro e W8 ⟨rfl, hb2⟩
  rw [show mayI 6 12 = false from by decide +kernel]
  have HT8 := Lib.hid (HT7.out.below hb2)
  have B8 := Lib.hid (B7.out.trans (hb2.mono B7.out.size))
  clear hb2
  go_wp2_with fail
  all_goals go_ret
  all_goals exact ⟨rfl, B8.out⟩
set_option maxRecDepth 100000 in
set_option maxHeartbeats 1000000 in
theorem walk7 (w : World) (a0 : Int) (ht : (bits .and .i64 a0 255).tmod 10 = (6 : Int)) (HT : Hid (Tabs w)) :
    Calls Tryd.prog 7 #[.int .i64 a0] w fun e w' => e = .returned (.bool true) ∧ Below w.heap.size w w' := by
  go_enter Tryd.func7, Tryd.ntmps7
  go_wp2_with fail
  refine (awake_any _ HT.out).mono ?_; rintro e W1 ⟨rfl, hb1⟩
  have HT1 := Lib.hid (HT.out.below hb1)
  have B1 := Lib.hid hb1
  clear hb1
  go_wp2_with fail
  refine (may_any 7 1 _).mono ?_; rintro e W2 ⟨rfl, hb2⟩
  rw [show mayI 7 1 = false from by decide +kernel]
  have HT2 := Lib.hid (HT1.out.below hb2)
  have B2 := Lib.hid (B1.out.trans (hb2.mono B1.out.size))
  clear hb2
  go_wp2_with fail
  refine (may_any 7 3 _).mono ?_; rintro e W3 ⟨rfl, hb2⟩
  rw [show mayI 7 3 = true from by decide +kernel]
  have HT3 := Lib.hid (HT2.out.below hb2)
  have B3 := Lib.hid (B2.out.trans (hb2.mono B2.out.size))
  clear hb2
  go_wp2_with fail
  refine (may_any 7 2 _).mono ?_; rintro e W4 ⟨rfl, hb2⟩
  rw [show mayI 7 2 = false from by decide +kernel]
  have HT4 := Lib.hid (HT3.out.below hb2)
  have B4 := Lib.hid (B3.out.trans (hb2.mono B3.out.size))
  clear hb2
  go_wp2_with fail
  refine (may_any 7 8 _).mono ?_; rintro e W5 ⟨rfl, hb2⟩
  rw [show mayI 7 8 = true from by decide +kernel]
  have HT5 := Lib.hid (HT4.out.below hb2)
  have B5 := Lib.hid (B4.out.trans (hb2.mono B4.out.size))
  clear hb2
  go_wp2_with fail
  refine (may_any 7 11 _).mono ?_; rintro e W6 ⟨rfl, hb2⟩
  rw [show mayI 7 11 = true from by decide +kernel]
  have HT6 := Lib.hid (HT5.out.below hb2)
  have B6 := Lib.hid (B5.out.trans (hb2.mono B5.out.size))
  clear hb2
  go_wp2_with fail
  refine (may_any 7 0 _).mono ?_; rintro e W7 ⟨rfl, hb2⟩
  rw [show mayI 7 0 = false from by decide +kernel]
  have HT7 := Lib.hid (HT6.out.below hb2)
  have B7 := Lib.hid (B6.out.trans (hb2.mono B6.out.size))
  clear hb2
  go_wp2_with fail
  refine (may_any 7 12 _).mono ?_; rintro e W8 ⟨rfl, hb2⟩
  rw [show mayI 7 12 = false from by decide +kernel]
  have HT8 := Lib.hid (HT7.out.below hb2)
  have B8 := Lib.hid (B7.out.trans (hb2.mono B7.out.size))
  clear hb2
  go_wp2_with fail
  all_goals go_ret
  all_goals exact ⟨rfl, B8.out⟩
set_option maxRecDepth 100000 in
set_option maxHeartbeats 1000000 in
theorem walk8 (w : World) (a0 : Int) (ht : (bits .and .i64 a0 255).tmod 10 = (7 : Int)) (HT : Hid (Tabs w)) :
    Calls Tryd.prog 7 #[.int .i64 a0] w fun e w' => e = .returned (.bool true) ∧ Below w.heap.size w w' := by
  go_enter Tryd.func7, Tryd.ntmps7
  go_wp2_with fail
  refine (awake_any _ HT.out).mono ?_; rintro e W1 ⟨rfl, hb1⟩
  have HT1 := Lib.hid (HT.out.below hb1)
  have B1 := Lib.hid hb1
  clear hb1
  go_wp2_with fail
  refine (may_any 8 1 _).mono ?_; rintro e W2 ⟨rfl, hb2⟩
  rw [show mayI 8 1 = false from by decide +kernel]
  have HT2 := Lib.hid (HT1.out.below hb2)
  have B2 := Lib.hid (B1.out.trans (hb2.mono B1.out.size))
  clear hb2
  go_wp2_with fail
  refine (may_any 8 3 _).mono ?_; rintro e W3 ⟨rfl, hb2⟩
  rw [show mayI 8 3 = true from by decide +kernel]
  have HT3 := Lib.hid (HT2.out.below hb2)
  have B3 := Lib.hid (B2.out.trans (hb2.mono B2.out.size))
  clear hb2
  go_wp2_with fail
  refine (may_any 8 2 _).mono ?_; rintro e W4 ⟨rfl, hb2⟩
  rw [show mayI 8 2 = false from by decide +kernel]
  have HT4 := Lib.hid (HT3.out.below hb2)
  have B4 := Lib.hid (B3.out.trans (hb2.mono B3.out.size))
  clear hb2
  go_wp2_with fail
  refine (may_any 8 8 _).mono ?_; rintro e W5 ⟨rfl, hb2⟩
  rw [show mayI 8 8 = true from by decide +kernel]
  have HT5 := Lib.hid (HT4.out.below hb2)
  have B5 := Lib.hid (B4.out.trans (hb2.mono B4.out.size))
  clear hb2
  go_wp2_with fail
  refine (may_any 8 11 _).mono ?_; rintro e W6 ⟨rfl, hb2⟩
  rw [show mayI 8 11 = true from by decide +kernel]
  have HT6 := Lib.hid (HT5.out.below hb2)
  have B6 := Lib.hid (B5.out.trans (hb2.mono B5.out.size))
  clear hb2
  go_wp2_with fail
  refine (may_any 8 0 _).mono ?_; rintro e W7 ⟨rfl, hb2⟩
  rw [show mayI 8 0 = false from by decide +kernel]
  have HT7 := Lib.hid (HT6.out.below hb2)
  have B7 := Lib.hid (B6.out.trans (hb2.mono B6.out.size))
  clear hb2
  go_wp2_with fail
  refine (may_any 8 12 _).mono ?_; rintro e W8 ⟨rfl, hb2⟩
  rw [show mayI 8 12 = false from by decide +kernel]
  have HT8 := Lib.hid (HT7.out.below hb2)
  have B8 := Lib.hid (B7.out.trans (hb2.mono B7.out.size))
  clear hb2
  go_wp2_with fail
  all_goals go_ret
  all_goals exact ⟨rfl, B8.out⟩
set_option maxRecDepth 100000 in
set_option maxHeartbeats 1000000 in
theorem walk9 (w : World) (a0 : Int) (ht : (bits .and .i64 a0 255).tmod 10 = (8 : Int)) (HT : Hid (Tabs w)) :
    Calls Tryd.prog 7 #[.int .i64 a0] w fun e w' => e = .returned (.bool true) ∧ Below w.heap.size w w' := by
  go_enter Tryd.func7, Tryd.ntmps7
  go_wp2_with fail
  refine (awake_any _ HT.out).mono ?_; rintro e W1 ⟨rfl, hb1⟩
  have HT1 := Lib.hid (HT.out.below hb1)
  have B1 := Lib.hid hb1
  clear hb1
  go_wp2_with fail
  refine (may_any 9 1 _).mono ?_; rintro e W2 ⟨rfl, hb2⟩
  rw [show mayI 9 1 = false from by decide +kernel]
  have HT2 := Lib.hid (HT1.out.below hb2)
  have B2 := Lib.hid (B1.out.trans (hb2.mono B1.out.size))
  clear hb2
  go_wp2_with fail
  refine (may_any 9 3 _).mono ?_; rintro e W3 ⟨rfl, hb2⟩
  rw [show mayI 9 3 = true from by decide +kernel]
  have HT3 := Lib.hid (HT2.out.below hb2)
  have B3 := Lib.hid (B2.out.trans (hb2.mono B2.out.size))
  clear hb2
  go_wp2_with fail
  refine (may_any 9 2 _).mono ?_; rintro e W4 ⟨rfl, hb2⟩
  rw [show mayI 9 2 = false from by decide +kernel]
  have HT4 := Lib.hid (HT3.out.below hb2)
  have B4 := Lib.hid (B3.out.trans (hb2.mono B3.out.size))
  clear hb2
  go_wp2_with fail
  refine (may_any 9 8 _).mono ?_; rintro e W5 ⟨rfl, hb2⟩
  rw [show mayI 9 8 = true from by decide +kernel]
  have HT5 := Lib.hid (HT4.out.below hb2)
  have B5 := Lib.hid (B4.out.trans (hb2.mono B4.out.size))
  clear hb2
  go_wp2_with fail
  refine (may_any 9 11 _).mono ?_; rintro e W6 ⟨rfl, hb2⟩
  rw [show mayI 9 11 = true from by decide +kernel]
  have HT6 := Lib.hid (HT5.out.below hb2)
  have B6 := Lib.hid (B5.out.trans (hb2.mono B5.out.size))
  clear hb2
  go_wp2_with fail
  refine (may_any 9 0 _).mono ?_; rintro e W7 ⟨rfl, hb2⟩
  rw [show mayI 9 0 = false from by decide +kernel]
  have HT7 := Lib.hid (HT6.out.below hb2)
  have B7 := Lib.hid (B6.out.trans (hb2.mono B6.out.size))
  clear hb2
  go_wp2_with fail
  refine (may_any 9 12 _).mono ?_; rintro e W8 ⟨rfl, hb2⟩
  rw [show mayI 9 12 = false from by decide +kernel]
  have HT8 := Lib.hid (HT7.out.below hb2)
  have B8 := Lib.hid (B7.out.trans (hb2.mono B7.out.size))
  clear hb2
  go_wp2_with fail
  all_goals go_ret
  all_goals exact ⟨rfl, B8.out⟩
set_option maxRecDepth 100000 in
set_option maxHeartbeats 1000000 in
theorem walk10 (w : World) (a0 : Int) (ht : (bits .and .i64 a0 255).tmod 10 = (9 : Int)) (HT : Hid (Tabs w)) :
    Calls Tryd.prog 7 #[.int .i64 a0] w fun e w' => e = .returned (.bool true) ∧ Below w.heap.size w w' := by
  go_enter Tryd.func7, Tryd.ntmps7
  go_wp2_with fail
  refine (awake_any _ HT.out).mono ?_; rintro e W1 ⟨rfl, hb1⟩
  have HT1 := Lib.hid (HT.out.below hb1)
  have B1 := Lib.hid hb1
  clear hb1
  go_wp2_with fail
  refine (may_any 10 1 _).mono ?_; rintro e W2 ⟨rfl, hb2⟩
  rw [show mayI 10 1 = false from by decide +kernel]
  have HT2 := Lib.hid (HT1.out.below hb2)
  have B2 := Lib.hid (B1.out.trans (hb2.mono B1.out.size))
  clear hb2
  go_wp2_with fail
  refine (may_any 10 3 _).mono ?_; rintro e W3 ⟨rfl, hb2⟩
  rw [show mayI 10 3 = true from by decide +kernel]
  have HT3 := Lib.hid (HT2.out.below hb2)
  have B3 := Lib.hid (B2.out.trans (hb2.mono B2.out.size))
  clear hb2
  go_wp2_with fail
  refine (may_any 10 2 _).mono ?_; rintro e W4 ⟨rfl, hb2⟩
  rw [show mayI 10 2 = false from by decide +kernel]
  have HT4 := Lib.hid (HT3.out.below hb2)
  have B4 := Lib.hid (B3.out.trans (hb2.mono B3.out.size))
  clear hb2
  go_wp2_with fail
  refine (may_any 10 8 _).mono ?_; rintro e W5 ⟨rfl, hb2⟩
  rw [show mayI 10 8 = true from by decide +kernel]
  have HT5 := Lib.hid (HT4.out.below hb2)
  have B5 := Lib.hid (B4.out.trans (hb2.mono B4.out.size))
  clear hb2
  go_wp2_with fail
  refine (may_any 10 11 _).mono ?_; rintro e W6 ⟨rfl, hb2⟩
  rw [show mayI 10 11 = true from by decide +kernel]
  have HT6 := Lib.hid (HT5.out.below hb2)
  have B6 := Lib.hid (B5.out.trans (hb2.mono B5.out.size))
  clear hb2
  go_wp2_with fail
  refine (may_any 10 0 _).mono ?_; rintro e W7 ⟨rfl, hb2⟩
  rw [show mayI 10 0 = false from by decide +kernel]
  have HT7 := Lib.hid (HT6.out.below hb2)
  have B7 := Lib.hid (B6.out.trans (hb2.mono B6.out.size))
  clear hb2
  go_wp2_with fail
  refine (may_any 10 12 _).mono ?_; rintro e W8 ⟨rfl, hb2⟩
  rw [show mayI 10 12 = false from by decide +kernel]
  have HT8 := Lib.hid (HT7.out.below hb2)
  have B8 := Lib.hid (B7.out.trans (hb2.mono B7.out.size))
  clear hb2
  go_wp2_with fail
  all_goals go_ret
  all_goals exact ⟨rfl, B8.out⟩
theorem walk (w : World) (a0 : Int) (w0 : (Lit.int .i64 a0).wf = true) (hL : laidMetH Tryd.prog Rows.rulesRequestsRow.laid w) :
    Calls Tryd.prog 7 #[.int .i64 a0] w fun e w' => e = .returned (.bool true) ∧ Below w.heap.size w w' := by
  have HT := Lib.hid (tabs_laid (by kernel_rfl) hL (by simp [Rows.rulesRequestsRow]) (by simp [Rows.rulesRequestsRow]))
  obtain ⟨t, ht, h10⟩ := st a0
  match t, h10 with
  | 0, _ => exact walk1 w a0 ht HT
  | 1, _ => exact walk2 w a0 ht HT
  | 2, _ => exact walk3 w a0 ht HT
  | 3, _ => exact walk4 w a0 ht HT
  | 4, _ => exact walk5 w a0 ht HT
  | 5, _ => exact walk6 w a0 ht HT
  | 6, _ => exact walk7 w a0 ht HT
  | 7, _ => exact walk8 w a0 ht HT
  | 8, _ => exact walk9 w a0 ht HT
  | 9, _ => exact walk10 w a0 ht HT
  | t + 10, h => exact absurd h (by omega)

theorem own : ownKnob Tryd.prog.godebug = none := by kernel_rfl
theorem laidOut : laidOutB Tryd.prog = true := by kernel_rfl

set_option maxRecDepth 100000 in
theorem lifted (os : Os) (started : os.Started) (H : Type) (enc : TypeId × Value → H) :
    ReturnsInHanded {} Tryd.checked os 7 .any (fun w args => (Rows.rulesRequestsSpec.pre enc Tryd.prog Tryd.f7 Rows.rulesRequestsRow.domain false w args ∧ laidMetH Tryd.prog Rows.rulesRequestsRow.laid w) ∧ sizedMet enc Tryd.prog Tryd.f7 (OpenSpec.ofChange Rows.rulesRequestsSpec) false w args) (Rows.rulesRequestsSpec.post enc Tryd.prog Tryd.f7 false true false false) := by
  refine Base.law_laid (C := Tryd.checked) own started (by kernel_rfl) Tryd.func7 laidOut (by kernel_rfl) rfl Tryd.underlying4 rfl ?_
    (Base.laid_witness #[.int .i64 0] (World.shaped_of_ZipB (by kernel_rfl) (by kernel_rfl)) (by kernel_rfl) (by kernel_rfl) (by kernel_rfl) (by rw [MakeChecks.laidMetH_plain _ _ _ (by kernel_rfl)]; exact laidMet_laidAll _ (by kernel_rfl) (by kernel_rfl))) ?_
  · intro ds h
    match ds, h with
    | [_d0], _ => exact ⟨rfl, rfl, rfl⟩
  · intro W base args ds before hval0 hA0 hlt hsz hL
    have hval : ∀ (j : Nat) t v, Tryd.f7.params[j]? = some t → args[j]? = some v → Value.okWide Tryd.prog W .any base t v := hval0
    have hA : DataW.TrodAll enc Tryd.prog W 0 (fun _ => true) true Tryd.f7.params.toList args.toList ds before := hA0
    clear hval0 hA0
    rw [Tryd.params7] at hA hval hsz
    obtain ⟨v0, vs0, d0, ds0, p0, q0, hargs, rfl, rfl, h0, r0⟩ := trodAll_cons hA
    obtain ⟨rfl, rfl, rfl⟩ := trodAll_nil r0
    obtain rfl : args = #[v0] := by cases args; simp_all
    obtain ⟨a0, rfl, rfl, rfl, w0⟩ := open_int Tryd.underlying3 (hval 0 3 v0 rfl rfl) h0
    exact walk W a0 w0 hL

theorem over : Rows.rulesRequestsRow.holds Tryd.pinned (OpenSpec.ofChange Rows.rulesRequestsSpec) :=
  OpenClaim.holds_of_wide 7 Tryd.f7 rfl rfl rfl rfl rfl rfl rfl ⟨rfl, rfl, rfl, rfl, rfl⟩ rfl rfl rfl rfl rfl (by kernel_rfl) Tryd.func7 (by kernel_rfl)
    (of_decide_eq_true (by kernel_rfl)) (by unfold Func.isWrapper; first | (rw [if_pos (by decide +kernel)]; kernel_rfl) | (rw [if_neg (by decide +kernel)]; exact ⟨rfl, rfl⟩))
    (fun os started H enc _ => lifted os started H enc)

theorem proved : Rows.RulesRequestsCardSaid :=
  Claim7.holds_tied_plain_at .later [] [.data, .data] true Rows.rulesRequestsCard.stood.harness false over (fun _ h => by cases h) (by kernel_rfl) (fun _ h => by cases h) rulesRequests_row_tie rfl ⟨rfl, rfl⟩ (by kernel_rfl) rfl
    (fun f fn hf hfn => by
      obtain rfl : f = 7 := Option.some.inj ((show Tryd.prog.funcNamed Rows.rulesRequestsRow.func = some 7 by kernel_rfl).symm.trans hf) |>.symm
      obtain rfl : fn = Tryd.f7 := (Option.some.inj (Tryd.func7.symm.trans hfn)).symm
      exact ⟨by kernel_rfl, fun j t ht => by
        rw [Tryd.params7] at ht
        have hm : t ∈ [3] := by simpa using Array.mem_of_getElem? ht
        have hall : ([3].all fun u => !Tryd.prog.wantsStandIn u) = true := by kernel_rfl
        exact (show Tryd.prog.wantsStandIn t = false by simpa using List.all_eq_true.1 hall t hm)⟩)
    (by kernel_rfl)
#print axioms proved
end Go.Proofs.YtdjhibahjpibjaaDoor.rulesRequests
