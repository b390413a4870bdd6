/-
  The calls of the numbers that go round, one contract each.
-/
import Derived.Test.YtpmbhbaajnimaaaRows
import Derived.WalkKit
import Derived.ProofKit
import Derived.OpenShut
import Derived.Lib.Hide
namespace Go.Proofs.Ytpmbhbaajnimaaa.SeqCalls
open Go.RowKit

theorem ret_int {k : IntKind} {a b : Int} (h : a = b) : Ending.returned (.int k a) = .returned (.int k b) := by rw [h]

/-- the lowest 24 bits of an unsigned number of 32 bits -/
theorem mask24 (a : Int) (h1 : 0 ≤ a) (h2 : a < 4294967296) : bits .and .u32 a 16777215 = a % 16777216 := by
  rw [u32_and a 16777215 h1 h2 (by omega) (by omega)]
  have : a.toNat &&& (16777215 : Int).toNat = a.toNat % 16777216 := nat_mask24 _
  rw [this]; omega

theorem low_any (a : Int) (w : World) (h1 : 0 ≤ a) (h2 : a < 4294967296) :
    Calls Try.prog 5 #[.int .u32 a] w fun e w' => e = .returned (.int .u32 (a % 16777216)) ∧ w = w' := by
  go_enter Try.func5, Try.ntmps5
  go_wp2
  go_ret
  exact ⟨ret_int (mask24 a h1 h2), rfl⟩

theorem add_any (a n : Int) (w : World) :
    Calls Try.prog 7 #[.int .u32 a, .int .i64 n] w fun e w' => e = .returned (.int .u32 ((a + n) % 16777216)) ∧ w = w' := by
  go_enter Try.func7, Try.ntmps7
  go_wp2_with fail
  refine (low_any _ _ (by omega) (by omega)).mono ?_; rintro e w' ⟨rfl, rfl⟩
  go_wp2_with fail
  go_ret
  exact ⟨ret_int (by omega), rfl⟩

theorem to_any (a b : Int) (w : World) :
    Calls Try.prog 9 #[.int .u32 a, .int .u32 b] w fun e w' => e = .returned (.int .i64 ((b - a) % 16777216)) ∧ w = w' := by
  go_enter Try.func9, Try.ntmps9
  go_wp2_with fail
  refine (low_any _ _ (by omega) (by omega)).mono ?_; rintro e w' ⟨rfl, rfl⟩
  go_wp2_with fail
  go_ret
  exact ⟨ret_int (by omega), rfl⟩

/-- is b ahead of a -/
def aheadB (a b : Int) : Bool := decide (0 < (b - a) % 16777216 ∧ (b - a) % 16777216 < 8388608)
theorem aheadB_yes {a b : Int} (h1 : 0 < (b - a) % 16777216) (h2 : (b - a) % 16777216 < 8388608) : aheadB a b = true := decide_eq_true ⟨h1, h2⟩
theorem aheadB_no {a b : Int} (h : ¬ (0 < (b - a) % 16777216 ∧ (b - a) % 16777216 < 8388608)) : aheadB a b = false := decide_eq_false h

theorem within_any (a x b : Int) (w : World) :
    Calls Try.prog 8 #[.int .u32 a, .int .u32 x, .int .u32 b] w fun e w' => e = .returned (.bool (decide ((x - a) % 16777216 ≤ (b - a) % 16777216))) ∧ w = w' := by
  go_enter Try.func8, Try.ntmps8
  go_wp2_with fail
  refine (to_any _ _ _).mono ?_; rintro e w' ⟨rfl, rfl⟩
  go_wp2_with fail
  refine (to_any _ _ _).mono ?_; rintro e w' ⟨rfl, rfl⟩
  go_wp2_with fail
  all_goals go_ret
  exact ⟨rfl, rfl⟩

end Go.Proofs.Ytpmbhbaajnimaaa.SeqCalls
