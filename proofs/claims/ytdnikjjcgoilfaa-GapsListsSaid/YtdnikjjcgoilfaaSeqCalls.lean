/-
  The calls of the numbers that go round, one contract each.
-/
import Derived.Test.YtdnikjjcgoilfaaRows
import Derived.WalkKit
import Derived.ProofKit
import Derived.OpenShut
import Derived.Lib.Hide
namespace Go.Proofs.Ytdnikjjcgoilfaa.SeqCalls
open Go.RowKit

theorem ret_int {k : IntKind} {a b : Int} (h : a = b) : Ending.returned (.int k a) = .returned (.int k b) := by rw [h]

/-- the lowest 24 bits of an unsigned number of 32 bits -/
theorem mask24 (a : Int) (h1 : 0 ≤ a) (h2 : a < 4294967296) : bits .and .u32 a 16777215 = a % 16777216 := by
  rw [u32_and a 16777215 h1 h2 (by omega) (by omega)]
  have : a.toNat &&& (16777215 : Int).toNat = a.toNat % 16777216 := nat_mask24 _
  rw [this]; omega

theorem low_any (a : Int) (w : World) (h1 : 0 ≤ a) (h2 : a < 4294967296) :
    Calls Try.prog 27 #[.int .u32 a] w fun e w' => e = .returned (.int .u32 (a % 16777216)) ∧ w = w' := by
  go_enter Try.func27, Try.ntmps27
  go_wp2
  go_ret
  exact ⟨ret_int (mask24 a h1 h2), rfl⟩

theorem of_any (a : Int) (w : World) (h1 : -9223372036854775808 ≤ a) (h2 : a ≤ 9223372036854775807) :
    Calls Try.prog 21 #[.int .i64 a] w fun e w' => e = .returned (.int .i64 (a % 16777216)) ∧ w = w' := by
  have hm : a.tmod 16777216 = if 0 ≤ a ∨ a % 16777216 = 0 then a % 16777216 else a % 16777216 - 16777216 := by
    rw [Int.tmod_eq_emod]; split <;> split <;> omega
  have hb : -16777216 < a.tmod 16777216 ∧ a.tmod 16777216 < 16777216 := by rw [hm]; split <;> omega
  obtain ⟨hb1, hb2⟩ := hb
  have H := Lib.hid hm
  clear hm
  go_enter Try.func21, Try.ntmps21
  go_wp2
  all_goals go_ret
  · exact ⟨ret_int (by have := H.out; revert this; split <;> omega), rfl⟩
  · exact ⟨ret_int (by have := H.out; revert this; split <;> omega), rfl⟩

theorem rto_any (a b : Int) (w : World) (h1 : -9223372036854775808 ≤ a) (h2 : a ≤ 9223372036854775807) (h3 : -9223372036854775808 ≤ b) (h4 : b ≤ 9223372036854775807) :
    Calls Try.prog 26 #[.int .i64 a, .int .i64 b] w fun e w' => e = .returned (.int .i64 ((b - a) % 16777216)) ∧ w = w' := by
  go_enter Try.func26, Try.ntmps26
  go_wp2_with fail
  refine (of_any _ _ h3 h4).mono ?_; rintro e w' ⟨rfl, rfl⟩
  go_wp2_with fail
  refine (of_any _ _ h1 h2).mono ?_; rintro e w' ⟨rfl, rfl⟩
  go_wp2_with fail
  refine (of_any _ _ (by omega) (by omega)).mono ?_; rintro e w' ⟨rfl, rfl⟩
  go_wp2_with fail
  go_ret
  exact ⟨ret_int (by omega), rfl⟩

theorem sof_any (a : Int) (w : World) :
    Calls Try.prog 11 #[.int .i64 a] w fun e w' => e = .returned (.int .u32 (a % 16777216)) ∧ w = w' := by
  go_enter Try.func11, Try.ntmps11
  go_wp2_with fail
  refine (low_any _ _ (by omega) (by omega)).mono ?_; rintro e w' ⟨rfl, rfl⟩
  go_wp2_with fail
  go_ret
  exact ⟨ret_int (by omega), rfl⟩

theorem add_any (a n : Int) (w : World) :
    Calls Try.prog 18 #[.int .u32 a, .int .i64 n] w fun e w' => e = .returned (.int .u32 ((a + n) % 16777216)) ∧ w = w' := by
  go_enter Try.func18, Try.ntmps18
  go_wp2_with fail
  refine (low_any _ _ (by omega) (by omega)).mono ?_; rintro e w' ⟨rfl, rfl⟩
  go_wp2_with fail
  go_ret
  exact ⟨ret_int (by omega), rfl⟩

theorem to_any (a b : Int) (w : World) :
    Calls Try.prog 39 #[.int .u32 a, .int .u32 b] w fun e w' => e = .returned (.int .i64 ((b - a) % 16777216)) ∧ w = w' := by
  go_enter Try.func39, Try.ntmps39
  go_wp2_with fail
  refine (low_any _ _ (by omega) (by omega)).mono ?_; rintro e w' ⟨rfl, rfl⟩
  go_wp2_with fail
  go_ret
  exact ⟨ret_int (by omega), rfl⟩

/-- is b ahead of a -/
def aheadB (a b : Int) : Bool := decide (0 < (b - a) % 16777216 ∧ (b - a) % 16777216 < 8388608)
theorem aheadB_yes {a b : Int} (h1 : 0 < (b - a) % 16777216) (h2 : (b - a) % 16777216 < 8388608) : aheadB a b = true := decide_eq_true ⟨h1, h2⟩
theorem aheadB_no {a b : Int} (h : ¬ (0 < (b - a) % 16777216 ∧ (b - a) % 16777216 < 8388608)) : aheadB a b = false := decide_eq_false h

end Go.Proofs.Ytdnikjjcgoilfaa.SeqCalls
