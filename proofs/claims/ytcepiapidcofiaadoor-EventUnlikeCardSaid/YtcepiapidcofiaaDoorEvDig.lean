/-
  Events: numbers in decimal.
-/
import Derived.Test.YtcepiapidcofiaaDoorEvRHex
import Derived.Lib.ItoaLen
import Derived.Lib.ItoaMem
namespace Go.Proofs.YtcepiapidcofiaaDoor.Ev
open Go.ChangeShapes Go.WideShapes Go.RowKit Own

theorem str_dig (r : Nat) (h : r < 10) : strOfNums [48 + (r : Int)] = ⟨[UInt8.ofNat (48 + r)].toArray⟩ := by
  unfold strOfNums
  rw [List.map_cons, List.map_nil, show (48 + (r : Int)).toNat = 48 + r by omega]
/-- what is left of a number's digits -/
def leftD (m : Nat) (first : Bool) : List UInt8 := if m = 0 ∧ first = false then [] else Lib.decDigits m
theorem left_step (m : Nat) (first : Bool) (h : 0 < m ∨ first = true) : leftD m first = leftD (m / 10) false ++ [UInt8.ofNat (48 + m % 10)] := by
  unfold leftD
  rw [if_neg (by rintro ⟨h1, h2⟩; subst h2; simp at h; omega)]
  by_cases h10 : m < 10
  · rw [Lib.decDigits_one h10, if_pos ⟨by omega, rfl⟩, show m % 10 = m by omega]; rfl
  · rw [if_neg (by omega)]
    conv => lhs; rw [Lib.decDigits, dif_neg h10]

end Go.Proofs.YtcepiapidcofiaaDoor.Ev
