/-
  Events: which requests may be; a text cut short.
-/
import Derived.Test.YtcepiapidcofiaaDoorEvTab
import Derived.WalkLawsBesides
import Derived.BigQuiet
import Derived.Deep.RegionHeld3
import Derived.Handy
import Derived.IntWalk
import Derived.Lib.SmallJoins
namespace Go.Proofs.YtcepiapidcofiaaDoor.Ev
open Go.ChangeShapes Go.WideShapes Go.RowKit

/-- what may not be of a request of one kind -/
def restE (f : Int × Int × Int) (size : Nat) (n : Int) : Int :=
  if 0 < f.1 ∧ f.1 < size then 6 else if f.1 < size ∨ n < f.2.1 ∨ f.2.2 < n then 1 else 0
def checkE (k : Int) (size : Nat) (n : Int) : Int := if k < 1 ∨ 11 < k then 10 else restE (formOf k.toNat) size n
theorem formOf_bounds (k : Nat) : 0 ≤ (formOf k).1 ∧ (formOf k).1 ≤ 200 ∧ 0 ≤ (formOf k).2.1 ∧ (formOf k).2.1 ≤ 1 ∧ 0 ≤ (formOf k).2.2 ∧ (formOf k).2.2 ≤ 64 := by
  match k with
  | 0 | 1 | 2 | 3 | 4 | 5 | 6 | 7 | 8 | 9 | 10 => decide
  | k + 11 => simp [formOf]

theorem rest_eq (f : Int × Int × Int) (f1 f2 f3 : Int) (size : Nat) (n : Int) (h1 : f.1 = f1) (h2 : f.2.1 = f2) (h3 : f.2.2 = f3) :
    restE f size n = if 0 < f1 ∧ f1 < size then 6 else if f1 < size ∨ n < f2 ∨ f3 < n then 1 else 0 := by
  subst h1 h2 h3; rfl

theorem check_in (k : Nat) (d : ByteArray) (n : Int) (w : World) (hF : Forms w) (h1 : 1 ≤ k) (h2 : k ≤ 11) :
    Calls Tryd.prog 8 #[.agg #[.int .i64 (k : Int), .string d, .int .i64 n]] w fun e w' => e = .returned (.int .i64 (restE (formOf k) d.size n)) ∧ Below w.heap.size w w' := by
  have hb1 : Below w.heap.size w (w.alloc (.cells #[.int .i64 (k : Int), .string d, .int .i64 n] 31)) := (Below.refl w.heap.size w).alloc (Nat.le_refl _) _
  obtain ⟨c1, c2, c3⟩ := (hF.below hb1).row k (by omega)
  obtain ⟨b1, b2, b3, b4, b5, b6⟩ := formOf_bounds k
  obtain ⟨f1, e1⟩ : ∃ z, (formOf k).1 = z := ⟨_, rfl⟩
  obtain ⟨f2, e2⟩ : ∃ z, (formOf k).2.1 = z := ⟨_, rfl⟩
  obtain ⟨f3, e3⟩ : ∃ z, (formOf k).2.2 = z := ⟨_, rfl⟩
  rw [rest_eq _ f1 f2 f3 _ _ e1 e2 e3]
  rw [e1] at c1 b1 b2
  rw [e2] at c2 b3 b4
  rw [e3] at c3 b5 b6
  have HF := Lib.hid hb1
  clear hF hb1 e1 e2 e3
  go_enter Tryd.func8, Tryd.ntmps8
  go_wp2_with fail
  all_goals go_ret
  all_goals refine ⟨ret_int ?_, ?_⟩
  all_goals first
    | exact HF.out.alloc (by simp) _
    | exact HF.out
    | rfl
    | omega
    | (split <;> first | rfl | omega | (split <;> first | rfl | omega))
theorem check_out (k : Int) (d : ByteArray) (n : Int) (w : World) (h : k < 1 ∨ 11 < k) :
    Calls Tryd.prog 8 #[.agg #[.int .i64 k, .string d, .int .i64 n]] w fun e w' => e = .returned (.int .i64 10) ∧ Below w.heap.size w w' := by
  go_enter Tryd.func8, Tryd.ntmps8
  go_wp2_with fail
  all_goals first
    | (go_ret; exact ⟨rfl, (Below.refl _ _).alloc (Nat.le_refl _) _⟩)
    | (exfalso; omega)
theorem check_any (k : Int) (d : ByteArray) (n : Int) (w : World) (hF : Forms w) :
    Calls Tryd.prog 8 #[.agg #[.int .i64 k, .string d, .int .i64 n]] w fun e w' => e = .returned (.int .i64 (checkE k d.size n)) ∧ Below w.heap.size w w' := by
  by_cases h : k < 1 ∨ 11 < k
  · unfold checkE; rw [if_pos h]; exact check_out k d n w h
  · unfold checkE; rw [if_neg h]
    obtain ⟨j, rfl⟩ : ∃ j : Nat, k = (j : Int) := ⟨k.toNat, by omega⟩
    rw [Int.toNat_natCast]
    exact check_in j d n w hF (by omega) (by omega)

theorem toList_nil (d : ByteArray) : (d.toList == []) = decide (d.size = 0) := by
  rw [ByteArray.toList_eq]
  have hs : d.size = d.data.toList.length := rfl
  rw [hs]
  cases d.data.toList <;> simp
def cutL (s : ByteArray) (n : Nat) : ByteArray := if n < s.size then s.extract 0 n else s
theorem cutL_le (s : ByteArray) (n : Nat) : (cutL s n).size ≤ n ∧ (cutL s n).size ≤ s.size := by
  unfold cutL
  split
  · rw [ByteArray.size_extract]; omega
  · omega
theorem cut_any (s : ByteArray) (n : Int) (k : Nat) (w : World) (hn : n = (k : Int)) :
    Calls Tryd.prog 6 #[.string s, .int .i64 n] w fun e w' => e = .returned (.string (cutL s k)) ∧ w = w' := by
  subst hn
  by_cases h : k < s.size
  · go_enter Tryd.func6, Tryd.ntmps6
    go_wp2_with fail
    go_ret
    refine ⟨?_, rfl⟩
    unfold cutL
    rw [if_pos h]
    rfl
  · go_enter Tryd.func6, Tryd.ntmps6
    go_wp2_with fail
    go_ret
    refine ⟨?_, rfl⟩
    unfold cutL
    rw [if_neg h]
    rfl
end Go.Proofs.YtcepiapidcofiaaDoor.Ev
