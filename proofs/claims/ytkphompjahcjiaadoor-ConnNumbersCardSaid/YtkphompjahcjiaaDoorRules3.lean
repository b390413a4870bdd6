/-
  What is done with units, by the state: the document's Of, letters, and which requests may be.
-/
import Derived.Test.YtkphompjahcjiaaDoorRules2
import Derived.Test.YtkphompjahcjiaaDoorOwn
namespace Go.Proofs.YtkphompjahcjiaaDoor.Rules
open Go.ChangeShapes Go.WideShapes Go.RowKit Go.Maps Own

theorem below_lit (w : World) (o : Obj) : Below w.heap.size w (w.alloc o) := (Below.refl _ _).alloc (Nat.le_refl _) _
theorem getD_at {t : ByteArray} {j : Nat} (h : j < t.size) : t.data.getD j 0 = t[j] := by
  have h2 : j < t.data.size := h
  rw [Array.getD, dif_pos h2]; rfl
def litW : Array Value := (wordsL.map Value.string).toArray
theorem litW_at : ∀ i, i < 10 → litW[i]? = some (.string (wordsL.getD i ⟨#[]⟩)) := by
  intro i hi
  match i, hi with
  | 0, _ | 1, _ | 2, _ | 3, _ | 4, _ | 5, _ | 6, _ | 7, _ | 8, _ | 9, _ => rfl
  | i + 10, h => exact absurd h (by omega)

set_option maxRecDepth 100000 in
set_option maxHeartbeats 1000000 in
theorem rows_any (w : World) :
    Calls Tryd.prog 80 #[] w fun e w' => e = .returned (.slice (some ⟨w.heap.size, 0, none⟩) 10 10) ∧ w' = w.alloc (.cells litW 9) := by
  go_enter Tryd.func80, Tryd.ntmps80
  go_wp2_with fail
  go_ret
  exact ⟨rfl, rfl⟩

set_option maxRecDepth 100000 in
set_option maxHeartbeats 1000000 in
theorem rof_any (s k : Int) (w : World) :
    Calls Tryd.prog 62 #[.int .i64 s, .int .i64 k] w fun e w' => e = .returned (.int .i64 (ofI s k)) ∧ Below w.heap.size w w' := by
  have hsz := words_size s
  obtain ⟨o, ho⟩ : ∃ o, ofI s k = o := ⟨_, rfl⟩
  have HO := Lib.hid ho
  rw [ho]
  clear ho
  by_cases hbad : s < 1 ∨ 10 < s ∨ k < 1 ∨ 15 < k
  · have ho0 : Hid (o = 0) := Lib.hid (by
      have := HO.out; unfold ofI at this
      rw [if_pos (by rw [hsz]; split <;> omega)] at this; exact this.symm)
    clear hsz
    rcases hbad with hb | hb | hb | hb
    all_goals
      go_enter Tryd.func62, Tryd.ntmps62
      go_wp2_with fail
      all_goals go_ret
      all_goals exact ⟨congrArg (fun z => Ending.returned (.int .i64 z)) ho0.out.symm, Below.refl _ _⟩
  · obtain ⟨i, rfl⟩ : ∃ i : Nat, s = (i : Int) + 1 := ⟨(s - 1).toNat, by omega⟩
    obtain ⟨j, rfl⟩ : ∃ j : Nat, k = (j : Int) + 1 := ⟨(k - 1).toNat, by omega⟩
    have hi : i < 10 := by omega
    have hj : j < 15 := by omega
    rw [if_pos (by omega)] at hsz
    have hj15 : (j : Int) < 15 := by omega
    obtain ⟨t, ht⟩ : ∃ t, wordsOf ((i : Int) + 1) = t := ⟨_, rfl⟩
    have ht2 : wordsL.getD i ⟨#[]⟩ = t := by
      rw [← ht]; unfold wordsOf
      rw [if_pos (by omega), show ((i : Int) + 1 - 1).toNat = i from by omega]
    rw [ht] at hsz
    have hjt : j < t.size := by omega
    have hjt2 : (j : Int) < (t.size : Int) := by omega
    have ho1 : Hid (o = codeOf t[j].toNat) := Lib.hid (by
      have := HO.out
      unfold ofI at this
      rw [ht, if_neg (by omega), show ((j : Int) + 1 - 1).toNat = j from by omega] at this
      rw [getD_at hjt] at this; exact this.symm)
    have hc : ∀ w : World, (w.alloc (.cells litW 9)).cell? ⟨w.heap.size, i, none⟩ = some (.string t) := fun w => by
      have hblk : (w.alloc (.cells litW 9)).heap[w.heap.size]? = some (.cells litW 9 (0, 0)) := (MapKept.heap_alloc w _).1
      exact (cell_of_row _ _ _ _ _ _ hblk).trans (by rw [litW_at i hi, ht2])
    have hcw := hc w
    have HB := Lib.hid (below_lit w (.cells litW 9))
    have hi10 : (i : Int) < 10 := by omega
    clear hc HO ht ht2 hi hj hsz hbad
    go_enter Tryd.func62, Tryd.ntmps62
    go_wp2_with fail
    refine (rows_any _).mono ?_; rintro e w1 ⟨rfl, rfl⟩
    generalize w.alloc (.cells litW 9) = w1 at *
    go_wp2_with fail
    all_goals go_ret
    all_goals
      refine ⟨congrArg (fun z => Ending.returned (.int .i64 z)) ?_, HB.out⟩
      rw [ho1.out]
      unfold codeOf
      split <;> (try split) <;> (try split) <;> (try split) <;> first | rfl | (exfalso; simp only [beq_iff_eq, beq_eq_false_iff_ne, ne_eq] at *; omega)
end Go.Proofs.YtkphompjahcjiaaDoor.Rules
