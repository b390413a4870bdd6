/-
  Events: a signal's text, as the document has it.
-/
import Derived.Test.YtcepiapidcofiaaDoorEvText
namespace Go.Proofs.YtcepiapidcofiaaDoor.Ev
open Go.ChangeShapes Go.WideShapes Go.RowKit Own

theorem join1 (X : ByteArray) : joinT [X] = X := by
  unfold joinT; rw [List.map_cons, List.map_nil, Lib.join_one]
theorem join_cons (X Y : ByteArray) (L : List ByteArray) : joinT (X :: Y :: L) = X ++ (⟨#[32]⟩ ++ joinT (Y :: L)) := by
  unfold joinT
  have e : Lib.join ((X :: Y :: L).map (·.data.toList)) [32] = X.data.toList ++ ([32] ++ Lib.join ((Y :: L).map (·.data.toList)) [32]) := by simp [Lib.join, List.intercalate]
  rw [e]
  apply ByteArray.ext
  rw [ByteArray.data_append, ByteArray.data_append]
  simp
theorem ba_assoc (X Y Z : ByteArray) : X ++ Y ++ Z = X ++ (Y ++ Z) := ByteArray.append_assoc
def firsts : List ByteArray := (List.range 12).map fun j => wordS (j + 1)
theorem first_get (j : Nat) (hj : j < 12) (w : World) (t : TypeId) : (w.alloc (.cells (firsts.map Value.string).toArray t)).cell? ⟨w.heap.size, j, none⟩ = some (.string (wordS (j + 1))) := by
  rw [cell_of_row _ _ _ _ _ (0, 0) (heap_alloc_new w _)]
  have h1 : j < firsts.length := by simp [firsts, hj]
  simp [firsts, hj]

theorem look_data (k : Nat) (h : k - 1 < 12) : (lookOf k).2 = decide (k = 1 ∨ k = 3 ∨ k = 5 ∨ (8 ≤ k ∧ k ≤ 11)) := by
  match k, h with
  | 0, _ | 1, _ | 2, _ | 3, _ | 4, _ | 5, _ | 6, _ | 7, _ | 8, _ | 9, _ | 10, _ | 11, _ | 12, _ => rfl
  | k + 13, h => exact absurd h (by omega)
theorem self32 : (⟨#[32, 115, 101, 108, 102]⟩ : ByteArray) = ⟨#[32]⟩ ++ byS true := by decide
theorem user32 : (⟨#[32, 117, 115, 101, 114]⟩ : ByteArray) = ⟨#[32]⟩ ++ byS false := by decide
end Go.Proofs.YtcepiapidcofiaaDoor.Ev
