/-
  The document's own words on units: a unit's bytes: the walk.
-/
import Derived.Test.YtaappdaolenkiaaDoorPduRef3
import Derived.Test.YtaappdaolenkiaaDoorPduRef4
import Derived.Deep.DeepCutAuto
namespace Go.Proofs.YtaappdaolenkiaaDoor.Pdu
open Go.ChangeShapes Go.WideShapes Go.RowKit Own

theorem add_ok (A B : List Int) (h : A.length + B.length ≤ 100000) (w : World) : (Op.stringOp .add (strOfNums A) (strOfNums B)).run Tryd.prog w = .ok (.string (strOfNums (A ++ B))) w := by
  rw [run_string_add_sum _ _ _ (by rw [str_size, str_size]; omega), str_app]
theorem be4_len (x : Int) : (be4 x).length = 4 := rfl
theorem part0_len (u : U) (z : Nat) : (part0 u z).length = u.data.size + z := by simp [part0, dataI]
theorem partQ_len (u : U) : (partQ u).length ≤ u.data.size + padU u + 4 := by
  unfold partQ; rw [List.length_append, part0_len]; split <;> simp [be4_len]
theorem partL_len (u : U) (j : Nat) : (partL u j).length ≤ u.data.size + padU u + 4 + 4 * u.list.length := by
  have h := partQ_len u
  unfold partL
  rw [List.length_append, be4_length]
  have := List.length_take_le j u.list
  have h2 : (u.list.take j).length ≤ u.list.length := by rw [List.length_take]; omega
  omega
theorem partP_len (u : U) : (partP u).length ≤ u.data.size + padU u + 8 + 4 * u.list.length := by
  have h := partL_len u u.list.length
  unfold partP; rw [List.length_append]; split <;> simp [be4_len] <;> omega
theorem partM_len (u : U) : (partM u).length ≤ u.data.size + padU u + 12 + 4 * u.list.length := by
  have h := partP_len u
  unfold partM; rw [List.length_append]; split <;> simp [be4_len] <;> omega
theorem padU_lt (u : U) : padU u ≤ 3 := by unfold padU; omega
theorem part0_succ (u : U) (z : Nat) : part0 u z ++ [0] = part0 u (z + 1) := by
  unfold part0; rw [List.append_assoc, List.replicate_succ']
theorem partL_succ (u : U) (j : Nat) (h : j < u.list.length) : partL u j ++ be4 (u.list.getD j 0) = partL u (j + 1) := by
  unfold partL; rw [List.append_assoc, take_succ' u.list 0 j h, List.flatMap_append]; simp
theorem partL_zero (u : U) : partL u 0 = partQ u := by simp [partL]
theorem pad_at {z n : Nat} (hz : z < (4 - n % 4) % 4) : ((n + z : Nat) : Int) % 4 ≠ 0 := by omega
theorem pad_end (n : Nat) : ((n + (4 - n % 4) % 4 : Nat) : Int) % 4 = 0 := by omega

end Go.Proofs.YtaappdaolenkiaaDoor.Pdu
