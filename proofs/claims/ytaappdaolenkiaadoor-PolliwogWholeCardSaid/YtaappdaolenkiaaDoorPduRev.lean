/-
  Units: a List turned round.
-/
import Derived.Test.YtaappdaolenkiaaDoorPduRest
import Derived.Test.YtaappdaolenkiaaDoorShelfRev
namespace Go.Proofs.YtaappdaolenkiaaDoor.Pdu
open Go.ChangeShapes Go.WideShapes Go.RowKit Own Go.Sort Go.Lib

theorem putRow_block {α : Type} [Inhabited α] (enc : α → Value) (w : World) (g : Nat) (cur : Array Value) (t : TypeId) (fr : Nat × Nat) (d : Array α) (hg : w.heap[g]? = some (.cells cur t fr)) :
    (putRow enc w g 0 d).heap[g]? = some (.cells (putCells enc 0 d cur) t fr) := by
  simp [putRow, mapBlock, Array.getElem?_modify, hg, onCells]
theorem putRow_other {α : Type} [Inhabited α] (enc : α → Value) (w : World) (g k : Nat) (d : Array α) (hk : k ≠ g) :
    (putRow enc w g 0 d).heap[k]? = w.heap[k]? := by
  simp only [putRow, mapBlock, Array.getElem?_modify]
  rw [if_neg (fun e => hk e.symm)]

theorem rev_own (base : Nat) (v : Value) (L : List Int) (w : World) (h : OwnI .u32 29 w base v L) :
    Calls Tryd.prog 40 #[v] w fun e w' => e = .returned (.tuple #[]) ∧ OwnI .u32 29 w' base v L.reverse ∧ Below base w w' := by
  rcases h.2 with ⟨rfl, hn⟩ | ⟨g, cap, cur, rfl, hbg, hg, hnc, hcm, hsz, htk⟩
  · obtain rfl := List.eq_nil_of_length_eq_zero hn
    refine (AnyE.slices_Reverse_empty Tryd.revNum none 0 w).mono ?_
    rintro e w' ⟨rfl, rfl⟩
    exact ⟨rfl, OwnI.nil, Below.refl _ _⟩
  · have hlt : g < w.heap.size := (Array.getElem?_eq_some_iff.1 hg).1
    have hH : Holds (Value.int .u32) w g 0 L.toArray := by
      intro j hj
      have hj' : j < L.length := by simpa using hj
      refine ⟨?_, by simp [World.frozen?, hg]⟩
      rw [Nat.zero_add, Go.Joins.cell_of_block hg]
      have : (cur.toList.take (L.length * 1))[j]? = some (.int .u32 (L.getD j 0)) := by rw [htk]; simp [Own.encI, List.getD, hj']
      rw [List.getElem?_take_of_lt (by omega)] at this
      rw [← Array.getElem?_toList, this]
      simp [List.getD, hj', getElem!_pos]
    refine (AnyE.slices_Reverse Tryd.revNum (Value.int .u32) (fun _ => rfl) g 0 cap L w hH (by unfold maxLen at hcm; omega)).mono ?_
    rintro e w' ⟨rfl, n, rfl⟩
    have hblk := putRow_block (Value.int .u32) (Sort.ahead w n) g cur 29 (0, 0) L.reverse.toArray hg
    have hpc : (putCells (Value.int .u32) 0 L.reverse.toArray cur).size = cap * 1 := by simp [putCells, hsz]
    refine ⟨rfl, ⟨by simp [Own.encI], .inr ⟨g, cap, _, by rw [List.length_reverse], hbg, hblk, by rw [List.length_reverse]; exact hnc, hcm, hpc, ?_⟩⟩, ⟨rfl, rfl, rfl, by simp, fun k hk => putRow_other _ _ g k _ (by omega)⟩⟩
    apply List.ext_getElem?
    intro j
    rw [List.length_reverse, Nat.mul_one]
    by_cases hj : j < L.length
    · rw [List.getElem?_take_of_lt hj, Array.getElem?_toList, putCells, Array.getElem?_mapIdx, Array.getElem?_eq_getElem (by rw [hsz]; omega)]
      simp [Own.encI, hj]
    · rw [List.getElem?_eq_none (by simp; omega), List.getElem?_eq_none (by simp [Own.encI]; omega)]
end Go.Proofs.YtaappdaolenkiaaDoor.Pdu
