/-
  The table is made.
-/
import Derived.Test.YtoeoigclleijmaaCrcCalls
import Derived.Deep.WholeRow
namespace Go.Proofs.Ytoeoigclleijmaa.CrcCalls
open Go.RowKit CrcMath

def zeros : Array Value := Array.replicate 256 (.int .u32 0)
/-- the table as far as it is made -/
def part : Nat → Array Value
  | 0 => zeros
  | k + 1 => (part k).setIfInBounds k (.int .u32 ((tab k).toNat : Int))
def table : Array Value := part 256

theorem part_size (k : Nat) : (part k).size = 256 := by
  induction k with
  | zero => simp [part, zeros]
  | succ k ih => simp [part, ih]
theorem part_at (k : Nat) : ∀ j, j < 256 → (part k)[j]? = some (.int .u32 (if j < k then ((tab j).toNat : Int) else 0)) := by
  induction k with
  | zero => intro j hj; simp [part, zeros, hj]
  | succ k ih =>
    intro j hj
    rw [part, Array.getElem?_setIfInBounds]
    by_cases h : k = j
    · subst h
      simp [part_size, hj]
    · rw [if_neg h, ih j hj]
      by_cases h2 : j < k
      · rw [if_pos h2, if_pos (by omega)]
      · rw [if_neg h2, if_neg (by omega)]
theorem table_size : table.size = 256 := part_size 256
theorem table_at (j : Nat) (hj : j < 256) : table[j]? = some (.int .u32 ((tab j).toNat : Int)) := by
  unfold table
  rw [part_at 256 j hj, if_pos hj]
theorem table_cells : table.all (·.oneCell') = true := by
  rw [Array.all_eq_true]
  intro i hi
  rw [table_size] at hi
  have := table_at i hi
  rw [Array.getElem?_eq_getElem (by rw [table_size]; exact hi)] at this
  rw [Option.some.inj this]; rfl

theorem table_eq : part 256 = table := rfl
theorem part_zero : part 0 = zeros := rfl
theorem part_succ (k : Nat) : part (k + 1) = (part k).setIfInBounds k (.int .u32 ((tab k).toNat : Int)) := rfl
theorem zeros_size : zeros.size = 256 := by simp [zeros]
attribute [irreducible] part table zeros

theorem setRow_alloc_under (w : World) (c c' : Array Value) (t : TypeId) (o : Obj) : ((w.alloc (.cells c t)).alloc o).setRow w.heap.size c' = (w.alloc (.cells c' t)).alloc o := by
  simp only [World.setRow, World.alloc]
  congr 1
  apply Array.ext_getElem?
  intro i
  rw [Array.getElem?_modify]
  by_cases h : w.heap.size = i
  · subst h
    simp [Array.getElem?_push]
  · have h' : ¬ i = w.heap.size := fun e => h e.symm
    simp [h, h', Array.getElem?_push]

end Go.Proofs.Ytoeoigclleijmaa.CrcCalls
