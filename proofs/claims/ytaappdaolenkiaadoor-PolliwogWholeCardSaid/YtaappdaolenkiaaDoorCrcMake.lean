/-
  The table is made.
-/
import Derived.Test.YtaappdaolenkiaaDoorCrcCalls
import Derived.Deep.WholeRow
namespace Go.Proofs.YtaappdaolenkiaaDoor.CrcCalls
open Go.RowKit CrcMath

def zeros : Array Value := Array.replicate 256 (.int .u32 0)
theorem zero_run (w : World) : (zeroValue 27).run Tryd.prog w = .ok (.agg zeros) w := by kernel_rfl

/-- the table as far as it is made -/
def part : Nat → Array Value
  | 0 => zeros
  | k + 1 => (part k).setIfInBounds k (.int .u32 ((tab k).toNat : Int))
def table : Array Value := part 256

theorem part_size (k : Nat) : (part k).size = 256 := by
  induction k with
  | zero => simp [part, zeros]
  | succ k ih => simp [part, ih]
theorem part_at (k : Nat) : ∀ j, j < 256 → (part k)[j]? = some (.int .u32 (if j < k then ((tab j).toNat : Int) else 0)) := by
  induction k with
  | zero => intro j hj; simp [part, zeros, hj]
  | succ k ih =>
    intro j hj
    rw [part, Array.getElem?_setIfInBounds]
    by_cases h : k = j
    · subst h
      simp [part_size, hj]
    · rw [if_neg h, ih j hj]
      by_cases h2 : j < k
      · rw [if_pos h2, if_pos (by omega)]
      · rw [if_neg h2, if_neg (by omega)]
theorem table_size : table.size = 256 := part_size 256
theorem table_at (j : Nat) (hj : j < 256) : table[j]? = some (.int .u32 ((tab j).toNat : Int)) := by
  unfold table
  rw [part_at 256 j hj, if_pos hj]
theorem table_cells : table.all (·.oneCell') = true := by
  rw [Array.all_eq_true]
  intro i hi
  rw [table_size] at hi
  have := table_at i hi
  rw [Array.getElem?_eq_getElem (by rw [table_size]; exact hi)] at this
  rw [Option.some.inj this]; rfl

theorem table_eq : part 256 = table := rfl
theorem part_zero : part 0 = zeros := rfl
theorem part_succ (k : Nat) : part (k + 1) = (part k).setIfInBounds k (.int .u32 ((tab k).toNat : Int)) := rfl
theorem zeros_size : zeros.size = 256 := by simp [zeros]
attribute [irreducible] part table zeros

theorem tableInfo : (Tryd.prog.info? 27).map (·.size) = some 256 := by kernel_rfl
theorem tableDesc : Tryd.prog.underlying 27 = some (.array 256 25) := by kernel_rfl

theorem setRow_alloc_under (w : World) (c c' : Array Value) (t : TypeId) (o : Obj) : ((w.alloc (.cells c t)).alloc o).setRow w.heap.size c' = (w.alloc (.cells c' t)).alloc o := by
  simp only [World.setRow, World.alloc]
  congr 1
  apply Array.ext_getElem?
  intro i
  rw [Array.getElem?_modify]
  by_cases h : w.heap.size = i
  · subst h
    simp [Array.getElem?_push]
  · have h' : ¬ i = w.heap.size := fun e => h e.symm
    simp [h, h', Array.getElem?_push]

set_option maxRecDepth 100000 in
theorem make_any (w : World) :
    Calls Tryd.prog 5 #[] w fun e w' => e = .returned (.agg table) ∧ Below w.heap.size w w' := by
  have hz := zero_run
  go_enter Tryd.func5, Tryd.ntmps5
  go_wp2_with fail
  go_loopw [3] (fun i wr => ∃ k : Nat, k ≤ 256 ∧ i = .int .i64 k ∧ wr = (w.alloc (.cells zeros 27)).alloc (.cells (part k) 27)) (fun i _ => 256 - (intOf i).toNat)
  case atStart => exact ⟨0, by omega, rfl, by rw [part_zero]⟩
  case round =>
    obtain ⟨k, hk, rfl, rfl⟩ := hrel
    by_cases hlt : k < 256
    · have hget := part_at k k hlt
      rw [if_neg (by omega)] at hget
      go_wp2_with fail
      refine (shift_any _ (BitVec.ofNat 32 k <<< 24) _ (by rw [BitVec.toNat_shiftLeft, BitVec.toNat_ofNat, Nat.shiftLeft_eq]; omega)).mono ?_; rintro e w' ⟨rfl, rfl⟩
      go_wp2_with fail
      go_roundw
      case rel => exact ⟨k + 1, by omega, by go_num, by rw [part_succ]; rfl⟩
      case measure => simp [intOf]; omega
    · obtain rfl : k = 256 := by omega
      rw [table_eq]
      go_wp2_with (first
        | (refine wpList_load_row rfl 27 _ rfl (w.heap.size + 1) rfl 27 table (0, 0) _ (heap_alloc2_new w _ _) tableDesc rfl (by rw [table_size]; exact tableInfo) ?_)
        | (refine wpList_store_row rfl 27 _ _ rfl w.heap.size table rfl rfl 27 zeros (heap_alloc2_old w _ _) (by rw [table_size]; exact tableInfo) (by rw [table_size, zeros_size]) table_cells ?_; rw [setRow_alloc_under]))
      refine bodyPost_ret (v := .agg table) (results_cell_row rfl _ _ w.heap.size 27 table (0, 0) _ rfl (heap_alloc2_old w _ _) tableDesc rfl (by rw [table_size]; exact tableInfo)) rfl ⟨rfl, ?_⟩
      exact ((Below.refl _ _).alloc (Nat.le_refl _) _).alloc (by simp) _
end Go.Proofs.YtaappdaolenkiaaDoor.CrcCalls
