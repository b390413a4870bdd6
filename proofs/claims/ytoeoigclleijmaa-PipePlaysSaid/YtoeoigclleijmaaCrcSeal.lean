/-
  A text with its sum, and whether it fits; a text cut.
-/
import Derived.Test.YtoeoigclleijmaaCrcMake
import Derived.Deep.RegionWith
import Derived.Deep.RegionHeld3
import Derived.Handy
namespace Go.Proofs.Ytoeoigclleijmaa.CrcCalls
open Go.RowKit CrcMath

theorem Tab.lt {w : World} {B : Nat} (h : Tab w B) : B < w.heap.size := block_lt_of_cell (h 0 (by omega))
theorem Tab.below {w w' : World} {B : Nat} (h : Tab w B) (hb : Below w.heap.size w w') : Tab w' B := fun j hj => (hb.cell (p := ⟨B, j, none⟩) h.lt).trans (h j hj)
theorem Tab.alloc {w : World} {B : Nat} (h : Tab w B) (o : Obj) : Tab (w.alloc o) B := fun j hj => by rw [World.cell?_alloc_past _ _ _ h.lt]; exact h j hj
theorem Tab.drewN {w : World} {B : Nat} (h : Tab w B) (n : Nat) : Tab (w.drewN n) B := fun j hj => by simpa using h j hj
theorem below_drewN {B : Nat} {a w : World} (h : Below B a w) (n : Nat) : Below B a (w.drewN n) := h.trans ⟨rfl, rfl, rfl, Nat.le_refl _, fun _ _ => rfl⟩

def sealB (s : ByteArray) : ByteArray := ⟨(seal_ s.data.toList).toArray⟩
theorem sealB_eq (s : ByteArray) : s ++ wordB (sum s.data.toList) = sealB s := by
  have : s = ⟨s.data.toList.toArray⟩ := by simp
  unfold wordB sealB seal_
  conv => lhs; rw [this]
  exact ByteArray.mk_append_mk _ _
theorem sealB_list (s : ByteArray) : (sealB s).data.toList = seal_ s.data.toList := rfl
theorem sealB_size (s : ByteArray) : (sealB s).size = s.size + 4 := by
  rw [← sealB_eq, ByteArray.size_append]; rfl

theorem cat_one (s : ByteArray) : cat (fun _ => s) 1 = s.data.toList := by simp [cat, List.range_succ]

/-! ### cut -/
def cutL (s : ByteArray) (n : Nat) : ByteArray := if n < s.size then s.extract 0 n else s
theorem cutL_le (s : ByteArray) (n : Nat) : (cutL s n).size ≤ n ∧ (cutL s n).size ≤ s.size := by
  unfold cutL
  split
  · rw [ByteArray.size_extract]; omega
  · omega

theorem cut_any (s : ByteArray) (n : Int) (k : Nat) (w : World) (hn : n = (k : Int)) :
    Calls Try.prog 9 #[.string s, .int .i64 n] w fun e w' => e = .returned (.string (cutL s k)) ∧ w = w' := by
  subst hn
  by_cases h : k < s.size
  · go_enter Try.func9, Try.ntmps9
    go_wp2_with fail
    go_ret
    refine ⟨?_, rfl⟩
    unfold cutL
    rw [if_pos h]
    rfl
  · go_enter Try.func9, Try.ntmps9
    go_wp2_with fail
    go_ret
    refine ⟨?_, rfl⟩
    unfold cutL
    rw [if_neg h]
    rfl

theorem fits_eq (s : ByteArray) (m : Nat) (h : s.size = m + 4) : ((s.extract m s.size).toList == (wordB (sum (s.extract 0 m).data.toList)).toList) = fits s.data.toList := by
  have hl : s.data.toList.length = m + 4 := h
  have e1 : (s.extract m s.size).data.toList = s.data.toList.drop m := by
    rw [ByteArray.data_extract, Array.toList_extract, List.extract_eq_take_drop]
    rw [List.take_of_length_le (by rw [List.length_drop, hl, h]; omega)]
  have e2 : (s.extract 0 m).data.toList = s.data.toList.take m := by
    rw [ByteArray.data_extract, Array.toList_extract, List.extract_eq_take_drop]
    simp
  have e3 : ((s.extract m s.size).toList == (wordB (sum (s.extract 0 m).data.toList)).toList) = decide (s.data.toList.drop m = word (sum (s.data.toList.take m))) := by
    rw [Bool.eq_iff_iff, beq_iff_eq, decide_eq_true_iff, ByteArray.toList_eq, ByteArray.toList_eq, e1, e2]
    rfl
  rw [e3]
  unfold fits
  rw [hl, Nat.add_sub_cancel]
  simp

end Go.Proofs.Ytoeoigclleijmaa.CrcCalls
