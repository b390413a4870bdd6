/-
  A text with its sum, and whether it fits; a text cut.
-/
import Derived.Test.YtaappdaolenkiaaDoorCrcMake
import Derived.Deep.RegionWith
import Derived.Deep.RegionHeld3
import Derived.Handy
namespace Go.Proofs.YtaappdaolenkiaaDoor.CrcCalls
open Go.RowKit CrcMath

theorem Tab.lt {w : World} {B : Nat} (h : Tab w B) : B < w.heap.size := block_lt_of_cell (h 0 (by omega))
theorem Tab.below {w w' : World} {B : Nat} (h : Tab w B) (hb : Below w.heap.size w w') : Tab w' B := fun j hj => (hb.cell (p := ⟨B, j, none⟩) h.lt).trans (h j hj)
theorem Tab.alloc {w : World} {B : Nat} (h : Tab w B) (o : Obj) : Tab (w.alloc o) B := fun j hj => by rw [World.cell?_alloc_past _ _ _ h.lt]; exact h j hj
theorem Tab.drewN {w : World} {B : Nat} (h : Tab w B) (n : Nat) : Tab (w.drewN n) B := fun j hj => by simpa using h j hj
theorem below_drewN {B : Nat} {a w : World} (h : Below B a w) (n : Nat) : Below B a (w.drewN n) := h.trans ⟨rfl, rfl, rfl, Nat.le_refl _, fun _ _ => rfl⟩

def sealB (s : ByteArray) : ByteArray := ⟨(seal_ s.data.toList).toArray⟩
theorem sealB_eq (s : ByteArray) : s ++ wordB (sum s.data.toList) = sealB s := by
  have : s = ⟨s.data.toList.toArray⟩ := by simp
  unfold wordB sealB seal_
  conv => lhs; rw [this]
  exact ByteArray.mk_append_mk _ _
theorem sealB_list (s : ByteArray) : (sealB s).data.toList = seal_ s.data.toList := rfl
theorem sealB_size (s : ByteArray) : (sealB s).size = s.size + 4 := by
  rw [← sealB_eq, ByteArray.size_append]; rfl

theorem cat_one (s : ByteArray) : cat (fun _ => s) 1 = s.data.toList := by simp [cat, List.range_succ]

theorem seal_any (B : Nat) (s : ByteArray) (w : World) (hT : Tab w B) (hs : s.size ≤ 140737488351232) :
    Calls Tryd.prog 27 #[.pointer (some ⟨B, 0, none⟩), .string s] w fun e w' => e = .returned (.string (sealB s)) ∧ Below w.heap.size w w' := by
  have HT := Lib.hid hT
  clear hT
  go_enter Tryd.func27, Tryd.ntmps27
  go_wp2_with fail
  refine (sum_any B w.heap.size 0 1 _ (fun _ => s) _ (by omega) (HT.out.alloc _) (fun i hi => ?_) (fun _ _ => hs)).mono ?_
  · rw [World.cell?_alloc_at _ _ _ _ rfl, show 0 + i = 0 from by omega]; rfl
  rintro e w' ⟨rfl, q, rfl⟩
  rw [cat_one]
  go_wp2_with fail
  refine (word_any _ (sum s.data.toList) _ rfl).mono ?_
  rintro e w' ⟨rfl, hb⟩
  have hadd : ∀ w, (Op.stringOp .add s (wordB (sum s.data.toList))).run Tryd.prog w = .ok (.string (sealB s)) w := fun w => by
    rw [run_string_add_sum _ _ _ (by rw [wordB_size]; omega), sealB_eq]
  have hb' : Below w.heap.size w w' := (below_drewN ((Below.refl _ _).alloc (Nat.le_refl _) _) q).trans (hb.mono (by simp))
  clear hb
  go_wp2_with fail
  go_ret
  exact ⟨rfl, hb'⟩

/-! ### cut -/
def cutL (s : ByteArray) (n : Nat) : ByteArray := if n < s.size then s.extract 0 n else s
theorem cutL_le (s : ByteArray) (n : Nat) : (cutL s n).size ≤ n ∧ (cutL s n).size ≤ s.size := by
  unfold cutL
  split
  · rw [ByteArray.size_extract]; omega
  · omega

theorem cut_any (s : ByteArray) (n : Int) (k : Nat) (w : World) (hn : n = (k : Int)) :
    Calls Tryd.prog 20 #[.string s, .int .i64 n] w fun e w' => e = .returned (.string (cutL s k)) ∧ w = w' := by
  subst hn
  by_cases h : k < s.size
  · go_enter Tryd.func20, Tryd.ntmps20
    go_wp2_with fail
    go_ret
    refine ⟨?_, rfl⟩
    unfold cutL
    rw [if_pos h]
    rfl
  · go_enter Tryd.func20, Tryd.ntmps20
    go_wp2_with fail
    go_ret
    refine ⟨?_, rfl⟩
    unfold cutL
    rw [if_neg h]
    rfl

theorem fits_eq (s : ByteArray) (m : Nat) (h : s.size = m + 4) : ((s.extract m s.size).toList == (wordB (sum (s.extract 0 m).data.toList)).toList) = fits s.data.toList := by
  have hl : s.data.toList.length = m + 4 := h
  have e1 : (s.extract m s.size).data.toList = s.data.toList.drop m := by
    rw [ByteArray.data_extract, Array.toList_extract, List.extract_eq_take_drop]
    rw [List.take_of_length_le (by rw [List.length_drop, hl, h]; omega)]
  have e2 : (s.extract 0 m).data.toList = s.data.toList.take m := by
    rw [ByteArray.data_extract, Array.toList_extract, List.extract_eq_take_drop]
    simp
  have e3 : ((s.extract m s.size).toList == (wordB (sum (s.extract 0 m).data.toList)).toList) = decide (s.data.toList.drop m = word (sum (s.data.toList.take m))) := by
    rw [Bool.eq_iff_iff, beq_iff_eq, decide_eq_true_iff, ByteArray.toList_eq, ByteArray.toList_eq, e1, e2]
    rfl
  rw [e3]
  unfold fits
  rw [hl, Nat.add_sub_cancel]
  simp

theorem fits_any (B : Nat) (s : ByteArray) (w : World) (hT : Tab w B) (hs : s.size ≤ 140737488351232) :
    Calls Tryd.prog 28 #[.pointer (some ⟨B, 0, none⟩), .string s] w fun e w' => e = .returned (.bool (fits s.data.toList)) ∧ Below w.heap.size w w' := by
  have HT := Lib.hid hT
  clear hT
  by_cases h4 : 4 ≤ s.size
  · obtain ⟨m, hm0⟩ : ∃ m, s.size = m + 4 := ⟨s.size - 4, by omega⟩
    have hm : (s.size : Int) - 4 = (m : Int) := by omega
    have hm2 : (m : Int) ≤ (s.size : Int) := by omega
    have hx : (s.extract 0 m).size ≤ 140737488351232 := by rw [ByteArray.size_extract]; omega
    have HF := Lib.hid (fits_eq s m hm0)
    clear hm0 h4
    obtain ⟨p, hp⟩ : ∃ p, s.extract 0 m = p := ⟨_, rfl⟩
    obtain ⟨t, ht⟩ : ∃ t, s.extract m s.size = t := ⟨_, rfl⟩
    rw [hp] at hx HF
    rw [ht] at HF
    go_enter Tryd.func28, Tryd.ntmps28
    go_wp2_with fail
    go_region_held3 (fun w' => Below w.heap.size w w')
      (first | (with_reducible assumption) | (with_reducible exact below_drewN ((Below.refl _ _).alloc (Nat.le_refl _) _) _) | (with_reducible exact (Below.refl _ _).drew) | (with_reducible exact ((Below.refl _ _).alloc (Nat.le_refl _) _).drew))
      (first
        | (go_at_call 37
           refine (sum_any B w.heap.size 0 1 _ (fun _ => p) _ (by omega) (by exact (HT.out.alloc _).drewN 1) (by intro i hi; rw [show 0 + i = 0 from by omega]; simp) (fun _ _ => hx)).mono ?_
           rintro e w' ⟨rfl, q, rfl⟩
           rw [cat_one])
        | (go_at_call 36
           refine (word_any _ (sum p.data.toList) _ rfl).mono ?_
           rintro e w' ⟨rfl, hb⟩
           have hb' : Below w.heap.size w w' := (below_drewN ((Below.refl _ _).alloc (Nat.le_refl _) _) _).trans (hb.mono (by simp))
           clear hb))
    go_wp2_with fail
    go_ret
    exact ⟨congrArg (fun x => Ending.returned (.bool x)) HF.out, hb'⟩
  · have hg : decide (4 ≤ (s.size : Int)) = false := decide_eq_false (by omega)
    go_enter Tryd.func28, Tryd.ntmps28
    go_wp2_with fail
    go_quiet (fail)
    go_wp2_with fail
    go_ret
    refine ⟨congrArg (fun x => Ending.returned (.bool x)) ?_, below_drewN (Below.refl _ _) _⟩
    have hl : s.data.toList.length = s.size := rfl
    unfold fits
    rw [eq_comm, decide_eq_false_iff_not, hl]
    omega
end Go.Proofs.YtaappdaolenkiaaDoor.CrcCalls
