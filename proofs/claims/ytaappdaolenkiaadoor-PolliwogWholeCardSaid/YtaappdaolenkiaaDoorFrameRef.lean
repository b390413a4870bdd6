/-
  The document's own frames, one contract each.
-/
import Derived.Test.YtaappdaolenkiaaDoorFrameParse
namespace Go.Proofs.YtaappdaolenkiaaDoor.FrameCalls
open Go.ChangeShapes Go.WideShapes Go.RowKit CrcMath CrcCalls FrameMath

theorem conv1 (w : World) (a : Int) : (convert 67 9 (.slice (some ⟨w.heap.size, 0, none⟩) 1 1)).run Tryd.prog (w.alloc (.cells #[.int .u8 a] 5)) = .ok (.string (strOfNums [a])) (w.alloc (.cells #[.int .u8 a] 5)) := by
  refine run_convert_bytes_arg _ _ _ Tryd.underlying67 Tryd.underlying5 _ _ _ _ [a] rfl ?_ _ Tryd.underlying9
  intro i hi
  rw [Nat.zero_add, World.cell?_alloc_at _ _ _ _ rfl]
  match i, hi with
  | 0, _ => rfl

def padB (d : ByteArray) (k : Nat) : ByteArray := ⟨(d.data.toList ++ List.replicate k 0).toArray⟩
theorem padB_zero (d : ByteArray) : padB d 0 = d := by
  apply ByteArray.ext; apply Array.ext'; simp [padB]
theorem padB_size (d : ByteArray) (k : Nat) : (padB d k).size = d.size + k := by
  show (d.data.toList ++ List.replicate k 0).length = _
  rw [List.length_append, List.length_replicate, size_list]
theorem append_mk (a : ByteArray) (l : List UInt8) : a ++ (⟨l.toArray⟩ : ByteArray) = ⟨(a.data.toList ++ l).toArray⟩ := by
  have : a = ⟨a.data.toList.toArray⟩ := by simp
  conv => lhs; rw [this]
  exact ByteArray.mk_append_mk _ _
theorem padB_succ (d : ByteArray) (k : Nat) : padB d k ++ strOfNums [0] = padB d (k + 1) := by
  rw [show strOfNums [0] = ⟨[(0 : UInt8)].toArray⟩ from rfl, append_mk]
  simp [padB, List.replicate_succ']
def bodyB (u : UInt8) (d : ByteArray) : ByteArray := ⟨(bodyL u d.data.toList).toArray⟩
theorem bodyB_eq (u : Nat) (d : ByteArray) (x y : Int) (hx : x = ((d.size / 256 % 256 : Nat) : Int)) (hy : y = ((d.size % 256 : Nat) : Int)) :
    padB d (padN d.size) ++ strOfNums [(u : Int), 0, x, y] = bodyB (UInt8.ofNat u) d := by
  have e : strOfNums [(u : Int), 0, x, y] = ⟨(tail4 (UInt8.ofNat u) d.size).toArray⟩ := by
    unfold strOfNums tail4
    simp only [List.map_cons, List.map_nil]
    have e1 : UInt8.ofNat x.toNat = UInt8.ofNat (d.size / 256) := by
      apply UInt8.toNat_inj.1; rw [hx, UInt8.toNat_ofNat', UInt8.toNat_ofNat', Int.toNat_natCast]; omega
    have e2 : UInt8.ofNat y.toNat = UInt8.ofNat d.size := by
      apply UInt8.toNat_inj.1; rw [hy, UInt8.toNat_ofNat', UInt8.toNat_ofNat', Int.toNat_natCast]; omega
    rw [e1, e2]; rfl
  rw [e, append_mk]
  rfl
theorem bodyB_size (u : UInt8) (d : ByteArray) : (bodyB u d).size + 4 = 48 * cellsN d.size := bodyL_length u d.data.toList
def frameB (u : UInt8) (d : ByteArray) : ByteArray := ⟨(frameL u d.data.toList).toArray⟩
theorem frameB_eq (u : UInt8) (d : ByteArray) : bodyB u d ++ wordB (sum (bodyB u d).data.toList) = frameB u d := by
  rw [sealB_eq]; rfl

theorem pad_at {n k p m : Nat} (hp : p = padN n) (hk : k < p) (hm : m = n + k) : (((m : Int) % 48 != 40)) = true := by
  have := cellsN_room n
  unfold padN at hp
  rw [bne_iff_ne]; omega
theorem pad_end {n p m : Nat} (hp : p = padN n) (hm : m = n + p) : (((m : Int) % 48 != 40)) = false := by
  have := cellsN_room n
  unfold padN at hp
  rw [bne_eq_false_iff_eq]; omega
def told3 (p : UInt8 × List UInt8 × Int) : Value := .tuple #[.int .u8 (p.1.toNat : Int), .string ⟨p.2.1.toArray⟩, .int .i64 p.2.2]

theorem short_extract (s : ByteArray) (n : Nat) (h : (n : Int) ≤ 65535) : (s.extract 0 n).size ≤ 65535 := by rw [ByteArray.size_extract]; omega
/-- are the bytes those of the frame that they tell -/
theorem same_frame (s : ByteArray) (E n : Nat) (hf : fits s.data.toList = true) (hE : s.size = E + 8) (hn : n = num2 (s.data.toList.getD (s.size - 8 + 2) 0) (s.data.toList.getD (s.size - 8 + 3) 0))
    (hc : 48 * cellsN n = s.size) (i0 : E < s.size) :
    ((frameB (UInt8.ofNat (s[E]'i0).toNat) (s.extract 0 n)).toList == s.toList) = (zeroB (s.extract n E) && decide (s.data.toList.getD (E + 1) 0 = 0)) := by
  have key := frame_eq s.data.toList n hf (by rw [size_list]; omega) (by rw [size_list]; exact hn) (by rw [size_list]; exact hc)
  rw [size_list, show s.size - 8 = E by omega] at key
  have e1 : UInt8.ofNat (s[E]'i0).toNat = s.data.toList.getD E 0 := by rw [index_eq s E i0]; simp
  have e2 : (s.extract 0 n).data.toList = s.data.toList.take n := by rw [take_extract]
  rw [Bool.eq_iff_iff, beq_iff_eq, ByteArray.toList_eq, ByteArray.toList_eq, Bool.and_eq_true, decide_eq_true_iff, zeroB_extract, e1]
  unfold frameB
  rw [e2]
  exact key
theorem form_ways {z : Bool} {x : UInt8} {p q : UInt8 × List UInt8 × Int} (h : (z && decide (x = 0)) = false) : (if z = false ∨ x ≠ 0 then p else q) = p := by
  rw [if_pos]
  cases z
  · left; rfl
  · right; simpa using h
theorem form_ok {z : Bool} {x : UInt8} {p q : UInt8 × List UInt8 × Int} (h : (z && decide (x = 0)) = true) : (if z = false ∨ x ≠ 0 then p else q) = q := by
  rw [if_neg]
  simp only [Bool.and_eq_true, decide_eq_true_eq] at h
  rintro (h1 | h1)
  · rw [h.1] at h1; cases h1
  · exact h1 h.2
theorem num_add (a b : UInt8) : wrap64 (wrap64 (wrap64 (a.toNat : Int) * 256) + wrap64 (b.toNat : Int)) = ((num2 a b : Nat) : Int) := by
  have ha := a.toNat_lt
  have hb := b.toNat_lt
  rw [IntWalk.wrap64_in (a.toNat : Int) (by omega), IntWalk.wrap64_in (b.toNat : Int) (by omega), IntWalk.wrap64_in ((a.toNat : Int) * 256) (by omega), IntWalk.wrap64_in _ (by omega)]
  unfold num2; omega
theorem far_ways {n E c m : Nat} (hc : cellsN n = c) (h1 : m % 48 = 0) (h2 : m = E + 8) (h : ¬ 48 * c = m) : (E : Int) < (n : Int) ∨ ((n : Int) ≤ (E : Int) ∧ ∃ g : Nat, (E : Int) - (n : Int) = (g : Int) ∧ (48 : Int) ≤ (g : Int)) := by
  have := cellsN_room n
  rw [hc] at this
  by_cases h3 : E < n
  · left; omega
  · right; exact ⟨by omega, E - n, by omega, by omega⟩
theorem near_way {n E c m : Nat} (hc : cellsN n = c) (h2 : m = E + 8) (h : 48 * c = m) : ∃ g : Nat, (E : Int) - (n : Int) = (g : Int) ∧ (g : Int) < 48 := by
  have := cellsN_room n
  rw [hc] at this
  exact ⟨E - n, by omega, by omega⟩

end Go.Proofs.YtaappdaolenkiaaDoor.FrameCalls
