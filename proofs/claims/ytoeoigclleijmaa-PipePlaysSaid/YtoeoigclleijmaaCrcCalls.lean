/-
  The calls of the sums, one contract each.
-/
import Derived.Test.YtoeoigclleijmaaBase
import Derived.Test.YtoeoigclleijmaaCrcMath
import Derived.WalkLawsBesides
import Derived.Lib.Hide
import Derived.BigQuiet
import Derived.Deep.QuietTactic
namespace Go.Proofs.Ytoeoigclleijmaa.CrcCalls
open Go.RowKit CrcMath

theorem ret_int {k : IntKind} {a b : Int} (h : a = b) : Ending.returned (.int k a) = .returned (.int k b) := by rw [h]

theorem msb_int (r : BitVec 32) : r.msb = true ↔ 2147483648 ≤ (r.toNat : Int) := by
  rw [BitVec.msb_eq_decide]; simp; omega
theorem shl1_int (r : BitVec 32) : ((r <<< 1).toNat : Int) = (r.toNat : Int) * 2 % 4294967296 := by
  rw [BitVec.toNat_shiftLeft, Nat.shiftLeft_eq]; omega
theorem xor_int (a b : BitVec 32) (x y : Int) (hx : x = (a.toNat : Int)) (hy : y = (b.toNat : Int)) : bits .xor .u32 x y = ((a ^^^ b).toNat : Int) := by
  rw [hx, hy, u32_xor_nat _ _ a.isLt b.isLt, BitVec.toNat_xor]
theorem s1_yes (r : BitVec 32) (h : 2147483648 ≤ (r.toNat : Int)) : bits .xor .u32 ((r.toNat : Int) * 2 % 4294967296) 79764919 = ((s1 r).toNat : Int) := by
  rw [xor_int (r <<< 1) poly _ _ (shl1_int r).symm (by decide), s1, (msb_int r).2 h]; rfl
theorem s1_no (r : BitVec 32) (h : (r.toNat : Int) < 2147483648) : (r.toNat : Int) * 2 % 4294967296 = ((s1 r).toNat : Int) := by
  have hm : r.msb = false := by
    cases hm : r.msb with
    | false => rfl
    | true => have := (msb_int r).1 hm; omega
  rw [← shl1_int, s1, hm]; rfl

theorem s1_no' (r : BitVec 32) (h : (r.toNat : Int) < 2147483648) : (r.toNat : Int) * 2 = ((s1 r).toNat : Int) := by
  rw [← s1_no r h]; omega
theorem not_int (r : BitVec 32) : 4294967295 - (r.toNat : Int) = ((r ^^^ ones).toNat : Int) := by
  have : r ^^^ ones = ~~~ r := by rw [show ones = BitVec.allOnes 32 from by decide, BitVec.xor_allOnes]
  rw [this, BitVec.toNat_not]
  have := r.isLt; omega

/-- a byte on the highest bits -/
theorem hi_int (b : UInt8) : (hi b).toNat = b.toNat * 16777216 := by
  unfold hi
  rw [BitVec.toNat_shiftLeft, BitVec.toNat_ofNat, Nat.shiftLeft_eq]
  have := b.toNat_lt; omega

theorem take_snoc (s : ByteArray) (k : Nat) (h : k < s.size) : s.data.toList.take (k + 1) = s.data.toList.take k ++ [s[k]] := by
  rw [List.take_succ_eq_append_getElem (by simpa using h)]; rfl

theorem run_snoc (r : BitVec 32) (s : ByteArray) (k : Nat) (h : k < s.size) : run r (s.data.toList.take (k + 1)) = on (run r (s.data.toList.take k)) s[k] := by
  rw [take_snoc s k h, run, List.foldl_append]; rfl

theorem run_all (r : BitVec 32) (s : ByteArray) : run r (s.data.toList.take s.size) = run r s.data.toList := by
  rw [List.take_of_length_le (by simp)]

/-- the table as it lies in memory -/
def Tab (w : World) (B : Nat) : Prop := ∀ j, j < 256 → w.cell? ⟨B, j, none⟩ = some (.int .u32 ((tab j).toNat : Int))

theorem shl8_int (r : BitVec 32) : ((r <<< 8).toNat : Int) = (r.toNat : Int) * 256 % 4294967296 := by
  rw [BitVec.toNat_shiftLeft, Nat.shiftLeft_eq]; omega
theorem idx_int (r : BitVec 32) (b : UInt8) : ∃ j : Nat, bits .xor .u8 ((r.toNat : Int) / 16777216) (b.toNat : Int) = (j : Int) ∧ j < 256 ∧ on r b = (r <<< 8) ^^^ tab j := by
  have h1 : (r >>> 24).toNat = r.toNat / 16777216 := by rw [BitVec.toNat_ushiftRight, Nat.shiftRight_eq_div_pow]
  have h2 : r.toNat / 16777216 < 256 := by have := r.isLt; omega
  refine ⟨(r.toNat / 16777216) ^^^ b.toNat, ?_, Nat.xor_lt_two_pow (n := 8) h2 b.toNat_lt, by rw [on_tab, h1]⟩
  rw [show (r.toNat : Int) / 16777216 = ((r.toNat / 16777216 : Nat) : Int) from rfl, u8_xor_nat _ _ h2 b.toNat_lt]

/-- texts one behind the other -/
def cat (S : Nat → ByteArray) (k : Nat) : List UInt8 := (List.range k).flatMap fun i => (S i).data.toList
theorem cat_succ (S : Nat → ByteArray) (k : Nat) : cat S (k + 1) = cat S k ++ (S k).data.toList := by
  simp [cat, List.range_succ]
theorem run_cat (r : BitVec 32) (S : Nat → ByteArray) (k : Nat) : run r (cat S (k + 1)) = run (run r (cat S k)) (S k).data.toList := by
  rw [cat_succ, run, List.foldl_append]; rfl

theorem xones_int (r : BitVec 32) : bits .xor .u32 (r.toNat : Int) 4294967295 = ((r ^^^ ones).toNat : Int) := xor_int r ones _ _ rfl (by decide)

/-! ### a sum's bytes -/
theorem conv4 (w : World) (a b c d : Int) : (convert 58 9 (.slice (some ⟨w.heap.size, 0, none⟩) 4 4)).run Try.prog (w.alloc (.cells #[.int .u8 a, .int .u8 b, .int .u8 c, .int .u8 d] 5)) = .ok (.string (strOfNums [a, b, c, d])) (w.alloc (.cells #[.int .u8 a, .int .u8 b, .int .u8 c, .int .u8 d] 5)) := by
  refine run_convert_bytes_arg _ _ _ Try.underlying58 Try.underlying5 _ _ _ _ [a, b, c, d] rfl ?_ _ Try.underlying9
  intro i hi
  rw [Nat.zero_add, World.cell?_alloc_at _ _ _ _ rfl]
  match i, hi with
  | 0, _ | 1, _ | 2, _ | 3, _ => rfl

theorem byte_int (x : BitVec 32) (n : Int) (h : n = ((x.toNat % 256 : Nat) : Int)) : UInt8.ofNat n.toNat = byte x := by
  rw [h, byte]
  apply UInt8.toNat_inj.1
  rw [UInt8.toNat_ofNat', UInt8.toNat_ofNat', Int.toNat_natCast]
  omega

theorem word_str (r : BitVec 32) (a b c d : Int) (ha : a = (r.toNat / 16777216 : Nat)) (hb : b = (r.toNat / 65536 % 256 : Nat)) (hc : c = (r.toNat / 256 % 256 : Nat)) (hd : d = (r.toNat % 256 : Nat)) :
    strOfNums [a, b, c, d] = ⟨(word r).toArray⟩ := by
  have hr := r.isLt
  unfold strOfNums word
  simp only [List.map_cons, List.map_nil]
  rw [byte_int (r >>> 24) a (by rw [BitVec.toNat_ushiftRight, Nat.shiftRight_eq_div_pow]; omega),
    byte_int (r >>> 16) b (by rw [BitVec.toNat_ushiftRight, Nat.shiftRight_eq_div_pow]; omega),
    byte_int (r >>> 8) c (by rw [BitVec.toNat_ushiftRight, Nat.shiftRight_eq_div_pow]; omega),
    byte_int r d (by omega)]

def wordB (r : BitVec 32) : ByteArray := ⟨(word r).toArray⟩
theorem wordB_size (r : BitVec 32) : (wordB r).size = 4 := rfl
theorem wordB_list (r : BitVec 32) : (wordB r).data.toList = word r := rfl

end Go.Proofs.Ytoeoigclleijmaa.CrcCalls
