/-
  The calls of the sums, one contract each.
-/
import Derived.Test.YtaappdaolenkiaaDoorBase
import Derived.Test.YtaappdaolenkiaaDoorCrcMath
import Derived.WalkLawsBesides
import Derived.Lib.Hide
import Derived.BigQuiet
import Derived.Deep.QuietTactic
namespace Go.Proofs.YtaappdaolenkiaaDoor.CrcCalls
open Go.RowKit CrcMath

theorem ret_int {k : IntKind} {a b : Int} (h : a = b) : Ending.returned (.int k a) = .returned (.int k b) := by rw [h]

theorem msb_int (r : BitVec 32) : r.msb = true ↔ 2147483648 ≤ (r.toNat : Int) := by
  rw [BitVec.msb_eq_decide]; simp; omega
theorem shl1_int (r : BitVec 32) : ((r <<< 1).toNat : Int) = (r.toNat : Int) * 2 % 4294967296 := by
  rw [BitVec.toNat_shiftLeft, Nat.shiftLeft_eq]; omega
theorem xor_int (a b : BitVec 32) (x y : Int) (hx : x = (a.toNat : Int)) (hy : y = (b.toNat : Int)) : bits .xor .u32 x y = ((a ^^^ b).toNat : Int) := by
  rw [hx, hy, u32_xor_nat _ _ a.isLt b.isLt, BitVec.toNat_xor]
theorem s1_yes (r : BitVec 32) (h : 2147483648 ≤ (r.toNat : Int)) : bits .xor .u32 ((r.toNat : Int) * 2 % 4294967296) 79764919 = ((s1 r).toNat : Int) := by
  rw [xor_int (r <<< 1) poly _ _ (shl1_int r).symm (by decide), s1, (msb_int r).2 h]; rfl
theorem s1_no (r : BitVec 32) (h : (r.toNat : Int) < 2147483648) : (r.toNat : Int) * 2 % 4294967296 = ((s1 r).toNat : Int) := by
  have hm : r.msb = false := by
    cases hm : r.msb with
    | false => rfl
    | true => have := (msb_int r).1 hm; omega
  rw [← shl1_int, s1, hm]; rfl

theorem s1_no' (r : BitVec 32) (h : (r.toNat : Int) < 2147483648) : (r.toNat : Int) * 2 = ((s1 r).toNat : Int) := by
  rw [← s1_no r h]; omega
theorem not_int (r : BitVec 32) : 4294967295 - (r.toNat : Int) = ((r ^^^ ones).toNat : Int) := by
  have : r ^^^ ones = ~~~ r := by rw [show ones = BitVec.allOnes 32 from by decide, BitVec.xor_allOnes]
  rw [this, BitVec.toNat_not]
  have := r.isLt; omega

theorem shift_any (x : Int) (r : BitVec 32) (w : World) (hx : x = (r.toNat : Int)) :
    Calls Tryd.prog 17 #[.int .u32 x] w fun e w' => e = .returned (.int .u32 ((it 8 r).toNat : Int)) ∧ w = w' := by
  go_enter Tryd.func17, Tryd.ntmps17
  go_wp2_with fail
  go_loop [0, 4] (fun v i => ∃ k : Nat, k ≤ 8 ∧ v = .int .u32 ((it k r).toNat : Int) ∧ i = .int .i64 k) (fun _ i => 8 - (intOf i).toNat)
  case atStart => exact ⟨0, by omega, by rw [hx]; rfl, rfl⟩
  case round =>
    obtain ⟨k, hk, rfl, rfl⟩ := hrel
    have hX := (it k r).isLt
    by_cases hlt : k < 8
    · go_wp2_with fail
      · have ht : (((it k r).toNat : Int) / 2147483648 == 1) = true := by assumption
        have ht' := beq_iff_eq.1 ht
        go_round
        case rel => exact ⟨k + 1, by omega, by rw [s1_yes _ (by omega)]; rfl, by go_num⟩
        case measure => simp [intOf]; omega
      · have ht : (((it k r).toNat : Int) / 2147483648 == 1) = false := by assumption
        have ht' := beq_eq_false_iff_ne.1 ht
        go_round
        case rel => exact ⟨k + 1, by omega, by rw [s1_no _ (by omega)]; rfl, by go_num⟩
        case measure => simp [intOf]; omega
    · obtain rfl : k = 8 := by omega
      go_wp2_with fail
      go_ret
      exact ⟨rfl, rfl⟩

/-- a byte on the highest bits -/
theorem hi_int (b : UInt8) : (hi b).toNat = b.toNat * 16777216 := by
  unfold hi
  rw [BitVec.toNat_shiftLeft, BitVec.toNat_ofNat, Nat.shiftLeft_eq]
  have := b.toNat_lt; omega

theorem take_snoc (s : ByteArray) (k : Nat) (h : k < s.size) : s.data.toList.take (k + 1) = s.data.toList.take k ++ [s[k]] := by
  rw [List.take_succ_eq_append_getElem (by simpa using h)]; rfl

theorem run_snoc (r : BitVec 32) (s : ByteArray) (k : Nat) (h : k < s.size) : run r (s.data.toList.take (k + 1)) = on (run r (s.data.toList.take k)) s[k] := by
  rw [take_snoc s k h, run, List.foldl_append]; rfl

theorem run_all (r : BitVec 32) (s : ByteArray) : run r (s.data.toList.take s.size) = run r s.data.toList := by
  rw [List.take_of_length_le (by simp)]

/-- the table as it lies in memory -/
def Tab (w : World) (B : Nat) : Prop := ∀ j, j < 256 → w.cell? ⟨B, j, none⟩ = some (.int .u32 ((tab j).toNat : Int))

theorem shl8_int (r : BitVec 32) : ((r <<< 8).toNat : Int) = (r.toNat : Int) * 256 % 4294967296 := by
  rw [BitVec.toNat_shiftLeft, Nat.shiftLeft_eq]; omega
theorem idx_int (r : BitVec 32) (b : UInt8) : ∃ j : Nat, bits .xor .u8 ((r.toNat : Int) / 16777216) (b.toNat : Int) = (j : Int) ∧ j < 256 ∧ on r b = (r <<< 8) ^^^ tab j := by
  have h1 : (r >>> 24).toNat = r.toNat / 16777216 := by rw [BitVec.toNat_ushiftRight, Nat.shiftRight_eq_div_pow]
  have h2 : r.toNat / 16777216 < 256 := by have := r.isLt; omega
  refine ⟨(r.toNat / 16777216) ^^^ b.toNat, ?_, Nat.xor_lt_two_pow (n := 8) h2 b.toNat_lt, by rw [on_tab, h1]⟩
  rw [show (r.toNat : Int) / 16777216 = ((r.toNat / 16777216 : Nat) : Int) from rfl, u8_xor_nat _ _ h2 b.toNat_lt]

theorem move_any (B : Nat) (x : Int) (r : BitVec 32) (s : ByteArray) (w : World) (hs : s.size ≤ 140737488351232) (hx : x = (r.toNat : Int)) (hT : Tab w B) :
    Calls Tryd.prog 42 #[.pointer (some ⟨B, 0, none⟩), .int .u32 x, .string s] w fun e w' => e = .returned (.int .u32 ((run r s.data.toList).toNat : Int)) ∧ ∃ n, w' = w.drewN n := by
  go_enter Tryd.func42, Tryd.ntmps42
  go_wp2_with fail
  go_loopw [1, 10] (fun v i w' => ∃ k : Nat, k ≤ s.size ∧ v = .int .u32 ((run r (s.data.toList.take k)).toNat : Int) ∧ i = .int .i64 k ∧ ∃ n, w' = w.drewN n) (fun _ i _ => s.size - (intOf i).toNat)
  case atStart => exact ⟨0, by omega, by rw [hx]; rfl, rfl, 0, rfl⟩
  case round =>
    obtain ⟨k, hk, rfl, rfl, n, rfl⟩ := hrel
    have hX := (run r (s.data.toList.take k)).isLt
    by_cases hlt : k < s.size
    · obtain ⟨j, hj, hj1, hon⟩ := idx_int (run r (s.data.toList.take k)) s[k]
      have hc : w.cell? ⟨B, j, none⟩ = some (.int .u32 ((tab j).toNat : Int)) := hT j hj1
      have hst : bits .xor .u32 (((run r (s.data.toList.take k)).toNat : Int) * 256 % 4294967296) ((tab j).toNat : Int) = ((run r (s.data.toList.take (k + 1))).toNat : Int) := by
        rw [xor_int (run r (s.data.toList.take k) <<< 8) (tab j) _ _ (shl8_int _).symm rfl, run_snoc _ s k hlt, hon]
      have HS := Lib.hid hst
      clear hst hon
      go_wp2_with fail
      go_quiet (fail)
      go_wp2_with fail
      go_roundw
      case rel => exact ⟨k + 1, by omega, by rw [HS.out], by go_num, _, rfl⟩
      case measure => simp [intOf]; omega
    · obtain rfl : k = s.size := by omega
      go_wp2_with fail
      go_ret
      exact ⟨ret_int (by rw [run_all]), _, rfl⟩

/-- texts one behind the other -/
def cat (S : Nat → ByteArray) (k : Nat) : List UInt8 := (List.range k).flatMap fun i => (S i).data.toList
theorem cat_succ (S : Nat → ByteArray) (k : Nat) : cat S (k + 1) = cat S k ++ (S k).data.toList := by
  simp [cat, List.range_succ]
theorem run_cat (r : BitVec 32) (S : Nat → ByteArray) (k : Nat) : run r (cat S (k + 1)) = run (run r (cat S k)) (S k).data.toList := by
  rw [cat_succ, run, List.foldl_append]; rfl

theorem xones_int (r : BitVec 32) : bits .xor .u32 (r.toNat : Int) 4294967295 = ((r ^^^ ones).toNat : Int) := xor_int r ones _ _ rfl (by decide)

theorem sum_any (B b off n cap : Nat) (S : Nat → ByteArray) (w : World) (hn : n ≤ 140737488351232) (hT : Tab w B)
    (hc : ∀ i, i < n → w.cell? ⟨b, off + i, none⟩ = some (.string (S i))) (hs : ∀ i, i < n → (S i).size ≤ 140737488351232) :
    Calls Tryd.prog 37 #[.pointer (some ⟨B, 0, none⟩), .slice (some ⟨b, off, none⟩) n cap] w fun e w' => e = .returned (.int .u32 ((sum (cat S n)).toNat : Int)) ∧ ∃ q, w' = w.drewN q := by
  have HT := Lib.hid hT
  have HC := Lib.hid hc
  have HS := Lib.hid hs
  clear hT hc hs
  go_enter Tryd.func37, Tryd.ntmps37
  go_wp2_with fail
  go_loopw [5, 10] (fun v i w' => ∃ k : Nat, k ≤ n ∧ v = .int .u32 ((run ones (cat S k)).toNat : Int) ∧ i = .int .i64 k ∧ ∃ q, w' = w.drewN q) (fun _ i _ => n - (intOf i).toNat)
  case atStart => exact ⟨0, by omega, rfl, rfl, 0, rfl⟩
  case round =>
    obtain ⟨k, hk, rfl, rfl, q, rfl⟩ := hrel
    by_cases hlt : k < n
    · have hck := HC.out k hlt
      go_wp2_with fail
      refine (move_any B _ (run ones (cat S k)) (S k) _ (HS.out k hlt) rfl (fun j hj => by simpa using HT.out j hj)).mono ?_; rintro e w' ⟨rfl, q', rfl⟩
      go_wp2_with fail
      go_roundw
      case rel => exact ⟨k + 1, by omega, by rw [run_cat], by go_num, _, rfl⟩
      case measure => simp [intOf]; omega
    · obtain rfl : k = n := by omega
      go_wp2_with fail
      go_ret
      exact ⟨ret_int (by rw [xones_int]; rfl), _, rfl⟩

theorem sum_none (B : Nat) (w : World) :
    Calls Tryd.prog 37 #[.pointer (some ⟨B, 0, none⟩), .slice none 0 0] w fun e w' => e = .returned (.int .u32 ((sum []).toNat : Int)) ∧ ∃ q, w' = w.drewN q := by
  go_enter Tryd.func37, Tryd.ntmps37
  go_wp2_with fail
  refine wp_loop_rounds 1 ?_
  rw [rounds_succ]
  go_wp2_with fail
  go_ret
  exact ⟨ret_int (by decide), 0, rfl⟩

/-! ### a sum's bytes -/
theorem conv4 (w : World) (a b c d : Int) : (convert 67 9 (.slice (some ⟨w.heap.size, 0, none⟩) 4 4)).run Tryd.prog (w.alloc (.cells #[.int .u8 a, .int .u8 b, .int .u8 c, .int .u8 d] 5)) = .ok (.string (strOfNums [a, b, c, d])) (w.alloc (.cells #[.int .u8 a, .int .u8 b, .int .u8 c, .int .u8 d] 5)) := by
  refine run_convert_bytes_arg _ _ _ Tryd.underlying67 Tryd.underlying5 _ _ _ _ [a, b, c, d] rfl ?_ _ Tryd.underlying9
  intro i hi
  rw [Nat.zero_add, World.cell?_alloc_at _ _ _ _ rfl]
  match i, hi with
  | 0, _ | 1, _ | 2, _ | 3, _ => rfl

theorem byte_int (x : BitVec 32) (n : Int) (h : n = ((x.toNat % 256 : Nat) : Int)) : UInt8.ofNat n.toNat = byte x := by
  rw [h, byte]
  apply UInt8.toNat_inj.1
  rw [UInt8.toNat_ofNat', UInt8.toNat_ofNat', Int.toNat_natCast]
  omega

theorem word_str (r : BitVec 32) (a b c d : Int) (ha : a = (r.toNat / 16777216 : Nat)) (hb : b = (r.toNat / 65536 % 256 : Nat)) (hc : c = (r.toNat / 256 % 256 : Nat)) (hd : d = (r.toNat % 256 : Nat)) :
    strOfNums [a, b, c, d] = ⟨(word r).toArray⟩ := by
  have hr := r.isLt
  unfold strOfNums word
  simp only [List.map_cons, List.map_nil]
  rw [byte_int (r >>> 24) a (by rw [BitVec.toNat_ushiftRight, Nat.shiftRight_eq_div_pow]; omega),
    byte_int (r >>> 16) b (by rw [BitVec.toNat_ushiftRight, Nat.shiftRight_eq_div_pow]; omega),
    byte_int (r >>> 8) c (by rw [BitVec.toNat_ushiftRight, Nat.shiftRight_eq_div_pow]; omega),
    byte_int r d (by omega)]

def wordB (r : BitVec 32) : ByteArray := ⟨(word r).toArray⟩
theorem wordB_size (r : BitVec 32) : (wordB r).size = 4 := rfl
theorem wordB_list (r : BitVec 32) : (wordB r).data.toList = word r := rfl

theorem word_any (x : Int) (r : BitVec 32) (w : World) (hx : x = (r.toNat : Int)) :
    Calls Tryd.prog 36 #[.int .u32 x] w fun e w' => e = .returned (.string (wordB r)) ∧ Below w.heap.size w w' := by
  have hr := r.isLt
  have hc := conv4
  go_enter Tryd.func36, Tryd.ntmps36
  go_wp2_with fail
  go_ret
  exact ⟨congrArg (fun x => Ending.returned (.string x)) (word_str r _ _ _ _ (by omega) (by omega) (by omega) (by omega)), (Below.refl _ _).alloc (Nat.le_refl _) _⟩

end Go.Proofs.YtaappdaolenkiaaDoor.CrcCalls
