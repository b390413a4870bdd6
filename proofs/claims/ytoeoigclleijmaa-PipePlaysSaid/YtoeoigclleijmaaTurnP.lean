/-
  A text with bits turned, told bit by bit: the program's and the document's are one.
-/
import Derived.Test.YtoeoigclleijmaaCrcTurn
import Derived.Test.YtoeoigclleijmaaFrameMath
import Derived.Lib.Hide
namespace Go.Proofs.Ytoeoigclleijmaa.TurnP
open Go.ChangeShapes Go.WideShapes Go.RowKit CrcMath CrcCalls FrameMath

def onB (mask at_ : Int) (n k : Nat) : Prop := bits .and .u32 (mask / 2 ^ (31 - k)) 1 = 1 ∧ 0 ≤ at_ + (k : Int) ∧ at_ + (k : Int) < 8 * (n : Int)
instance (mask at_ : Int) (n k : Nat) : Decidable (onB mask at_ n k) := by unfold onB; infer_instance
def turnN (s : List UInt8) (mask at_ : Int) : Nat → List UInt8
  | 0 => s
  | k + 1 => if onB mask at_ s.length k then flip (turnN s mask at_ k) (at_ + (k : Int)).toNat else turnN s mask at_ k
theorem turnN_length (s : List UInt8) (mask at_ : Int) (k : Nat) : (turnN s mask at_ k).length = s.length := by
  induction k with
  | zero => rfl
  | succ k ih =>
    unfold turnN
    split
    · rw [flip_length, ih]
    · exact ih
theorem turnN_yes (s : List UInt8) (mask at_ : Int) (k m : Nat) (h : onB mask at_ s.length k) (hm : at_ + (k : Int) = (m : Int)) : turnN s mask at_ (k + 1) = flip (turnN s mask at_ k) m := by
  rw [turnN, if_pos h, hm, Int.toNat_natCast]
theorem turnN_no (s : List UInt8) (mask at_ : Int) (k : Nat) (h : ¬ onB mask at_ s.length k) : turnN s mask at_ (k + 1) = turnN s mask at_ k := by
  rw [turnN, if_neg h]
def turnB (s : ByteArray) (mask at_ : Int) : ByteArray := ⟨(turnN s.data.toList mask at_ 32).toArray⟩
theorem turnB_size (s : ByteArray) (mask at_ : Int) : (turnB s mask at_).size = s.size := turnN_length s.data.toList mask at_ 32

set_option maxHeartbeats 1000000 in
theorem turnf_any (s : ByteArray) (at_ : Int) (mask : Int) (w : World) (hs : s.size ≤ 1000) (hat1 : -1000 ≤ at_) (hat : at_ ≤ 100000) (hm1 : 0 ≤ mask) (hm2 : mask < 4294967296) :
    Calls Try.prog 12 #[.string s, .int .i64 at_, .int .u32 mask] w fun e w' => e = .returned (.string (turnB s mask at_)) ∧ Below w.heap.size w w' := by
  have hcv := conv_run
  have HM1 := Lib.hid hm1
  have HM2 := Lib.hid hm2
  go_enter Try.func12, Try.ntmps12
  go_wp2_with fail
  have hB := Lib.hid (row_bytes w s)
  have hb0 : Below w.heap.size w ((w.alloc (.cells (row w s) 5 ((row w s).size, (row w s).size + 1))).drew) := ((Below.refl _ _).alloc (Nat.le_refl _) _).drew
  have hsz0 : w.heap.size + 1 = ((w.alloc (.cells (row w s) 5 ((row w s).size, (row w s).size + 1))).drew).heap.size := by simp
  have hz := Lib.hid hsz0
  clear hsz0 hcv
  generalize (w.alloc (.cells (row w s) 5 ((row w s).size, (row w s).size + 1))).drew = w0 at *
  generalize rowCap w s = cap
  generalize hBw : w.heap.size = B at *
  have HBW := Lib.hid hBw
  clear hBw
  go_loopw [12] (fun i wr => ∃ (k : Nat), k ≤ 32 ∧ i = .int .i64 k ∧ Hid (Bytes wr B (turnN s.data.toList mask at_ k)) ∧ Below B w wr ∧ B < wr.heap.size) (fun i _ => 32 - (intOf i).toNat)
  case atStart => exact ⟨0, by omega, rfl, hB, hb0, by have := hz.out; omega⟩
  case round =>
    obtain ⟨k, hk, rfl, HL, hb, hBs⟩ := hrel
    have hL0 := turnN_length s.data.toList mask at_ k
    have hN : turnN s.data.toList mask at_ (k + 1) = turnN s.data.toList mask at_ (k + 1) := rfl
    have hno : ¬ onB mask at_ s.size k → turnN s.data.toList mask at_ (k + 1) = turnN s.data.toList mask at_ k := turnN_no s.data.toList mask at_ k
    have hyes : ∀ m : Nat, onB mask at_ s.size k → at_ + (k : Int) = (m : Int) → turnN s.data.toList mask at_ (k + 1) = flip (turnN s.data.toList mask at_ k) m := fun m => turnN_yes s.data.toList mask at_ k m
    have HNO := Lib.hid hno
    have HYES := Lib.hid hyes
    obtain ⟨L', hL'⟩ : ∃ L', turnN s.data.toList mask at_ (k + 1) = L' := ⟨_, rfl⟩
    have HL' := Lib.hid hL'
    rw [hL'] at HNO HYES
    obtain ⟨L, hLL⟩ : ∃ L, turnN s.data.toList mask at_ k = L := ⟨_, rfl⟩
    rw [hLL] at HL HNO HYES hL0
    have HLL := Lib.hid hLL
    have hL : L.length = s.size := hL0
    clear hno hyes hN hL' hLL hL0
    by_cases hlt : k < 32
    · go_wp2_with fail
      · obtain ⟨m, hm⟩ : ∃ m : Nat, at_ + (k : Int) = (m : Int) := ⟨(at_ + (k : Int)).toNat, by omega⟩
        have HF := Lib.hid (HYES.out m (by unfold onB; exact ⟨by assumption, by omega, by omega⟩) hm)
        have hlt8 : (m : Int) < 8 * (s.size : Int) := by omega
        have hi : m / 8 < L.length := by omega
        obtain ⟨hc, hf⟩ := HL.out (m / 8) hi
        have hi2 : (m : Int) / 8 < (s.size : Int) := by omega
        have hi0 : (0 : Int) ≤ (m : Int) / 8 := by omega
        have hm5 : (m : Int) ≤ 200000 := by omega
        obtain ⟨x, hx⟩ : ∃ x : UInt8, L[m / 8] = x := ⟨_, rfl⟩
        rw [hx] at hc
        rw [hm]
        go_region
        go_wp2_with fail
        go_roundw
        case rel =>
          refine ⟨k + 1, by omega, by go_num, ?_, (hb.setCell (Nat.le_refl _) _).drew, by simpa using hBs⟩
          rw [HL'.out, HF.out]
          exact Lib.hid (bytes_flip HL.out m hi x hx)
        case measure => simp [intOf]; omega
      all_goals (
        go_roundw
        case rel =>
          refine ⟨k + 1, by omega, by go_num, ?_, hb, hBs⟩
          rw [HL'.out, HNO.out (by unfold onB; rintro ⟨h1, h2, h3⟩; first | omega | simp_all)]
          exact HL
        case measure => simp [intOf]; omega)
    · obtain rfl : k = 32 := by omega
      have hcb := run_convert_bytes_back (P := Try.prog) wr 58 9 5 ⟨B, 0, none⟩ cap L Try.underlying58 Try.underlying5 Try.underlying9 (fun j hj => by rw [add_plain, Nat.zero_add]; exact (HL.out j hj).1)
      rw [hL] at hcb
      obtain ⟨X, hX⟩ : ∃ X, (⟨L.toArray⟩ : ByteArray) = X := ⟨_, rfl⟩
      rw [hX] at hcb
      have HX := Lib.hid hX
      clear hX
      go_wp2_with fail
      go_ret
      exact ⟨by rw [← HX.out, ← HLL.out]; rfl, by rw [HBW.out]; exact hb⟩

set_option maxHeartbeats 1000000 in
theorem flipf_any (s : ByteArray) (at_ : Int) (mask : Int) (w : World) (hs : s.size ≤ 1000) (hat1 : -1000 ≤ at_) (hat : at_ ≤ 100000) (hm1 : 0 ≤ mask) (hm2 : mask < 4294967296) :
    Calls Try.prog 26 #[.string s, .int .i64 at_, .int .u32 mask] w fun e w' => e = .returned (.string (turnB s mask at_)) ∧ Below w.heap.size w w' := by
  have hcv := conv_run
  have HM1 := Lib.hid hm1
  have HM2 := Lib.hid hm2
  go_enter Try.func26, Try.ntmps26
  go_wp2_with fail
  have hB := Lib.hid (row_bytes w s)
  have hb0 : Below w.heap.size w ((w.alloc (.cells (row w s) 5 ((row w s).size, (row w s).size + 1))).drew) := ((Below.refl _ _).alloc (Nat.le_refl _) _).drew
  have hsz0 : w.heap.size + 1 = ((w.alloc (.cells (row w s) 5 ((row w s).size, (row w s).size + 1))).drew).heap.size := by simp
  have hz := Lib.hid hsz0
  clear hsz0 hcv
  generalize (w.alloc (.cells (row w s) 5 ((row w s).size, (row w s).size + 1))).drew = w0 at *
  generalize rowCap w s = cap
  generalize hBw : w.heap.size = B at *
  have HBW := Lib.hid hBw
  clear hBw
  go_loopw [12] (fun i wr => ∃ (k : Nat), k ≤ 32 ∧ i = .int .i64 k ∧ Hid (Bytes wr B (turnN s.data.toList mask at_ k)) ∧ Below B w wr ∧ B < wr.heap.size) (fun i _ => 32 - (intOf i).toNat)
  case atStart => exact ⟨0, by omega, rfl, hB, hb0, by have := hz.out; omega⟩
  case round =>
    obtain ⟨k, hk, rfl, HL, hb, hBs⟩ := hrel
    have hL0 := turnN_length s.data.toList mask at_ k
    have hN : turnN s.data.toList mask at_ (k + 1) = turnN s.data.toList mask at_ (k + 1) := rfl
    have hno : ¬ onB mask at_ s.size k → turnN s.data.toList mask at_ (k + 1) = turnN s.data.toList mask at_ k := turnN_no s.data.toList mask at_ k
    have hyes : ∀ m : Nat, onB mask at_ s.size k → at_ + (k : Int) = (m : Int) → turnN s.data.toList mask at_ (k + 1) = flip (turnN s.data.toList mask at_ k) m := fun m => turnN_yes s.data.toList mask at_ k m
    have HNO := Lib.hid hno
    have HYES := Lib.hid hyes
    obtain ⟨L', hL'⟩ : ∃ L', turnN s.data.toList mask at_ (k + 1) = L' := ⟨_, rfl⟩
    have HL' := Lib.hid hL'
    rw [hL'] at HNO HYES
    obtain ⟨L, hLL⟩ : ∃ L, turnN s.data.toList mask at_ k = L := ⟨_, rfl⟩
    rw [hLL] at HL HNO HYES hL0
    have HLL := Lib.hid hLL
    have hL : L.length = s.size := hL0
    clear hno hyes hN hL' hLL hL0
    by_cases hlt : k < 32
    · go_wp2_with fail
      · obtain ⟨m, hm⟩ : ∃ m : Nat, at_ + (k : Int) = (m : Int) := ⟨(at_ + (k : Int)).toNat, by omega⟩
        have HF := Lib.hid (HYES.out m (by unfold onB; exact ⟨by assumption, by omega, by omega⟩) hm)
        have hlt8 : (m : Int) < 8 * (s.size : Int) := by omega
        have hi : m / 8 < L.length := by omega
        obtain ⟨hc, hf⟩ := HL.out (m / 8) hi
        have hi2 : (m : Int) / 8 < (s.size : Int) := by omega
        have hi0 : (0 : Int) ≤ (m : Int) / 8 := by omega
        have hm5 : (m : Int) ≤ 200000 := by omega
        obtain ⟨x, hx⟩ : ∃ x : UInt8, L[m / 8] = x := ⟨_, rfl⟩
        rw [hx] at hc
        rw [hm]
        go_region
        go_wp2_with fail
        go_roundw
        case rel =>
          refine ⟨k + 1, by omega, by go_num, ?_, (hb.setCell (Nat.le_refl _) _).drew, by simpa using hBs⟩
          rw [HL'.out, HF.out]
          exact Lib.hid (bytes_flip HL.out m hi x hx)
        case measure => simp [intOf]; omega
      all_goals (
        go_roundw
        case rel =>
          refine ⟨k + 1, by omega, by go_num, ?_, hb, hBs⟩
          rw [HL'.out, HNO.out (by unfold onB; rintro ⟨h1, h2, h3⟩; first | omega | simp_all)]
          exact HL
        case measure => simp [intOf]; omega)
    · obtain rfl : k = 32 := by omega
      have hcb := run_convert_bytes_back (P := Try.prog) wr 58 9 5 ⟨B, 0, none⟩ cap L Try.underlying58 Try.underlying5 Try.underlying9 (fun j hj => by rw [add_plain, Nat.zero_add]; exact (HL.out j hj).1)
      rw [hL] at hcb
      obtain ⟨X, hX⟩ : ∃ X, (⟨L.toArray⟩ : ByteArray) = X := ⟨_, rfl⟩
      rw [hX] at hcb
      have HX := Lib.hid hX
      clear hX
      go_wp2_with fail
      go_ret
      exact ⟨by rw [← HX.out, ← HLL.out]; rfl, by rw [HBW.out]; exact hb⟩

theorem flip_bit_same (L : List UInt8) (m : Nat) (h : m / 8 < L.length) : bitAt (flip L m) m = !bitAt L m := by
  have h8 : m % 8 < 8 := Nat.mod_lt _ (by omega)
  have hlt : 2 ^ (7 - m % 8) < 256 := Nat.lt_of_le_of_lt (Nat.pow_le_pow_right (by omega) (by omega : 7 - m % 8 ≤ 7)) (by decide)
  have e : (L.set (m / 8) (UInt8.ofNat ((L.getD (m / 8) 0).toNat ^^^ 2 ^ (7 - m % 8)))).getD (m / 8) 0 = UInt8.ofNat ((L.getD (m / 8) 0).toNat ^^^ 2 ^ (7 - m % 8)) := by
    simp [List.getD, h]
  unfold bitAt CrcCalls.flip
  rw [e, UInt8.toNat_ofNat', Nat.mod_eq_of_lt (Nat.xor_lt_two_pow (n := 8) (L.getD (m / 8) 0).toNat_lt hlt), Nat.testBit_xor, Nat.testBit_two_pow_self]
  simp

def sel (mask at_ : Int) (n k j : Nat) : Bool := decide (0 ≤ (j : Int) - at_ ∧ (j : Int) - at_ < (k : Int) ∧ onB mask at_ n ((j : Int) - at_).toNat)
theorem turn_bit (s : List UInt8) (mask at_ : Int) (k j : Nat) (hj : j < 8 * s.length) : bitAt (turnN s mask at_ k) j = ((bitAt s j) ^^ (sel mask at_ s.length k j)) := by
  induction k with
  | zero =>
    have : sel mask at_ s.length 0 j = false := by unfold sel; rw [decide_eq_false_iff_not]; rintro ⟨h1, h2, _⟩; omega
    rw [this, Bool.xor_false]; rfl
  | succ k ih =>
    by_cases hk : (j : Int) - at_ = (k : Int)
    · have hkn : ((j : Int) - at_).toNat = k := by omega
      have h0 : sel mask at_ s.length k j = false := by unfold sel; rw [decide_eq_false_iff_not]; rintro ⟨h1, h2, _⟩; omega
      rw [h0, Bool.xor_false] at ih
      by_cases ho : onB mask at_ s.length k
      · have h1 : sel mask at_ s.length (k + 1) j = true := by unfold sel; rw [decide_eq_true_iff, hkn]; exact ⟨by omega, by omega, ho⟩
        rw [turnN_yes s mask at_ k j ho (by omega), flip_bit_same _ _ (by rw [turnN_length]; omega), ih, h1]
        simp
      · have h1 : sel mask at_ s.length (k + 1) j = false := by unfold sel; rw [decide_eq_false_iff_not, hkn]; rintro ⟨_, _, h⟩; exact ho h
        rw [turnN_no s mask at_ k ho, ih, h1]; simp
    · have h1 : sel mask at_ s.length (k + 1) j = sel mask at_ s.length k j := by
        unfold sel
        rw [Bool.eq_iff_iff, decide_eq_true_iff, decide_eq_true_iff]
        constructor <;> rintro ⟨h1, h2, h3⟩ <;> exact ⟨h1, by omega, h3⟩
      rw [h1, ← ih]
      by_cases ho : onB mask at_ s.length k
      · obtain ⟨m, hm⟩ : ∃ m : Nat, at_ + (k : Int) = (m : Int) := ⟨(at_ + (k : Int)).toNat, by have := ho.2.1; omega⟩
        rw [turnN_yes s mask at_ k m ho hm, flip_bit _ _ _ (by omega)]
      · rw [turnN_no s mask at_ k ho]

theorem turn_twice (s : List UInt8) (mask at_ : Int) : turnN (turnN s mask at_ 32) mask at_ 32 = s := by
  refine eq_of_bits _ _ (by rw [turnN_length, turnN_length]) (fun j hj => ?_)
  rw [turnN_length, turnN_length] at hj
  rw [turn_bit _ _ _ _ _ (by rw [turnN_length]; exact hj), turn_bit _ _ _ _ _ hj, turnN_length, Bool.xor_assoc, Bool.xor_self, Bool.xor_false]

theorem turn_out (s : List UInt8) (mask at_ : Int) (j : Nat) (hj : j < 8 * s.length) (h : j < (max at_ 0).toNat ∨ (max at_ 0).toNat + 32 ≤ j) : bitAt (turnN s mask at_ 32) j = bitAt s j := by
  rw [turn_bit s mask at_ 32 j hj]
  have : sel mask at_ s.length 32 j = false := by
    unfold sel; rw [decide_eq_false_iff_not]
    rintro ⟨h1, h2, _⟩
    omega
  rw [this, Bool.xor_false]

theorem turn_fits (l : List UInt8) (mask at_ : Int) : fits (turnN (seal_ l) mask at_ 32) = decide (turnN (seal_ l) mask at_ 32 = seal_ l) :=
  burst l _ (max at_ 0).toNat (turnN_length _ _ _ _) (fun k hk hout => turn_out _ _ _ _ (by rw [turnN_length] at hk; exact hk) hout)

theorem turnB_twice (s : ByteArray) (mask at_ : Int) : turnB (turnB s mask at_) mask at_ = s := by
  apply ByteArray.ext; apply Array.ext'
  exact turn_twice s.data.toList mask at_

end Go.Proofs.Ytoeoigclleijmaa.TurnP
