/-
  A text with bits turned, told bit by bit: the program's and the document's are one.
-/
import Derived.Test.YtaappdaolenkiaaDoorCrcTurn
import Derived.Test.YtaappdaolenkiaaDoorFrameRef
namespace Go.Proofs.YtaappdaolenkiaaDoor.FrameCalls
open Go.ChangeShapes Go.WideShapes Go.RowKit CrcMath CrcCalls FrameMath

def onB (mask at_ : Int) (n k : Nat) : Prop := bits .and .u32 (mask / 2 ^ (31 - k)) 1 = 1 ∧ 0 ≤ at_ + (k : Int) ∧ at_ + (k : Int) < 8 * (n : Int)
instance (mask at_ : Int) (n k : Nat) : Decidable (onB mask at_ n k) := by unfold onB; infer_instance
def turnN (s : List UInt8) (mask at_ : Int) : Nat → List UInt8
  | 0 => s
  | k + 1 => if onB mask at_ s.length k then flip (turnN s mask at_ k) (at_ + (k : Int)).toNat else turnN s mask at_ k
theorem turnN_length (s : List UInt8) (mask at_ : Int) (k : Nat) : (turnN s mask at_ k).length = s.length := by
  induction k with
  | zero => rfl
  | succ k ih =>
    unfold turnN
    split
    · rw [flip_length, ih]
    · exact ih
theorem turnN_yes (s : List UInt8) (mask at_ : Int) (k m : Nat) (h : onB mask at_ s.length k) (hm : at_ + (k : Int) = (m : Int)) : turnN s mask at_ (k + 1) = flip (turnN s mask at_ k) m := by
  rw [turnN, if_pos h, hm, Int.toNat_natCast]
theorem turnN_no (s : List UInt8) (mask at_ : Int) (k : Nat) (h : ¬ onB mask at_ s.length k) : turnN s mask at_ (k + 1) = turnN s mask at_ k := by
  rw [turnN, if_neg h]
def turnB (s : ByteArray) (mask at_ : Int) : ByteArray := ⟨(turnN s.data.toList mask at_ 32).toArray⟩
theorem turnB_size (s : ByteArray) (mask at_ : Int) : (turnB s mask at_).size = s.size := turnN_length s.data.toList mask at_ 32

theorem flip_bit_same (L : List UInt8) (m : Nat) (h : m / 8 < L.length) : bitAt (flip L m) m = !bitAt L m := by
  have h8 : m % 8 < 8 := Nat.mod_lt _ (by omega)
  have hlt : 2 ^ (7 - m % 8) < 256 := Nat.lt_of_le_of_lt (Nat.pow_le_pow_right (by omega) (by omega : 7 - m % 8 ≤ 7)) (by decide)
  have e : (L.set (m / 8) (UInt8.ofNat ((L.getD (m / 8) 0).toNat ^^^ 2 ^ (7 - m % 8)))).getD (m / 8) 0 = UInt8.ofNat ((L.getD (m / 8) 0).toNat ^^^ 2 ^ (7 - m % 8)) := by
    simp [List.getD, h]
  unfold bitAt CrcCalls.flip
  rw [e, UInt8.toNat_ofNat', Nat.mod_eq_of_lt (Nat.xor_lt_two_pow (n := 8) (L.getD (m / 8) 0).toNat_lt hlt), Nat.testBit_xor, Nat.testBit_two_pow_self]
  simp

def sel (mask at_ : Int) (n k j : Nat) : Bool := decide (0 ≤ (j : Int) - at_ ∧ (j : Int) - at_ < (k : Int) ∧ onB mask at_ n ((j : Int) - at_).toNat)
theorem turn_bit (s : List UInt8) (mask at_ : Int) (k j : Nat) (hj : j < 8 * s.length) : bitAt (turnN s mask at_ k) j = ((bitAt s j) ^^ (sel mask at_ s.length k j)) := by
  induction k with
  | zero =>
    have : sel mask at_ s.length 0 j = false := by unfold sel; rw [decide_eq_false_iff_not]; rintro ⟨h1, h2, _⟩; omega
    rw [this, Bool.xor_false]; rfl
  | succ k ih =>
    by_cases hk : (j : Int) - at_ = (k : Int)
    · have hkn : ((j : Int) - at_).toNat = k := by omega
      have h0 : sel mask at_ s.length k j = false := by unfold sel; rw [decide_eq_false_iff_not]; rintro ⟨h1, h2, _⟩; omega
      rw [h0, Bool.xor_false] at ih
      by_cases ho : onB mask at_ s.length k
      · have h1 : sel mask at_ s.length (k + 1) j = true := by unfold sel; rw [decide_eq_true_iff, hkn]; exact ⟨by omega, by omega, ho⟩
        rw [turnN_yes s mask at_ k j ho (by omega), flip_bit_same _ _ (by rw [turnN_length]; omega), ih, h1]
        simp
      · have h1 : sel mask at_ s.length (k + 1) j = false := by unfold sel; rw [decide_eq_false_iff_not, hkn]; rintro ⟨_, _, h⟩; exact ho h
        rw [turnN_no s mask at_ k ho, ih, h1]; simp
    · have h1 : sel mask at_ s.length (k + 1) j = sel mask at_ s.length k j := by
        unfold sel
        rw [Bool.eq_iff_iff, decide_eq_true_iff, decide_eq_true_iff]
        constructor <;> rintro ⟨h1, h2, h3⟩ <;> exact ⟨h1, by omega, h3⟩
      rw [h1, ← ih]
      by_cases ho : onB mask at_ s.length k
      · obtain ⟨m, hm⟩ : ∃ m : Nat, at_ + (k : Int) = (m : Int) := ⟨(at_ + (k : Int)).toNat, by have := ho.2.1; omega⟩
        rw [turnN_yes s mask at_ k m ho hm, flip_bit _ _ _ (by omega)]
      · rw [turnN_no s mask at_ k ho]

theorem turn_twice (s : List UInt8) (mask at_ : Int) : turnN (turnN s mask at_ 32) mask at_ 32 = s := by
  refine eq_of_bits _ _ (by rw [turnN_length, turnN_length]) (fun j hj => ?_)
  rw [turnN_length, turnN_length] at hj
  rw [turn_bit _ _ _ _ _ (by rw [turnN_length]; exact hj), turn_bit _ _ _ _ _ hj, turnN_length, Bool.xor_assoc, Bool.xor_self, Bool.xor_false]

theorem turn_out (s : List UInt8) (mask at_ : Int) (j : Nat) (hj : j < 8 * s.length) (h : j < (max at_ 0).toNat ∨ (max at_ 0).toNat + 32 ≤ j) : bitAt (turnN s mask at_ 32) j = bitAt s j := by
  rw [turn_bit s mask at_ 32 j hj]
  have : sel mask at_ s.length 32 j = false := by
    unfold sel; rw [decide_eq_false_iff_not]
    rintro ⟨h1, h2, _⟩
    omega
  rw [this, Bool.xor_false]

theorem turn_fits (l : List UInt8) (mask at_ : Int) : fits (turnN (seal_ l) mask at_ 32) = decide (turnN (seal_ l) mask at_ 32 = seal_ l) :=
  burst l _ (max at_ 0).toNat (turnN_length _ _ _ _) (fun k hk hout => turn_out _ _ _ _ (by rw [turnN_length] at hk; exact hk) hout)

theorem turnB_twice (s : ByteArray) (mask at_ : Int) : turnB (turnB s mask at_) mask at_ = s := by
  apply ByteArray.ext; apply Array.ext'
  exact turn_twice s.data.toList mask at_

/-- a frame with bits turned, that isn't the frame, is told -/
theorem parse_turned (u : UInt8) (d : ByteArray) (mask at_ : Int) (h : (turnB (frameB u d) mask at_).toList ≠ (frameB u d).toList) : parseL (turnB (frameB u d) mask at_).data.toList = (0, [], 4) := by
  have hl : (turnB (frameB u d) mask at_).data.toList.length = 48 * cellsN d.size := by
    rw [size_list, turnB_size]; exact frameL_length u d.data.toList
  have hr := cellsN_room d.size
  have hf : fits (turnB (frameB u d) mask at_).data.toList = false := by
    have h2 := turn_fits (bodyL u d.data.toList) mask at_
    have h3 : (turnB (frameB u d) mask at_).data.toList = turnN (seal_ (bodyL u d.data.toList)) mask at_ 32 := rfl
    rw [h3, h2, decide_eq_false_iff_not]
    intro e
    apply h
    rw [ByteArray.toList_eq, ByteArray.toList_eq, h3, e]
    rfl
  unfold parseL
  rw [if_neg (by
    rintro (e | e)
    · rw [e] at hl; simp at hl; omega
    · rw [hl] at e; omega), if_pos hf]
end Go.Proofs.YtaappdaolenkiaaDoor.FrameCalls
