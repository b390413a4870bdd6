/-
  Frames, as lists of bytes: what a frame's bytes are, and what bytes are a frame's.
-/
import Derived.Test.YtoeoigclleijmaaCrcMath
import Derived.Lib.TrimByte
namespace Go.Proofs.Ytoeoigclleijmaa.FrameMath
open CrcMath

def cellsI (n : Int) : Int := if n ≤ 0 then 1 else (n + 55) / 48
def cellsN (n : Nat) : Nat := (n + 55) / 48
theorem cellsI_nat (n : Nat) : cellsI (n : Int) = (cellsN n : Int) := by
  unfold cellsI cellsN
  split
  · obtain rfl : n = 0 := by omega
    decide
  · omega
def padN (n : Nat) : Nat := 48 * cellsN n - 8 - n
theorem cellsN_room (n : Nat) : n + 8 ≤ 48 * cellsN n ∧ 48 * cellsN n < n + 56 := by unfold cellsN; omega
def tail4 (u : UInt8) (n : Nat) : List UInt8 := [u, 0, UInt8.ofNat (n / 256), UInt8.ofNat n]
def bodyL (u : UInt8) (d : List UInt8) : List UInt8 := d ++ List.replicate (padN d.length) 0 ++ tail4 u d.length
def frameL (u : UInt8) (d : List UInt8) : List UInt8 := seal_ (bodyL u d)
theorem word_length (x : BitVec 32) : (word x).length = 4 := rfl
theorem bodyL_length (u : UInt8) (d : List UInt8) : (bodyL u d).length + 4 = 48 * cellsN d.length := by
  have := cellsN_room d.length
  simp only [bodyL, tail4, padN, List.length_append, List.length_replicate, List.length_cons, List.length_nil]
  omega
theorem frameL_length (u : UInt8) (d : List UInt8) : (frameL u d).length = 48 * cellsN d.length := by
  rw [frameL, seal_, List.length_append, word_length, bodyL_length]

def num2 (a b : UInt8) : Nat := a.toNat * 256 + b.toNat
/-- what is told of any bytes: user, data, the error's number -/
def parseL (s : List UInt8) : UInt8 × List UInt8 × Int :=
  if s = [] ∨ s.length % 48 ≠ 0 then (0, [], 5)
  else if fits s = false then (0, [], 4)
  else
    let e := s.length - 8
    let n := num2 (s.getD (e + 2) 0) (s.getD (e + 3) 0)
    if 48 * cellsN n ≠ s.length then (0, [], 5)
    else if ((s.drop n).take (e - n)).all (· == 0) = false ∨ s.getD (e + 1) 0 ≠ 0 then (0, [], 3)
    else (s.getD e 0, s.take n, 0)

theorem all_zero_replicate : ∀ (l : List UInt8), l.all (· == 0) = true ↔ l = List.replicate l.length 0
  | [] => by simp
  | x :: l => by
    simp only [List.all_cons, Bool.and_eq_true, beq_iff_eq, List.length_cons, List.replicate_succ, List.cons.injEq]
    rw [all_zero_replicate l]

theorem num2_lt (a b : UInt8) : num2 a b < 65536 := by
  have := a.toNat_lt; have := b.toNat_lt; unfold num2; omega
theorem ofNat_num2_hi (a b : UInt8) : UInt8.ofNat (num2 a b / 256) = a := by
  have := a.toNat_lt; have := b.toNat_lt
  apply UInt8.toNat_inj.1
  rw [UInt8.toNat_ofNat']
  unfold num2; omega
theorem ofNat_num2_lo (a b : UInt8) : UInt8.ofNat (num2 a b) = b := by
  have := a.toNat_lt; have := b.toNat_lt
  apply UInt8.toNat_inj.1
  rw [UInt8.toNat_ofNat']
  unfold num2; omega
theorem num2_of (n : Nat) (h : n < 65536) : num2 (UInt8.ofNat (n / 256)) (UInt8.ofNat n) = n := by
  unfold num2
  rw [UInt8.toNat_ofNat', UInt8.toNat_ofNat']; omega

/-- a text that fits, in its parts -/
theorem parts4 (s : List UInt8) (h8 : 8 ≤ s.length) : s.take (s.length - 4) = s.take (s.length - 8) ++ [s.getD (s.length - 8) 0, s.getD (s.length - 8 + 1) 0, s.getD (s.length - 8 + 2) 0, s.getD (s.length - 8 + 3) 0] := by
  obtain ⟨m, hm⟩ : ∃ m, s.length = m + 8 := ⟨s.length - 8, by omega⟩
  rw [hm, show m + 8 - 4 = m + 4 by omega, show m + 8 - 8 = m by omega, List.take_add]
  congr 1
  rw [List.drop_eq_getElem_cons (by omega), List.drop_eq_getElem_cons (by omega), List.drop_eq_getElem_cons (by omega), List.drop_eq_getElem_cons (by omega)]
  simp only [List.take_succ_cons, List.take_zero]
  simp [List.getD, show m < s.length by omega, show m + 1 < s.length by omega, show m + 2 < s.length by omega, show m + 3 < s.length by omega]

theorem fits_parts (s : List UInt8) (h : fits s = true) : s = seal_ (s.take (s.length - 4)) := by
  unfold fits at h
  rw [decide_eq_true_iff] at h
  conv => lhs; rw [← List.take_append_drop (s.length - 4) s, h.2]
  rfl

/-- the bytes are those of the frame that they tell, just if what should be nought is -/
theorem frame_eq (s : List UInt8) (n : Nat) (hf : fits s = true) (h8 : 8 ≤ s.length) (hn : n = num2 (s.getD (s.length - 8 + 2) 0) (s.getD (s.length - 8 + 3) 0)) (hc : 48 * cellsN n = s.length) :
    frameL (s.getD (s.length - 8) 0) (s.take n) = s ↔ (((s.drop n).take (s.length - 8 - n)).all (· == 0) = true ∧ s.getD (s.length - 8 + 1) 0 = 0) := by
  have hr := cellsN_room n
  have hl : (s.take n).length = n := by rw [List.length_take]; omega
  have hp : padN n = s.length - 8 - n := by unfold padN; rw [hc]
  have e1 : s.take (s.length - 8) = s.take n ++ (s.drop n).take (s.length - 8 - n) := by
    conv => lhs; rw [show s.length - 8 = n + (s.length - 8 - n) by omega, List.take_add]
  have hzl : ((s.drop n).take (s.length - 8 - n)).length = s.length - 8 - n := by rw [List.length_take, List.length_drop]; omega
  have key : frameL (s.getD (s.length - 8) 0) (s.take n) = s ↔ bodyL (s.getD (s.length - 8) 0) (s.take n) = s.take (s.length - 4) := by
    constructor
    · intro h
      have h2 := fits_parts s hf
      have h3 : seal_ (bodyL (s.getD (s.length - 8) 0) (s.take n)) = seal_ (s.take (s.length - 4)) := by rw [← h2]; exact h
      unfold seal_ at h3
      exact (List.append_inj' h3 rfl).1
    · intro h
      unfold frameL
      rw [h]
      exact (fits_parts s hf).symm
  rw [key, parts4 s h8, e1, bodyL, hl, hp, tail4, List.append_assoc, List.append_assoc, List.append_cancel_left_eq]
  rw [all_zero_replicate, hzl]
  constructor
  · intro h
    have h2 := List.append_inj h (by rw [hzl, List.length_replicate])
    refine ⟨h2.1.symm, ?_⟩
    have := h2.2
    simp only [List.cons.injEq] at this
    exact this.2.1.symm
  · rintro ⟨h1, h2⟩
    rw [h1, h2, hn, ofNat_num2_hi, ofNat_num2_lo]

theorem frameL_fits (u : UInt8) (d : List UInt8) : fits (frameL u d) = true := fits_seal _

theorem getD_frame (u : UInt8) (d : List UInt8) (j : Nat) (h : j < 4) : (frameL u d).getD ((frameL u d).length - 8 + j) 0 = (tail4 u d.length).getD j 0 := by
  have hb := bodyL_length u d
  have hl := frameL_length u d
  have hr := cellsN_room d.length
  have : (frameL u d).length - 8 + j = (d ++ List.replicate (padN d.length) 0).length + j := by
    simp only [List.length_append, List.length_replicate, hl, padN]; omega
  rw [this, frameL, seal_, bodyL, List.append_assoc, List.getD_eq_getElem?_getD, List.getElem?_append_right (by omega), Nat.add_sub_cancel_left, List.getElem?_append_left (by simp [tail4]; omega), List.getD_eq_getElem?_getD]

/-- a frame's bytes come back -/
theorem parse_frame (u : UInt8) (d : List UInt8) (h : d.length ≤ 65535) : parseL (frameL u d) = (u, d, 0) := by
  have hl := frameL_length u d
  have hr := cellsN_room d.length
  have e2 := getD_frame u d 2 (by omega)
  have e3 := getD_frame u d 3 (by omega)
  have e1 := getD_frame u d 1 (by omega)
  have e0 := getD_frame u d 0 (by omega)
  simp only [Nat.add_zero] at e0
  have hn : num2 ((frameL u d).getD ((frameL u d).length - 8 + 2) 0) ((frameL u d).getD ((frameL u d).length - 8 + 3) 0) = d.length := by
    rw [e2, e3]; exact num2_of _ (by omega)
  have ht : (frameL u d).take d.length = d := by
    rw [frameL, seal_, bodyL, List.append_assoc, List.append_assoc, List.take_left]
  have hz : (((frameL u d).drop d.length).take ((frameL u d).length - 8 - d.length)).all (· == 0) = true := by
    have : (frameL u d).length - 8 - d.length = padN d.length := by rw [hl]; rfl
    rw [this, frameL, seal_, bodyL, List.append_assoc, List.append_assoc, List.drop_left, List.take_append_of_le_length (by simp), List.take_of_length_le (by simp)]
    simp
  unfold parseL
  rw [if_neg (by
    rintro (h | h)
    · rw [h] at hl; simp at hl; omega
    · rw [hl] at h; omega), frameL_fits, if_neg (by simp)]
  simp only []
  rw [hn, if_neg (by rw [hl]; simp), hz, e1, e0, ht, if_neg (by simp [tail4])]
  rfl

/-- unlike frames have unlike bytes -/
theorem frameL_inj (u v : UInt8) (a b : List UInt8) (ha : a.length ≤ 65535) (hb : b.length ≤ 65535) : frameL u a = frameL v b ↔ (u = v ∧ a = b) := by
  constructor
  · intro h
    have h1 := parse_frame u a ha
    rw [h, parse_frame v b hb] at h1
    simp only [Prod.mk.injEq] at h1
    exact ⟨h1.1.symm, h1.2.1.symm⟩
  · rintro ⟨rfl, rfl⟩; rfl

theorem trim_zero (l : List UInt8) : (Go.Lib.trimB l 0 = []) ↔ l.all (· == 0) = true := by
  have h1 : ∀ l : List UInt8, l.dropWhile (· == 0) = [] ↔ ∀ x ∈ l, x = 0 := fun l => by
    induction l with
    | nil => simp
    | cons x l ih =>
      by_cases hx : x = 0
      · simp [hx, ih]
      · simp [hx]
  unfold Go.Lib.trimB Go.Lib.trimLeftB Go.Lib.trimRightB
  rw [h1, List.all_eq_true]
  constructor
  · intro h
    by_cases he : l.reverse.dropWhile (· == 0) = []
    · rw [h1] at he
      intro x hx
      simpa using he x (by simpa using hx)
    · exfalso
      obtain ⟨y, r, hy⟩ := List.exists_cons_of_ne_nil he
      have hz := List.head_dropWhile_not (p := (· == (0 : UInt8))) (l := l.reverse) he
      have : y = 0 := h y (by rw [hy]; simp)
      simp [hy, this] at hz
  · intro h x hx
    have : x ∈ l.reverse := (List.dropWhile_sublist _).mem (by simpa using hx)
    simpa using h x (by simpa using this)
end Go.Proofs.Ytoeoigclleijmaa.FrameMath
