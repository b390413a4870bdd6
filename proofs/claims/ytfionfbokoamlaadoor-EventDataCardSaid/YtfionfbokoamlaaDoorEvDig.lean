/-
  Events: numbers in decimal.
-/
import Derived.Test.YtfionfbokoamlaaDoorEvRHex
import Derived.Lib.ItoaLen
import Derived.Lib.ItoaMem
namespace Go.Proofs.YtfionfbokoamlaaDoor.Ev
open Go.ChangeShapes Go.WideShapes Go.RowKit Own

theorem str_dig (r : Nat) (h : r < 10) : strOfNums [48 + (r : Int)] = ⟨[UInt8.ofNat (48 + r)].toArray⟩ := by
  unfold strOfNums
  rw [List.map_cons, List.map_nil, show (48 + (r : Int)).toNat = 48 + r by omega]
/-- what is left of a number's digits -/
def leftD (m : Nat) (first : Bool) : List UInt8 := if m = 0 ∧ first = false then [] else Lib.decDigits m
theorem left_step (m : Nat) (first : Bool) (h : 0 < m ∨ first = true) : leftD m first = leftD (m / 10) false ++ [UInt8.ofNat (48 + m % 10)] := by
  unfold leftD
  rw [if_neg (by rintro ⟨h1, h2⟩; subst h2; simp at h; omega)]
  by_cases h10 : m < 10
  · rw [Lib.decDigits_one h10, if_pos ⟨by omega, rfl⟩, show m % 10 = m by omega]; rfl
  · rw [if_neg (by omega)]
    conv => lhs; rw [Lib.decDigits, dif_neg h10]

theorem rdigits_neg (N : Nat) (w : World) (h1 : 1 ≤ N) (h2 : N ≤ 9223372036854775808) :
    Calls Tryd.prog 23 #[.int .i64 (-(N : Int))] w fun e w' => e = .returned (.string ⟨(45 :: Lib.decDigits N).toArray⟩) ∧ Below w.heap.size w w' := by
  have hlen : (Lib.decDigits N).length ≤ 20 := by rw [Lib.decDigits_length]; exact Lib.nDigits_le20 N (by omega)
  have HLEN := Lib.hid hlen
  have hc := conv1
  clear hlen
  have hN : -(N : Int) < 0 := by omega
  have hN2 : -9223372036854775808 ≤ -(N : Int) := by omega
  have HN := Lib.hid h2
  have HN1 := Lib.hid h1
  have hN0 : 0 < N := h1
  clear h1 h2
  go_enter Tryd.func23, Tryd.ntmps23
  go_wp2_with fail
  go_loopw [0, 3] (fun n v wr => ∃ (m : Nat) (S : List UInt8), m ≤ N ∧ n = .int .i64 (-(m : Int)) ∧ v = .string ⟨S.toArray⟩ ∧ Lib.decDigits N = leftD m false ++ S ∧ Below w.heap.size w wr) (fun n _ _ => (-(intOf n)).toNat)
  case atStart => exact ⟨N, [], Nat.le_refl _, rfl, rfl, by unfold leftD; rw [if_neg (by have := HN1.out; omega), List.append_nil], Below.refl _ _⟩
  case round =>
    obtain ⟨m, S, hm, rfl, rfl, hD, hbr⟩ := hrel
    have hsr := hbr.size
    have hS : S.length ≤ 20 := by have := HLEN.out; rw [hD, List.length_append] at this; omega
    have HS := Lib.hid hS
    have HD := Lib.hid hD
    have HNN := HN.out
    have hm2 : -9223372036854775808 ≤ -(m : Int) := by omega
    have HM := Lib.hid hm
    clear hD hS hN hN2 HNN hm
    by_cases h0 : 0 < m
    · obtain ⟨r, hr, hr2⟩ : ∃ r : Nat, (-(m : Int)).tmod 10 = -(r : Int) ∧ r = m % 10 := ⟨m % 10, by rw [Int.neg_tmod, Int.tmod_eq_emod_of_nonneg (by omega)]; omega, rfl⟩
      obtain ⟨d, hd, hd2⟩ : ∃ d : Nat, (-(m : Int)).tdiv 10 = -(d : Int) ∧ d = m / 10 := ⟨m / 10, by rw [Int.neg_tdiv, Int.tdiv_eq_ediv_of_nonneg (by omega)]; omega, rfl⟩
      have hr3 : (r : Int) < 10 := by omega
      have hd3 : -9223372036854775808 ≤ -(d : Int) := by omega
      have hlt : -(m : Int) < 0 := by omega
      have HSTEP : Hid (leftD m false = leftD d false ++ [UInt8.ofNat (48 + r)]) := Lib.hid (by rw [hr2, hd2]; exact left_step m false (Or.inl h0))
      have HDM : Hid (d < m) := Lib.hid (by omega)
      clear hr2 hd2 h0
      go_wp2_with fail
      all_goals first
        | (exfalso; have h1 := HS.out; have h3 := str1_size (48 + (r : Int)); omega)
        | go_roundw
      case rel =>
        exact ⟨d, _, Nat.le_trans (Nat.le_of_lt HDM.out) HM.out, rfl, by rw [str_dig r (by omega), cat_str], by rw [HD.out, HSTEP.out, List.append_assoc], hbr.alloc hsr _⟩
      case measure => simp [intOf]; have := HDM.out; omega
    · obtain rfl : m = 0 := by omega
      clear hc hm2 h0
      have hD2 : Lib.decDigits N = S := by rw [HD.out]; rfl
      have HD2 := Lib.hid hD2
      clear hD2
      go_wp2_with fail
      all_goals first
        | (exfalso; have h1 := HS.out; omega)
        | (go_ret
           refine ⟨ret_str ?_, hbr⟩
           rw [HD2.out]
           exact cat_str [45] S)

theorem rdigits_pos (N : Nat) (w : World) (h2 : N ≤ 9223372036854775807) :
    Calls Tryd.prog 23 #[.int .i64 (N : Int)] w fun e w' => e = .returned (.string ⟨(Lib.decDigits N).toArray⟩) ∧ Below w.heap.size w w' := by
  have hlen : (Lib.decDigits N).length ≤ 20 := by rw [Lib.decDigits_length]; exact Lib.nDigits_le20 N (by omega)
  have HLEN := Lib.hid hlen
  have hc := conv1
  clear hlen
  have HN := Lib.hid h2
  have hN0 : (0 : Int) ≤ (N : Int) := by omega
  clear h2
  go_enter Tryd.func23, Tryd.ntmps23
  go_wp2_with fail
  go_loopw [0, 4, 5] (fun n v i wr => ∃ (m : Nat) (S : List UInt8) (k : Nat), m ≤ N ∧ n = .int .i64 (m : Int) ∧ v = .string ⟨S.toArray⟩ ∧ i = .int .i64 (k : Int) ∧ k = S.length ∧ Lib.decDigits N = leftD m (decide (k = 0)) ++ S ∧ Below w.heap.size w wr) (fun n _ i _ => if intOf i = 0 then (intOf n).toNat + 1 else (intOf n).toNat)
  case atStart => exact ⟨N, [], 0, Nat.le_refl _, rfl, rfl, rfl, rfl, by unfold leftD; rw [if_neg (by simp), List.append_nil], Below.refl _ _⟩
  case round =>
    obtain ⟨m, S, k, hm, rfl, rfl, rfl, hk, hD, hbr⟩ := hrel
    have hsr := hbr.size
    have hS : S.length ≤ 20 := by have := HLEN.out; rw [hD, List.length_append] at this; omega
    have hk20 : (k : Int) ≤ 20 := by omega
    have HS := Lib.hid hS
    have HD := Lib.hid hD
    have HK := Lib.hid hk
    have HNN := HN.out
    have hm2 : (m : Int) ≤ 9223372036854775807 := by omega
    have HM := Lib.hid hm
    clear hD hS hN0 HNN hm hk
    by_cases h0 : 0 < m ∨ k = 0
    · obtain ⟨r, hr, hr2⟩ : ∃ r : Nat, (m : Int).tmod 10 = (r : Int) ∧ r = m % 10 := ⟨m % 10, by rw [Int.tmod_eq_emod_of_nonneg (by omega)]; omega, rfl⟩
      obtain ⟨d, hd, hd2⟩ : ∃ d : Nat, (m : Int).tdiv 10 = (d : Int) ∧ d = m / 10 := ⟨m / 10, by rw [Int.tdiv_eq_ediv_of_nonneg (by omega)]; omega, rfl⟩
      have hr3 : (r : Int) < 10 := by omega
      have hd3 : (d : Int) ≤ 9223372036854775807 := by omega
      have HSTEP : Hid (leftD m (decide (k = 0)) = leftD d false ++ [UInt8.ofNat (48 + r)]) := Lib.hid (by rw [hr2, hd2]; exact left_step m _ (by simpa using h0))
      have HDM : Hid (d < m ∨ (k = 0 ∧ d = 0 ∧ m = 0)) := Lib.hid (by omega)
      have H0 := Lib.hid h0
      clear hr2 hd2
      rcases h0 with h0 | h0
      all_goals go_wp2_with fail
      all_goals first
        | (exfalso; have h1 := HS.out; have h3 := str1_size (48 + (r : Int)); omega)
        | (exfalso; omega)
        | go_roundw
      all_goals first
        | exact ⟨d, _, S.length + 1, by have := HDM.out; have := HM.out; omega, rfl, by rw [str_dig r (by omega), cat_str], congrArg (Value.int .i64) (by have := HK.out; omega), rfl, by rw [HD.out, HSTEP.out, List.append_assoc, decide_eq_false (by omega)], hbr.alloc hsr _⟩
        | (have h1 := HDM.out; have h2 := HK.out; have h3 := H0.out; simp [intOf, show ¬ (k : Int) + 1 = 0 by omega]
           first | omega | (split <;> omega))
    · obtain rfl : m = 0 := by omega
      have hk0 : 0 < k := by omega
      have hk1 : ((0 : Nat) : Int) < (k : Int) := by omega
      have hD2 : Lib.decDigits N = S := by rw [HD.out, decide_eq_false (by omega)]; rfl
      have HD2 := Lib.hid hD2
      clear hD2 hc h0
      go_wp2_with fail
      all_goals first
        | (go_ret
           exact ⟨by rw [HD2.out]; rfl, hbr⟩)
        | (exfalso; omega)

theorem rdigits_any (n : Int) (w : World) (h1 : -9223372036854775808 ≤ n) (h2 : n ≤ 9223372036854775807) :
    Calls Tryd.prog 23 #[.int .i64 n] w fun e w' => e = .returned (.string ⟨(Lib.itoa n).toArray⟩) ∧ Below w.heap.size w w' := by
  by_cases h : 0 ≤ n
  · obtain ⟨N, rfl⟩ : ∃ N : Nat, n = (N : Int) := ⟨n.toNat, by omega⟩
    rw [Lib.itoa_nonneg]
    exact rdigits_pos N w (by omega)
  · obtain ⟨N, rfl, hN⟩ : ∃ N : Nat, n = -(N : Int) ∧ 1 ≤ N := ⟨n.natAbs, by omega, by omega⟩
    rw [Lib.itoa_neg N hN]
    exact rdigits_neg N w hN (by omega)
end Go.Proofs.YtfionfbokoamlaaDoor.Ev
