/-
  How many numbers a set has.
-/
import Derived.Test.YtdnikjjcgoilfaaSpanSmall
namespace Go.Proofs.Ytdnikjjcgoilfaa.SpanCalls
open Go.RowKit SpanMath View

set_option maxRecDepth 100000 in
/-- how many numbers -/
theorem len_any (a : Option Addr) (n cap : Nat) (S : List Sp) (w : World) (h : RdS w a n S) (hs : Small S) (hn : Norm S) :
    Calls Try.prog 28 #[.slice a n cap] w fun e w' => e = .returned (.int .i64 ((nums S).length : Int)) ∧ Below w.heap.size w w' := by
  have HL := Lib.hid h
  have HS := Lib.hid hs
  have HN := Lib.hid hn
  have hn1 : n ≤ 1000 := by rw [h.1]; exact hs.1
  clear h hs hn
  go_enter Try.func28, Try.ntmps28
  go_wp2_with fail
  go_loopw [3, 8] (fun t i wr => ∃ k : Nat, k ≤ n ∧ i = .int .i64 k ∧ t = .int .i64 ((nums (S.take k)).length : Int) ∧ Below w.heap.size w wr) (fun _ i _ => n - (intOf i).toNat)
  case atStart => exact ⟨0, Nat.zero_le _, rfl, rfl, Below.refl _ _⟩
  case round =>
    obtain ⟨k, hk, rfl, rfl, hb⟩ := hrel
    have hle : (nums (S.take k)).length ≤ 800 * k + 800 := by
      have hl := HL.out.1
      have : (nums (S.take k)).length ≤ (nums S).length := by
        conv => rhs; rw [← List.take_append_drop k S, nums_append, List.length_append]
        omega
      have := small_len HS.out HN.out
      omega
    by_cases hlt : k < n
    · obtain ⟨b, off, rfl, _, hc1, hc2⟩ := (HL.out.below hb).at_ hlt
      have hl : k < S.length := by have := HL.out.1; omega
      have ht := nums_take S k hl
      obtain ⟨y, hy⟩ : ∃ y, S.getD k (0, 0) = y := ⟨_, rfl⟩
      have hmem : y ∈ S := by rw [← hy]; simp [List.getD, hl]
      have hyb := HS.out.2 y hmem
      have hyn := HN.out.2 y hmem
      rw [hy] at hc1 hc2 ht
      obtain ⟨t, htt⟩ : ∃ t, (nums (S.take k)).length = t := ⟨_, rfl⟩
      have HT : Hid ((nums (S.take (k + 1))).length = t + (y.2 - y.1).toNat) := Lib.hid (by rw [ht, List.length_append, run_len, htt])
      rw [htt] at hle ⊢
      obtain ⟨y1, y2⟩ := y
      simp only at hyb hyn hc1 hc2 HT
      obtain ⟨b1, b2, b3, b4⟩ := hyb
      clear hy ht htt hmem
      have hsz := hb.size
      go_wp2_with fail
      go_roundw
      case rel => exact ⟨k + 1, by omega, by go_num, by rw [HT.out]; go_num, hb.alloc hsz _⟩
      case measure => simp [intOf]; omega
    · have hP : (nums (S.take k)).length = (nums S).length := by rw [List.take_of_length_le (by have := HL.out.1; omega)]
      rw [hP]
      clear hP
      go_wp2_with fail
      go_ret
      exact ⟨rfl, hb⟩
end Go.Proofs.Ytdnikjjcgoilfaa.SpanCalls
