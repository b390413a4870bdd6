/-
  The document's own words on lists of numbers: is one there, and are two the same.
-/
import Derived.Test.YtdnikjjcgoilfaaView
import Derived.BigQuiet
import Derived.Deep.QuietTactic
namespace Go.Proofs.Ytdnikjjcgoilfaa.Ref
open Go.RowKit SpanMath View

theorem not_take {L : List Int} {k : Nat} {x : Int} (hk : k < L.length) (h : x ∉ L.take k) (hx : L.getD k 0 ≠ x) : x ∉ L.take (k + 1) := by
  rw [take_succ' L 0 k hk, List.mem_append]
  rintro (h' | h')
  · exact h h'
  · simp only [List.mem_cons, List.not_mem_nil, or_false] at h'
    exact hx h'.symm
theorem getD_mem {L : List Int} {k : Nat} (hk : k < L.length) : L.getD k 0 ∈ L := by
  simp [List.getD, hk]

theorem rhas_any (a : Option Addr) (n cap : Nat) (L : List Int) (x : Int) (w : World) (h : RdI w a n L) (hn : n ≤ 1000000) :
    Calls Try.prog 43 #[.slice a n cap, .int .i64 x] w fun e w' => e = .returned (.bool (decide (x ∈ L))) ∧ w = w' := by
  have HL := Lib.hid h
  clear h
  go_enter Try.func43, Try.ntmps43
  go_wp2_with fail
  go_loop [9] (fun i => ∃ k : Nat, k ≤ n ∧ i = .int .i64 k ∧ Hid (x ∉ L.take k)) (fun i => n - (intOf i).toNat)
  case atStart => exact ⟨0, Nat.zero_le _, rfl, by simp [Hid]⟩
  case round =>
    obtain ⟨k, hk, rfl, hno⟩ := hrel
    by_cases hlt : k < n
    · obtain ⟨b, off, rfl, _, hc⟩ := HL.out.at_ hlt
      have hl : k < L.length := by have := HL.out.1; omega
      obtain ⟨y, hy⟩ : ∃ y, L.getD k 0 = y := ⟨_, rfl⟩
      rw [hy] at hc
      have HY := Lib.hid hy
      clear hy
      by_cases hx : y = x
      · subst hx
        go_wp2_with fail
        go_ret
        exact ⟨congrArg (fun b => Ending.returned (.bool b)) (decide_eq_true (by rw [← HY.out]; exact getD_mem hl)).symm, rfl⟩
      · have hx2 : (y == x) = false := by simpa using hx
        go_wp2_with fail
        go_round
        case rel => exact ⟨k + 1, by omega, by go_num, Lib.hid (not_take hl hno.out (by rw [HY.out]; exact hx))⟩
        case measure => simp [intOf]; omega
    · go_wp2_with fail
      go_ret
      refine ⟨congrArg (fun b => Ending.returned (.bool b)) (decide_eq_false ?_).symm, rfl⟩
      have h1 := hno.out
      rw [List.take_of_length_le (by have := HL.out.1; omega)] at h1
      exact h1

theorem same_step {L M : List Int} {k : Nat} (hl : k < L.length) (hm : k < M.length) (h : L.take k = M.take k) (he : L.getD k 0 = M.getD k 0) : L.take (k + 1) = M.take (k + 1) := by
  rw [take_succ' L 0 k hl, take_succ' M 0 k hm, h, he]
theorem same_ne {L M : List Int} {k : Nat} (he : L.getD k 0 ≠ M.getD k 0) : L ≠ M := by
  rintro rfl; exact he rfl

theorem rsame_any (a : Option Addr) (n cap : Nat) (L : List Int) (a' : Option Addr) (n' cap' : Nat) (M : List Int) (w : World) (h : RdI w a n L) (h' : RdI w a' n' M) (hn : n ≤ 1000000) (hn' : n' ≤ 1000000) :
    Calls Try.prog 19 #[.slice a n cap, .slice a' n' cap'] w fun e w' => e = .returned (.bool (decide (L = M))) ∧ Below w.heap.size w w' := by
  have HL := Lib.hid h
  have HM := Lib.hid h'
  clear h h'
  by_cases hnn : n = n'
  · subst hnn
    go_enter Try.func19, Try.ntmps19
    go_wp2_with fail
    go_loopw [13] (fun i wr => ∃ k : Nat, k ≤ n ∧ i = .int .i64 k ∧ Below w.heap.size w wr ∧ Hid (L.take k = M.take k)) (fun i _ => n - (intOf i).toNat)
    case atStart => exact ⟨0, Nat.zero_le _, rfl, Below.refl _ _, by simp [Hid]⟩
    case round =>
      obtain ⟨k, hk, rfl, hb, hsame⟩ := hrel
      by_cases hlt : k < n
      · obtain ⟨b, off, rfl, _, hc⟩ := (HL.out.below hb).at_ hlt
        obtain ⟨b', off', rfl, _, hc'⟩ := (HM.out.below hb).at_ hlt
        have hl : k < L.length := by have := HL.out.1; omega
        have hm : k < M.length := by have := HM.out.1; omega
        obtain ⟨y, hy⟩ : ∃ y, L.getD k 0 = y := ⟨_, rfl⟩
        obtain ⟨z, hz⟩ : ∃ z, M.getD k 0 = z := ⟨_, rfl⟩
        rw [hy] at hc
        rw [hz] at hc'
        have HY := Lib.hid hy
        have HZ := Lib.hid hz
        clear hy hz
        by_cases hx : y = z
        · subst hx
          go_wp2_with fail
          go_quiet (fail)
          go_wp2_with fail
          go_roundw
          case rel => exact ⟨k + 1, by omega, by go_num, below_drewN hb _, Lib.hid (same_step hl hm hsame.out (by rw [HY.out, HZ.out]))⟩
          case measure => simp [intOf]; omega
        · have hx2 : (y == z) = false := by simpa using hx
          have hx3 : (y != z) = true := by simpa using hx
          go_wp2_with fail
          go_quiet (fail)
          go_wp2_with fail
          go_ret
          exact ⟨congrArg (fun b => Ending.returned (.bool b)) (decide_eq_false (same_ne (by rw [HY.out, HZ.out]; exact hx))).symm, below_drewN hb _⟩
      · go_wp2_with fail
        go_ret
        refine ⟨congrArg (fun b => Ending.returned (.bool b)) (decide_eq_true ?_).symm, hb⟩
        have h1 := hsame.out
        rw [List.take_of_length_le (by have := HL.out.1; omega), List.take_of_length_le (by have := HM.out.1; omega)] at h1
        exact h1
  · go_enter Try.func19, Try.ntmps19
    go_wp2_with fail
    go_ret
    refine ⟨congrArg (fun b => Ending.returned (.bool b)) (decide_eq_false ?_).symm, Below.refl _ _⟩
    rintro rfl
    exact hnn (HL.out.1.trans HM.out.1.symm)
end Go.Proofs.Ytdnikjjcgoilfaa.Ref
