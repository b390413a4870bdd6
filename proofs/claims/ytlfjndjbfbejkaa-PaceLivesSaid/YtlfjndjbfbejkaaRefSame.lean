/-
  The document's own words on lists of numbers: are two the same.
-/
import Derived.Test.YtlfjndjbfbejkaaViewR
import Derived.BigQuiet
import Derived.Deep.QuietTactic
namespace Go.Proofs.Ytlfjndjbfbejkaa.Ref
open Go.RowKit View

theorem same_step {L M : List Int} {k : Nat} (hl : k < L.length) (hm : k < M.length) (h : L.take k = M.take k) (he : L.getD k 0 = M.getD k 0) : L.take (k + 1) = M.take (k + 1) := by
  rw [take_succ' L 0 k hl, take_succ' M 0 k hm, h, he]
theorem same_ne {L M : List Int} {k : Nat} (he : L.getD k 0 ≠ M.getD k 0) : L ≠ M := by
  rintro rfl; exact he rfl

theorem rsame_any (a : Option Addr) (n cap : Nat) (L : List Int) (a' : Option Addr) (n' cap' : Nat) (M : List Int) (w : World) (h : RdI w a n L) (h' : RdI w a' n' M) (hn : n ≤ 1000000) (hn' : n' ≤ 1000000) :
    Calls Try.prog 38 #[.slice a n cap, .slice a' n' cap'] w fun e w' => e = .returned (.bool (decide (L = M))) ∧ Below w.heap.size w w' := by
  have HL := Lib.hid h
  have HM := Lib.hid h'
  clear h h'
  by_cases hnn : n = n'
  · subst hnn
    go_enter Try.func38, Try.ntmps38
    go_wp2_with fail
    go_loopw [13] (fun i wr => ∃ k : Nat, k ≤ n ∧ i = .int .i64 k ∧ Below w.heap.size w wr ∧ Hid (L.take k = M.take k)) (fun i _ => n - (intOf i).toNat)
    case atStart => exact ⟨0, Nat.zero_le _, rfl, Below.refl _ _, by simp [Hid]⟩
    case round =>
      obtain ⟨k, hk, rfl, hb, hsame⟩ := hrel
      by_cases hlt : k < n
      · obtain ⟨b, off, rfl, _, hc⟩ := (HL.out.below hb).at_ hlt
        obtain ⟨b', off', rfl, _, hc'⟩ := (HM.out.below hb).at_ hlt
        have hl : k < L.length := by have := HL.out.1; omega
        have hm : k < M.length := by have := HM.out.1; omega
        obtain ⟨y, hy⟩ : ∃ y, L.getD k 0 = y := ⟨_, rfl⟩
        obtain ⟨z, hz⟩ : ∃ z, M.getD k 0 = z := ⟨_, rfl⟩
        rw [hy] at hc
        rw [hz] at hc'
        have HY := Lib.hid hy
        have HZ := Lib.hid hz
        clear hy hz
        by_cases hx : y = z
        · subst hx
          go_wp2_with fail
          go_quiet (fail)
          go_wp2_with fail
          go_roundw
          case rel => exact ⟨k + 1, by omega, by go_num, below_drewN hb _, Lib.hid (same_step hl hm hsame.out (by rw [HY.out, HZ.out]))⟩
          case measure => simp [intOf]; omega
        · have hx2 : (y == z) = false := by simpa using hx
          have hx3 : (y != z) = true := by simpa using hx
          go_wp2_with fail
          go_quiet (fail)
          go_wp2_with fail
          go_ret
          exact ⟨congrArg (fun b => Ending.returned (.bool b)) (decide_eq_false (same_ne (by rw [HY.out, HZ.out]; exact hx))).symm, below_drewN hb _⟩
      · go_wp2_with fail
        go_ret
        refine ⟨congrArg (fun b => Ending.returned (.bool b)) (decide_eq_true ?_).symm, hb⟩
        have h1 := hsame.out
        rw [List.take_of_length_le (by have := HL.out.1; omega), List.take_of_length_le (by have := HM.out.1; omega)] at h1
        exact h1
  · go_enter Try.func38, Try.ntmps38
    go_wp2_with fail
    go_ret
    refine ⟨congrArg (fun b => Ending.returned (.bool b)) (decide_eq_false ?_).symm, Below.refl _ _⟩
    rintro rfl
    exact hnn (HL.out.1.trans HM.out.1.symm)
end Go.Proofs.Ytlfjndjbfbejkaa.Ref
