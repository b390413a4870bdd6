/-
  Are two sets the same.
-/
import Derived.Test.YtpmbhbaajnimaaaSpanList
import Derived.BigQuiet
import Derived.Deep.QuietTactic
namespace Go.Proofs.Ytpmbhbaajnimaaa.SpanCalls
open Go.RowKit SpanMath View

/-! ### the same -/
theorem neqSp (x1 x2 y1 y2 : Int) (w : World) : (binOp .neq 25 (.agg #[.int .i64 x1, .int .i64 x2]) (.agg #[.int .i64 y1, .int .i64 y2])).run Try.prog w = .ok (.bool (!(x1 == y1 && x2 == y2))) w := by
  have u3 := Try.underlying3
  have a3 := Try.isAgg3
  have z3 := Try.sizeOf3
  have hS : Try.prog.underlying 25 = some (.struct (Try.prog.fieldsOf 25)) := by kernel_rfl
  have hp : Try.prog.stoodInHeld 25 = false := by kernel_rfl
  rw [run_neq_struct, show (10000 : Nat) = 9999 + 1 from rfl, run_equalIn_agg w 9999 25 _ _ hS hp]
  simp only [Program.fieldsOf, Try.underlying25]
  go_simp
  by_cases h1 : x1 = y1 <;> by_cases h2 : x2 = y2 <;> simp [h1, h2]
theorem guardSp (op : BinOp) (a b : Operand) (xs ys : Array Value) (w : World) : (eqGuard op 25 a b (.agg xs) (.agg ys)).run Try.prog w = .ok () w :=
  run_eqGuard_agg w op 25 a b xs ys (by kernel_rfl)

theorem same_stepS {L M : List Sp} {k : Nat} (hl : k < L.length) (hm : k < M.length) (h : L.take k = M.take k) (he : L.getD k (0, 0) = M.getD k (0, 0)) : L.take (k + 1) = M.take (k + 1) := by
  rw [take_succ' L (0, 0) k hl, take_succ' M (0, 0) k hm, h, he]

set_option maxHeartbeats 1000000 in
theorem equal_any (a : Option Addr) (n cap : Nat) (S : List Sp) (a' : Option Addr) (n' cap' : Nat) (T : List Sp) (w : World) (h : RdS w a n S) (h' : RdS w a' n' T) (hn : n ≤ 100000) (hn' : n' ≤ 100000) :
    Calls Try.prog 19 #[.slice a n cap, .slice a' n' cap'] w fun e w' => e = .returned (.bool (decide (S = T))) ∧ Below w.heap.size w w' := by
  have HL := Lib.hid h
  have HM := Lib.hid h'
  clear h h'
  by_cases hnn : n = n'
  · subst hnn
    go_enter Try.func19, Try.ntmps19
    go_wp2_with fail
    go_loopw [13] (fun i wr => ∃ k : Nat, k ≤ n ∧ i = .int .i64 k ∧ Below w.heap.size w wr ∧ Hid (S.take k = T.take k)) (fun i _ => n - (intOf i).toNat)
    case atStart => exact ⟨0, Nat.zero_le _, rfl, Below.refl _ _, by simp [Hid]⟩
    case round =>
      obtain ⟨k, hk, rfl, hb, hsame⟩ := hrel
      by_cases hlt : k < n
      · obtain ⟨b, off, rfl, _, hc1, hc2⟩ := (HL.out.below hb).at_ hlt
        obtain ⟨b', off', rfl, _, hc1', hc2'⟩ := (HM.out.below hb).at_ hlt
        have hl : k < S.length := by have := HL.out.1; omega
        have hm : k < T.length := by have := HM.out.1; omega
        obtain ⟨y, hy⟩ : ∃ y, S.getD k (0, 0) = y := ⟨_, rfl⟩
        obtain ⟨z, hz⟩ : ∃ z, T.getD k (0, 0) = z := ⟨_, rfl⟩
        rw [hy] at hc1 hc2
        rw [hz] at hc1' hc2'
        have HY := Lib.hid hy
        have HZ := Lib.hid hz
        clear hy hz
        obtain ⟨y1, y2⟩ := y
        obtain ⟨z1, z2⟩ := z
        simp only at hc1 hc2 hc1' hc2'
        have hne := neqSp y1 y2 z1 z2
        have hgd := guardSp
        by_cases hx : y1 = z1 ∧ y2 = z2
        · obtain ⟨rfl, rfl⟩ := hx
          rw [show (!(y1 == y1 && y2 == y2)) = false from by simp] at hne
          go_wp2_with fail
          go_quiet (fail)
          go_wp2_with fail
          go_roundw
          case rel => exact ⟨k + 1, by omega, by go_num, below_drewN hb _, Lib.hid (same_stepS hl hm hsame.out (by rw [HY.out, HZ.out]))⟩
          case measure => simp [intOf]; omega
        · rw [show (!(y1 == z1 && y2 == z2)) = true from by simp; omega] at hne
          have HX := Lib.hid hx
          clear hx
          go_wp2_with fail
          go_quiet (fail)
          go_wp2_with fail
          go_ret
          refine ⟨congrArg (fun b => Ending.returned (.bool b)) (decide_eq_false ?_).symm, below_drewN hb _⟩
          intro e
          have h1 := HY.out
          rw [e, HZ.out] at h1
          injection h1 with h2 h3
          exact HX.out ⟨h2.symm, h3.symm⟩
      · have HE : Hid (S = T) := Lib.hid (by
          have h1 := hsame.out
          rw [List.take_of_length_le (by have := HL.out.1; omega), List.take_of_length_le (by have := HM.out.1; omega)] at h1
          exact h1)
        clear hsame
        go_wp2_with fail
        go_ret
        exact ⟨congrArg (fun b => Ending.returned (.bool b)) (decide_eq_true HE.out).symm, hb⟩
  · go_enter Try.func19, Try.ntmps19
    go_wp2_with fail
    go_ret
    refine ⟨congrArg (fun b => Ending.returned (.bool b)) (decide_eq_false ?_).symm, Below.refl _ _⟩
    rintro rfl
    exact hnn (HL.out.1.trans HM.out.1.symm)

theorem same_any (a : Option Addr) (n cap : Nat) (S : List Sp) (a' : Option Addr) (n' cap' : Nat) (T : List Sp) (w : World) (h : RdS w a n S) (h' : RdS w a' n' T) (hn : n ≤ 100000) (hn' : n' ≤ 100000) :
    Calls Try.prog 11 #[.slice a n cap, .slice a' n' cap'] w fun e w' => e = .returned (.bool (decide (S = T))) ∧ Below w.heap.size w w' := by
  have HL := Lib.hid h
  have HM := Lib.hid h'
  clear h h'
  go_enter Try.func11, Try.ntmps11
  go_wp2_with fail
  refine (equal_any a n cap S a' n' cap' T _ HL.out HM.out hn hn').mono ?_; rintro e w' ⟨rfl, hb⟩
  go_wp2_with fail
  go_ret
  exact ⟨rfl, hb⟩
end Go.Proofs.Ytpmbhbaajnimaaa.SpanCalls
