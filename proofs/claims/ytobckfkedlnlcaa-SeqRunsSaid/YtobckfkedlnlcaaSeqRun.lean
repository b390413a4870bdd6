/-
  A run of numbers, by its contract.
-/
import Derived.Test.YtobckfkedlnlcaaSeqCalls
import Derived.WalkLawsBesides
namespace Go.Proofs.Ytobckfkedlnlcaa.SeqCalls
open Go.RowKit

theorem numInfo : (Try.prog.info? 24).map (fun i => (i.zero, i.size, i.bytes)) = some (some (.int .u32 0), 1, 4) := by kernel_rfl

/-- the numbers of a run -/
def runL (a : Int) (k : Nat) : List Int := (List.range k).map (fun i : Nat => (a + (i : Int)) % 16777216)
theorem runL_len (a : Int) (k : Nat) : (runL a k).length = k := by simp [runL]
theorem runL_succ (a : Int) (k : Nat) : runL a (k + 1) = runL a k ++ [(a + (k : Int)) % 16777216] := by simp [runL, List.range_succ]

set_option maxHeartbeats 400000 in
theorem run_any (a n : Int) (w : World) (h0 : -9223372036854775808 ≤ n) (hn : n ≤ 65536) :
    Calls Try.prog 17 #[.int .u32 a, .int .i64 n] w fun e w' => ∃ v, e = .returned v ∧ w'.ownsRow w.heap.size 24 1 v n.toNat ((runL a n.toNat).map (Value.int .u32)) ∧ Below w.heap.size w w' := by
  obtain ⟨i0, hi, hz0, hz1, hz2⟩ := info_parts numInfo
  go_enter Try.func17, Try.ntmps17
  go_wp2_with fail
  go_loopw [5, 9] (fun v i wr => ∃ k : Nat, (k : Int) ≤ max n 0 ∧ i = .int .i64 k ∧ wr.ownsRow w.heap.size 24 1 v k ((runL a k).map (Value.int .u32)) ∧ Below w.heap.size w wr)
    (fun _ i _ => (n - intOf i).toNat)
  case atStart => exact ⟨0, by omega, rfl, World.ownsRow_nil _ _ _ _, Below.refl _ _⟩
  case round =>
    obtain ⟨k, hk, rfl, hown, hb⟩ := hrel
    by_cases hlt : (k : Int) < n
    · go_wp2_with (first
        | (go_at_call 12; refine (add_any _ _ _).mono ?_; rintro e w' ⟨rfl, rfl⟩)
        | (at_builtin; refine wpList_append_own _ rfl _ _ 35 rfl w.heap.size 24 i0 (.int .u32 0) 1 4 Try.underlying35 hi hz0 hz1 hz2 rfl (by decide) _ _ _ rfl (hown.alloc _) ⟨wr.heap.size, 0, none⟩ 1 1 [.int .u32 ((a + (k : Int)) % 16777216)] rfl rfl ?c1 ?c2 ?c3 ?c4 ?c5 ?_))
      case c1 =>
        intro j u hj
        match j, hj with
        | 0, hj => simp at hj; subst hj; simp [Addr.add]
      case c2 => intro u hu; simp at hu; subst hu; rfl
      case c3 => unfold maxLen; omega
      case c4 => omega
      case c5 => have := hb.size; simp; omega
      intro v' w1 hown' hgrow _
      have hb' : Below w.heap.size w w1 := (hb.alloc hb.size _).grown hgrow (by have := hb.size; simp; omega) (fun j hj => by have := (hown.lt j hj).1; omega)
      have hown2 : w1.ownsRow w.heap.size 24 1 v' (k + 1) ((runL a (k + 1)).map (Value.int .u32)) := by rw [runL_succ, List.map_append]; exact hown'
      clear hown' hgrow hown hb
      go_wp2
      go_roundw
      case rel => exact ⟨k + 1, by omega, by simp, hown2, hb'⟩
      case measure => simp [intOf]; omega
    · go_wp2
      go_ret
      exact ⟨_, rfl, by rw [show n.toNat = k from by omega]; exact hown, hb⟩
end Go.Proofs.Ytobckfkedlnlcaa.SeqCalls
