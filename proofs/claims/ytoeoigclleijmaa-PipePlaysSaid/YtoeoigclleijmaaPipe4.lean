/-
  A choice within a few bytes.
-/
import Derived.Test.YtoeoigclleijmaaPipe3
import Derived.Handy
namespace Go.Proofs.Ytoeoigclleijmaa.PipeS
open Go.RowKit RingS TurnP

def nearI (x : Int) : Int := max (-40) (min x 400)
theorem nearI_le (x : Int) : -40 ≤ nearI x ∧ nearI x ≤ 400 := by unfold nearI; omega
theorem choice_info : (Try.prog.info? 29).map (·.size) = some 3 := by kernel_rfl
theorem alloc_two (w : World) (a : Obj) (cs : Array Value) (t : TypeId) : ((w.alloc a).alloc (.cells cs t)).heap[w.heap.size + 1]? = some (.cells cs t (0, 0)) := by
  have h9 := heap_alloc_new (w.alloc a) (.cells cs t)
  rw [show (w.alloc a).heap.size = w.heap.size + 1 from by simp] at h9
  exact h9
theorem near_any (k at_ mask : Int) (w : World) :
    Calls Try.prog 10 #[.agg #[.int .i64 k, .int .i64 at_, .int .u32 mask]] w fun e w' => e = .returned (.agg #[.int .i64 k, .int .i64 (nearI at_), .int .u32 mask]) ∧ Below w.heap.size w w' := by
  obtain ⟨n, hn⟩ : ∃ n, nearI at_ = n := ⟨_, rfl⟩
  have HN := Lib.hid hn
  rw [hn]
  have hcase : (400 < at_ ∧ n = 400) ∨ (at_ ≤ 400 ∧ at_ ≤ -40 ∧ n = -40) ∨ (at_ ≤ 400 ∧ -40 < at_ ∧ n = at_) := by unfold nearI at hn; omega
  clear hn
  rcases hcase with ⟨h1, rfl⟩ | ⟨h1, h2, rfl⟩ | ⟨h1, h2, rfl⟩
  all_goals
    go_enter Try.func10, Try.ntmps10
    go_wp2_with fail
  all_goals
    refine bodyPost_ret (results_cell_row rfl _ _ (w.heap.size + 1) 29 _ (0, 0) _ rfl (alloc_two _ _ _ _) Try.underlying29 rfl choice_info) rfl ?_
    exact ⟨rfl, ((Below.refl _ _).alloc (Nat.le_refl _) _).alloc (by simp) _⟩
end Go.Proofs.Ytoeoigclleijmaa.PipeS
