/-
  Gaps: how many numbers pairs have.
-/
import Derived.Test.YtdnikjjcgoilfaaGaps2
import Derived.Lib.SmallJoins
namespace Go.Proofs.Ytdnikjjcgoilfaa.Gaps
open Go.ChangeShapes Go.WideShapes Go.RowKit Own

/-- how many numbers the first pairs have together -/
def cntTo (L : List Int) : Nat → Int
  | 0 => 0
  | k + 1 => cntTo L k + (if wayI (L.getD (2 * k) 0) (L.getD (2 * k + 1) 0) ≤ 8388608 then wayI (L.getD (2 * k) 0) (L.getD (2 * k + 1) 0) else 0)
def countL (L : List Int) : Int := cntTo L (L.length / 2)
theorem cnt_bounds (L : List Int) : ∀ k, 0 ≤ cntTo L k ∧ cntTo L k ≤ (k : Int) * 8388608
  | 0 => by simp [cntTo]
  | k + 1 => by
    obtain ⟨h1, h2⟩ := cnt_bounds L k
    have := way_bounds (L.getD (2 * k) 0) (L.getD (2 * k + 1) 0)
    rw [cntTo]
    split
    · refine ⟨by omega, ?_⟩
      have : ((k + 1 : Nat) : Int) * 8388608 = (k : Int) * 8388608 + 8388608 := by push_cast; rw [Int.add_mul, Int.one_mul]
      omega
    · refine ⟨by omega, ?_⟩
      have : ((k + 1 : Nat) : Int) * 8388608 = (k : Int) * 8388608 + 8388608 := by push_cast; rw [Int.add_mul, Int.one_mul]
      omega
theorem countC_any (g : Nat) (c z n : Int) (w : World) (t : TypeId) (h : w.heap[g]? = some (.cells #[.int .i64 c] t (0, 0))) (hc : 0 ≤ c ∧ c ≤ 1000000000000000) (hn : 0 ≤ n ∧ n ≤ 16777216) :
    Calls Try.prog 38 #[.int .u32 z, .int .i64 n, .pointer (some ⟨g, 0, none⟩)] w fun e w' => (∃ v, e = .returned v) ∧ w' = w.setCell ⟨g, 0, none⟩ (.int .i64 (c + n)) := by
  have k0 : w.cell? ⟨g, 0, none⟩ = some (.int .i64 c) := Go.Joins.cell_of_block h 0
  have z0 : w.frozen? ⟨g, 0, none⟩ = false := frozen_of_row _ _ _ _ _ h
  obtain ⟨c0, c1⟩ := hc
  obtain ⟨n0, n1⟩ := hn
  go_enter Try.func38, Try.ntmps38
  go_wp2_with fail
  (try simp only [Exit.inBlock, Exit.then]); refine bodyPost_end (results_none rfl _ _ _) rfl ?_
  exact ⟨⟨_, rfl⟩, rfl⟩

set_option maxRecDepth 100000 in
theorem count_any (a : Option Addr) (n cap : Nat) (L : List Int) (w : World) (h : RdI .u32 w a n L) (hf : Fit a n cap) (hn : n ≤ 1000000) :
    Calls Try.prog 16 #[.slice a n cap] w fun e w' => e = .returned (.int .i64 (countL L)) ∧ Below w.heap.size w w' := by
  have hal : Below w.heap.size w (w.alloc (.cells #[.int .i64 0] 3)) := (Below.refl _ _).alloc (Nat.le_refl _) _
  have hblk : (w.alloc (.cells #[.int .i64 0] 3)).heap[w.heap.size]? = some (.cells #[.int .i64 0] 3 (0, 0)) := heap_alloc_new w _
  obtain ⟨f1, f2, _⟩ := hf
  unfold maxLen at f2
  have HP := Lib.hid (pairsC_any w.heap.size a n cap L (w.alloc (.cells #[.int .i64 0] 3))
    (fun k W => k ≤ L.length / 2 ∧ W.heap[w.heap.size]? = some (.cells #[.int .i64 (cntTo L k)] 3 (0, 0)) ∧ Below w.heap.size w W)
    ⟨Nat.zero_le _, hblk, hal⟩ h.1 f1 f2
    (fun k W ⟨_, _, h3⟩ => h.below h3)
    (fun k W q ⟨h1, h2, h3⟩ => ⟨h1, h2, below_drewN h3 q⟩)
    (fun k W hk hno ⟨h1, h2, h3⟩ => ⟨by omega, by rw [h2, cntTo, if_neg (show ¬ (wayI (L.getD (2 * k) 0) (L.getD (2 * k + 1) 0) ≤ 8388608) from hno), Int.add_zero], h3⟩)
    (fun k W hk hok ⟨h1, h2, h3⟩ => by
      have hb := cnt_bounds L k
      have hw := way_bounds (L.getD (2 * k) 0) (L.getD (2 * k + 1) 0)
      refine (countC_any w.heap.size (cntTo L k) _ _ W _ h2 ⟨hb.1, ?_⟩ ⟨hw.1, by omega⟩).mono ?_
      · have h5 : (k : Int) ≤ 1000000 := by have := h.1; omega
        have : (k : Int) * 8388608 ≤ 1000000 * 8388608 := Int.mul_le_mul_of_nonneg_right h5 (by decide)
        omega
      · rintro e W' ⟨hv, rfl⟩
        refine ⟨hv, by omega, ?_, h3.setCell (Nat.le_refl _) _⟩
        have := Go.Joins.block_setCell (i := 0) h2 (.int .i64 (cntTo L k + wayI (L.getD (2 * k) 0) (L.getD (2 * k + 1) 0)))
        rw [cntTo, if_pos (show wayI (L.getD (2 * k) 0) (L.getD (2 * k + 1) 0) ≤ 8388608 from hok)]
        simpa using this))
  clear h hal hblk f1 f2
  go_enter Try.func16, Try.ntmps16
  go_wp2_with fail
  refine HP.out.mono ?_; rintro e W1 ⟨⟨_, rfl⟩, _, h2, h3⟩
  have k0 : W1.cell? ⟨w.heap.size, 0, none⟩ = some (.int .i64 (countL L)) := Go.Joins.cell_of_block h2 0
  have H3 := Lib.hid h3
  clear h2 h3
  go_wp2_with fail
  go_ret
  exact ⟨rfl, H3.out⟩
end Go.Proofs.Ytdnikjjcgoilfaa.Gaps
