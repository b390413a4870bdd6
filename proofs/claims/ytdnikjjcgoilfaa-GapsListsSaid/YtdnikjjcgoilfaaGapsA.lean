/-
  Gaps: how many numbers a set's pairs have, whatever the base.
-/
import Derived.Test.YtdnikjjcgoilfaaGaps9
import Derived.Test.YtdnikjjcgoilfaaLaw03Kit
namespace Go.Proofs.Ytdnikjjcgoilfaa.Gaps
open Go.ChangeShapes Go.WideShapes Go.RowKit SpanMath

theorem flatB_get (b : Int) : ∀ (R : List Sp) (k : Nat), k < R.length → (flatB b R).getD (2 * k) 0 = (b + (R.getD k (0, 0)).1) % 16777216 ∧ (flatB b R).getD (2 * k + 1) 0 = (b + (R.getD k (0, 0)).2) % 16777216
  | [], k, h => by simp at h
  | x :: R, 0, _ => by simp [flatB, pairB]
  | x :: R, k + 1, h => by
    have := flatB_get b R k (by simpa using h)
    rw [show 2 * (k + 1) = 2 * k + 2 from by omega, show 2 * k + 2 + 1 = 2 * k + 1 + 2 from by omega]
    simpa [flatB, pairB] using this
theorem flatB_at (b : Int) (R : List Sp) (i : Nat) (h : i < (flatB b R).length) : (flatB b R).getD i 0 = (b + (if i % 2 = 0 then (R.getD (i / 2) (0, 0)).1 else (R.getD (i / 2) (0, 0)).2)) % 16777216 := by
  rw [flatB_len] at h
  obtain ⟨h1, h2⟩ := flatB_get b R (i / 2) (by omega)
  by_cases he : i % 2 = 0
  · rw [if_pos he, ← h1]; congr 1; omega
  · rw [if_neg he, ← h2]; congr 1; omega
def cntR (R : List Sp) : Nat → Int
  | 0 => 0
  | k + 1 => cntR R k + (if ((R.getD k (0, 0)).2 - (R.getD k (0, 0)).1) % 16777216 ≤ 8388608 then ((R.getD k (0, 0)).2 - (R.getD k (0, 0)).1) % 16777216 else 0)
theorem cnt_flat (b : Int) (R : List Sp) : ∀ k, k ≤ R.length → cntTo (flatB b R) k = cntR R k
  | 0, _ => rfl
  | k + 1, h => by
    obtain ⟨h1, h2⟩ := flatB_get b R k h
    rw [cntTo, cntR, cnt_flat b R k (by omega), h1, h2]
    have : wayI ((b + (R.getD k (0, 0)).1) % 16777216) ((b + (R.getD k (0, 0)).2) % 16777216) = ((R.getD k (0, 0)).2 - (R.getD k (0, 0)).1) % 16777216 := by unfold wayI; omega
    rw [this]
theorem count_flat (b : Int) (R : List Sp) : countL (flatB b R) = cntR R R.length := by
  unfold countL
  rw [flatB_len, show 2 * R.length / 2 = R.length from by omega]
  exact cnt_flat b R _ (Nat.le_refl _)
/-- the numbers of a few spans that are not below nought -/
theorem few_pos {D S : List Sp} (hS : IsSet S (inSp (Law03.fewL D))) : ∃ R, IsSet R (fun z => z ∈ nums S ∧ z ∈ nums [(0, 8388609)]) ∧ Small R := by
  obtain ⟨R, hR, hs⟩ := Law03.exists_in (p := fun z => z ∈ nums S ∧ z ∈ nums [(0, 8388609)]) (fun z hz => Law03.inSp_few D z ((hS.2 z).1 hz.1))
  exact ⟨R, hR, hs⟩
end Go.Proofs.Ytdnikjjcgoilfaa.Gaps
