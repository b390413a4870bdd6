/-
  Gaps: sets, the document's and the program's.
-/
import Derived.Test.YtdnikjjcgoilfaaGapsD
import Derived.Test.YtdnikjjcgoilfaaRefHas
import Derived.Test.YtdnikjjcgoilfaaLaw03Kit
namespace Go.Proofs.Ytdnikjjcgoilfaa.Gaps
open Go.ChangeShapes Go.WideShapes Go.RowKit SpanMath

def prS (b : Int) (L : List Int) (k : Nat) : Sp := (wayI b (L.getD (2 * k) 0), wayI b (L.getD (2 * k + 1) 0))
theorem spans_pr (b : Int) (L : List Int) : spansOf b L = (List.range (L.length / 2)).map (prS b L) := rfl
theorem nums_one' (x : Sp) : nums [x] = run x := by simp [nums]
theorem out_pairs (b : Int) (L : List Int) : ∀ k, outTo b L (2 * k) = nums ((List.range k).map (prS b L))
  | 0 => rfl
  | k + 1 => by
    rw [show 2 * (k + 1) = 2 * k + 1 + 1 from by omega, outTo, outTo, if_neg (by omega), if_pos (by omega), List.append_nil, out_pairs b L k, List.range_succ, List.map_append, nums_append]
    show _ = _ ++ nums [prS b L k]
    rw [nums_one']
    rfl
theorem even_len {b t : Int} {L : List Int} (h : goodS b t L = true) : L.length = 2 * (L.length / 2) := by
  simp only [goodS, Bool.and_eq_true, decide_eq_true_eq] at h
  omega
theorem out_set (b t : Int) (L : List Int) : outL b t L = nums (setL b t L) := by
  cases h : goodS b t L
  · rw [outL_bad h, setL, h]; rfl
  · rw [outL_good h, setL, if_pos h, even_len h, out_pairs, spans_pr]
theorem flat_pairs (b : Int) (L : List Int) (hb : 0 ≤ b ∧ b < 16777216) (hL : ∀ z ∈ L, 0 ≤ z ∧ z < 16777216) : ∀ k, 2 * k ≤ L.length → flatB b ((List.range k).map (prS b L)) = L.take (2 * k)
  | 0, _ => by simp [flatB]
  | k + 1, h => by
    have h1 : 2 * k < L.length := by omega
    have h2 : 2 * k + 1 < L.length := by omega
    have e1 := hL (L.getD (2 * k) 0) (by simp [List.getD, h1])
    have e2 := hL (L.getD (2 * k + 1) 0) (by simp [List.getD, h2])
    rw [List.range_succ, List.map_append]
    show flatB b (_ ++ [prS b L k]) = _
    rw [flatB_snoc, flat_pairs b L hb hL k (by omega), show 2 * (k + 1) = 2 * k + 1 + 1 from by omega, View.take_succ' L 0 (2 * k + 1) h2, View.take_succ' L 0 (2 * k) h1, List.append_assoc]
    congr 1
    unfold pairB prS wayI
    rw [show (b + (L.getD (2 * k) 0 - b) % 16777216) % 16777216 = L.getD (2 * k) 0 from by omega, show (b + (L.getD (2 * k + 1) 0 - b) % 16777216) % 16777216 = L.getD (2 * k + 1) 0 from by omega]
    rfl
theorem flat_set {b t : Int} {L : List Int} (h : goodS b t L = true) (hb : 0 ≤ b ∧ b < 16777216) (hL : ∀ z ∈ L, 0 ≤ z ∧ z < 16777216) : flatB b (setL b t L) = L := by
  rw [setL, if_pos h, spans_pr, flat_pairs b L hb hL _ (by omega)]
  exact List.take_of_length_le (by have := even_len h; omega)
def Near3 (b : Int) (z : Int) : Prop := 0 ≤ z ∧ z < 16777216 ∧ (wayI b z ≤ 300 ∨ 8388608 < wayI b z)
theorem set_small {b t : Int} {L : List Int} (hn : L.length ≤ 20) (hL : ∀ z ∈ L, Near3 b z) : Norm (setL b t L) ∧ Small (setL b t L) ∧ ∀ x ∈ setL b t L, 0 ≤ x.1 ∧ x.2 ≤ 300 := by
  cases h : goodS b t L
  · rw [setL, h]; exact ⟨norm_nil, ⟨by simp, by simp⟩, by simp⟩
  · rw [setL, if_pos h]
    obtain ⟨h1, h2⟩ := spans_norm h
    have hev := even_len h
    have ht : wayI b t ≤ 8388608 := by
      simp only [goodS, Bool.and_eq_true, decide_eq_true_eq] at h
      exact h.1
    have hb : ∀ x ∈ spansOf b L, 0 ≤ x.1 ∧ x.2 ≤ 300 := fun x hx => by
      have h3 := h2 x hx
      refine ⟨h3.1, ?_⟩
      rw [spans_pr] at hx
      obtain ⟨k, hk, rfl⟩ := List.mem_map.1 hx
      have hk2 := List.mem_range.1 hk
      have hz := (hL (L.getD (2 * k + 1) 0) (by simp [List.getD, show 2 * k + 1 < L.length by omega])).2.2
      have h4 : wayI b (L.getD (2 * k + 1) 0) ≤ wayI b t := h3.2
      show wayI b (L.getD (2 * k + 1) 0) ≤ 300
      omega
    refine ⟨h1, ⟨by rw [spans_pr, List.length_map, List.length_range]; omega, fun x hx => ?_⟩, hb⟩
    have h3 := hb x hx
    have h4 := h1.2 x hx
    omega
end Go.Proofs.Ytdnikjjcgoilfaa.Gaps
