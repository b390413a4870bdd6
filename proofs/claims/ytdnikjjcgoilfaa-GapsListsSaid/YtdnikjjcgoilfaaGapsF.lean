/-
  Gaps: the pairs of a rising list, as the document makes them.
-/
import Derived.Test.YtdnikjjcgoilfaaGapsE
namespace Go.Proofs.Ytdnikjjcgoilfaa.Gaps
open Go.ChangeShapes Go.WideShapes Go.RowKit SpanMath

/-- the last number of an own row is written -/
theorem own_last {κ : IntKind} {τ : TypeId} {w : World} {base g n cap : Nat} {M : List Int} {y0 y : Int} (h : Own.OwnI κ τ w base (.slice (some ⟨g, 0, none⟩) n cap) (M ++ [y0])) :
    Own.OwnI κ τ (w.setCell ⟨g, M.length, none⟩ (.int κ y)) base (.slice (some ⟨g, 0, none⟩) n cap) (M ++ [y]) := by
  refine ⟨by simp [Own.encI], .inr ?_⟩
  rcases h.2 with ⟨hv, _⟩ | ⟨g', cap', cur, hv, hg, hh, h1, h2, h3, h4⟩
  · cases hv
  · cases hv
    refine ⟨g, cap, cur.setIfInBounds M.length (.int κ y), by simp, hg, Go.Joins.block_setCell hh _, by simpa using h1, h2, by simpa using h3, ?_⟩
    rw [Array.toList_setIfInBounds, List.length_append, List.length_singleton, Nat.mul_one, List.take_set]
    rw [List.length_append, List.length_singleton, Nat.mul_one] at h4
    rw [h4]
    simp [Own.encI]
theorem own_free {κ : IntKind} {τ : TypeId} {w : World} {base g n cap : Nat} {L : List Int} (h : Own.OwnI κ τ w base (.slice (some ⟨g, 0, none⟩) n cap) L) (i : Nat) : w.frozen? ⟨g, i, none⟩ = false ∧ base ≤ g := by
  rcases h.2 with ⟨hv, _⟩ | ⟨g', cap', cur, hv, hg, hh, _⟩
  · cases hv
  · cases hv; exact ⟨frozen_of_row _ _ _ _ _ hh, hg⟩
theorem norm_snoc {S : List Sp} {x : Sp} (h : Norm S) (h1 : ∀ s ∈ S, s.2 < x.1) (h2 : x.1 < x.2) : Norm (S ++ [x]) := by
  refine ⟨List.pairwise_append.2 ⟨h.1, by simp, fun a ha c hc => ?_⟩, fun a ha => ?_⟩
  · obtain rfl := List.mem_singleton.1 hc; exact h1 a ha
  · rcases List.mem_append.1 ha with ha | ha
    · exact h.2 a ha
    · obtain rfl := List.mem_singleton.1 ha; exact h2
theorem norm_end {S : List Sp} {p u v : Int} (h : Norm (S ++ [(p, u)])) (hv : p < v) : Norm (S ++ [(p, v)]) := by
  obtain ⟨h1, h2⟩ := h
  rw [List.pairwise_append] at h1
  refine norm_snoc ⟨h1.1, fun x hx => h2 x (List.mem_append.2 (.inl hx))⟩ (fun s hs => h1.2.2 s hs (p, u) (by simp)) hv
theorem mem_one {S : List Sp} {x : Sp} {z : Int} : z ∈ nums (S ++ [x]) ↔ z ∈ nums S ∨ (x.1 ≤ z ∧ z < x.2) := by
  rw [nums_append, List.mem_append, nums_one', mem_run]
/-- one number more, apart from the others -/
theorem set_new {S : List Sp} {K : List Int} {x : Int} (h : IsSet S (fun z => z ∈ K)) (hx : ∀ y ∈ K, y + 1 < x) : IsSet (S ++ [(x, x + 1)]) (fun z => z ∈ K ++ [x]) := by
  refine ⟨norm_snoc h.1 (fun s hs => ?_) (by show x < x + 1; omega), fun z => ?_⟩
  · have h1 := h.1.2 s hs
    have h2 : s.2 - 1 ∈ K := (h.2 _).1 (mem_nums.2 ⟨s, hs, by omega, by omega⟩)
    have := hx _ h2
    show s.2 < x
    omega
  · show z ∈ nums _ ↔ z ∈ K ++ [x]
    rw [mem_one, h.2, List.mem_append, List.mem_singleton]
    show z ∈ K ∨ (x ≤ z ∧ z < x + 1) ↔ z ∈ K ∨ z = x
    constructor
    · rintro (h | h)
      · exact .inl h
      · exact .inr (by omega)
    · rintro (h | h)
      · exact .inl h
      · exact .inr (by omega)
/-- one number more, next to the last -/
theorem set_more {S : List Sp} {K : List Int} {p x : Int} (h : IsSet (S ++ [(p, x)]) (fun z => z ∈ K)) : IsSet (S ++ [(p, x + 1)]) (fun z => z ∈ K ++ [x]) := by
  have hp : p < x := h.1.2 (p, x) (by simp)
  refine ⟨norm_end h.1 (by omega), fun z => ?_⟩
  have h2 := h.2 z
  rw [mem_one] at h2
  have h2 : z ∈ nums S ∨ (p ≤ z ∧ z < x) ↔ z ∈ K := h2
  show z ∈ nums _ ↔ z ∈ K ++ [x]
  rw [mem_one, List.mem_append, List.mem_singleton, ← h2]
  show (_ ∨ (p ≤ z ∧ z < x + 1)) ↔ ((_ ∨ (p ≤ z ∧ z < x)) ∨ z = x)
  constructor
  · rintro (h | h)
    · exact .inl (.inl h)
    · by_cases e : z = x
      · exact .inr e
      · exact .inl (.inr (by omega))
  · rintro ((h | h) | h)
    · exact .inl h
    · exact .inr (by omega)
    · exact .inr (by omega)
end Go.Proofs.Ytdnikjjcgoilfaa.Gaps
