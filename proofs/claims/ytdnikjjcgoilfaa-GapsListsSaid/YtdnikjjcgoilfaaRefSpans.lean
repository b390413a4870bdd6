/-
  The document's own words on lists of numbers: the ends of the spans of a rising list.
-/
import Derived.Test.YtdnikjjcgoilfaaRefPut
namespace Go.Proofs.Ytdnikjjcgoilfaa.Ref
open Go.RowKit SpanMath View

theorem sp_round {L O : List Int} {p : Option Int} {k : Nat} {y : Int} (hk : k < L.length) (h : spFold (L.take k) = (O, p)) (hy : L.getD k 0 = y) :
    spFold (L.take (k + 1)) = (if p = some (y - 1) then O.dropLast ++ [y + 1] else O ++ [y, y + 1], some y) := by
  rw [spFold_take L k hk, h, hy]
  rfl
theorem sp_size {L O : List Int} {p : Option Int} {k : Nat} (h : spFold (L.take k) = (O, p)) : O.length ≤ 2 * k := by
  have := spFold_len (L.take k)
  rw [h] at this
  have h2 : (L.take k).length ≤ k := List.length_take_le _ _
  exact Nat.le_trans this (by omega)
theorem sp_prev {L O : List Int} {p : Option Int} {k : Nat} (hk : k < L.length) (h : spFold (L.take (k + 1)) = (O, p)) : p = some (L.getD k 0) ∧ ∃ O' z, O = O' ++ [z] := by
  have h1 := spFold_snd L k hk
  have h2 := sp_round hk (Prod.eta (spFold (L.take k))).symm rfl
  rw [h] at h1 h2
  refine ⟨h1, ?_⟩
  injection h2 with h3 _
  subst h3
  split
  · exact ⟨_, _, rfl⟩
  · exact ⟨(spFold (L.take k)).1 ++ [L.getD k 0], L.getD k 0 + 1, by simp⟩

theorem own_last {w : World} {base : Nat} {v : Value} {O : List Int} {z : Int} (h : OwnI w base v (O ++ [z])) :
    ∃ g n cap, v = .slice (some ⟨g, 0, none⟩) n cap ∧ (n : Int) - 1 = (O.length : Int) ∧ n ≤ cap ∧ base ≤ g ∧ g < w.heap.size ∧ w.cell? ⟨g, O.length, none⟩ = some (.int .i64 z) ∧ w.frozen? ⟨g, O.length, none⟩ = false ∧
      ∀ u, OwnI (w.setCell ⟨g, O.length, none⟩ (.int .i64 u)) base (.slice (some ⟨g, 0, none⟩) n cap) (O ++ [u]) := by
  have hl : (O ++ [z]).length = O.length + 1 := by simp
  obtain ⟨a, cap, rfl, hf, hc⟩ := own_form h
  obtain ⟨g, rfl, hg1, hg2, hcell⟩ := hc (by omega)
  refine ⟨g, _, cap, rfl, by rw [hl]; omega, hf.1, hg1, hg2, hcell _ _ (by simp [encI]), World.ownsRow.frozenAt h _, fun u => ?_⟩
  have h1 := (World.ownsRow.stored h O.length (.int .i64 u)).1
  have e : (encI (O ++ [z])).set O.length (.int .i64 u) = encI (O ++ [u]) := by simp [encI]
  rw [e] at h1
  have hl2 : (O ++ [u]).length = (O ++ [z]).length := by simp
  unfold OwnI
  rw [hl2]
  exact h1

end Go.Proofs.Ytdnikjjcgoilfaa.Ref
