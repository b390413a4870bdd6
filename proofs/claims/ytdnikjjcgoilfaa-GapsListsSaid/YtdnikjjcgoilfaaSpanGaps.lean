/-
  What isn't there of a span, and what is in both of two sets.
-/
import Derived.Test.YtdnikjjcgoilfaaSpanList
import Derived.Deep.RegionHeld3
import Derived.Deep.RegionWith
import Derived.WalkSpells
namespace Go.Proofs.Ytdnikjjcgoilfaa.SpanCalls
open Go.RowKit SpanMath View

theorem gap_round {x : Sp} {S : List Sp} {k : Nat} {y : Sp} {l : List Sp} {f : Int} (hk : k < S.length) (h : gapFold x (S.take k) = (l, f)) (hy : S.getD k (0, 0) = y) :
    gapFold x (S.take (k + 1)) = (join l (f, min y.1 x.2), max f y.2) := by
  rw [gapFold_take x S k hk, h, hy]
  rfl
theorem gap_len {x : Sp} {S : List Sp} : ∀ k, (gapFold x (S.take k)).1.length ≤ k := by
  have key : ∀ (l : List Sp) (s : List Sp × Int), (l.foldl (gapStep x.2) s).1.length ≤ s.1.length + l.length := by
    intro l
    induction l with
    | nil => intro s; simp
    | cons y l ih =>
      intro s
      have := ih (gapStep x.2 s y)
      have h2 := join_len s.1 (s.2, min y.1 x.2)
      simp only [List.foldl_cons, List.length_cons]
      have h3 : (gapStep x.2 s y).1.length ≤ s.1.length + 1 := h2
      omega
  intro k
  have := key (S.take k) ([], x.1)
  have h2 : (S.take k).length ≤ k := List.length_take_le _ _
  simp only [List.length_nil, Nat.zero_add] at this
  exact Nat.le_trans this h2
theorem gap_f (x : Sp) (S : List Sp) (hS : Small S) : ∀ k, -1099511627776 ≤ x.1 → x.1 ≤ 1099511627776 → -1099511627776 ≤ (gapFold x (S.take k)).2 ∧ (gapFold x (S.take k)).2 ≤ 1099511627776 := by
  intro k h1 h2
  have key : ∀ (l : List Sp) (s : List Sp × Int), (∀ y ∈ l, -400 ≤ y.2 ∧ y.2 ≤ 400) → (-1099511627776 ≤ s.2 ∧ s.2 ≤ 1099511627776) → -1099511627776 ≤ (l.foldl (gapStep x.2) s).2 ∧ (l.foldl (gapStep x.2) s).2 ≤ 1099511627776 := by
    intro l
    induction l with
    | nil => intro s _ h; exact h
    | cons y l ih =>
      intro s hl h
      refine ih (gapStep x.2 s y) (fun z hz => hl z (by simp [hz])) ?_
      have := hl y (by simp)
      show -1099511627776 ≤ max s.2 y.2 ∧ max s.2 y.2 ≤ 1099511627776
      omega
  exact key (S.take k) ([], x.1) (fun y hy => by have := hS.2 y (List.mem_of_mem_take hy); omega) ⟨h1, h2⟩

theorem OwnS.set {w : World} {base B o : Nat} {v : Value} {S : List Sp} (h : OwnS w base v S) (hB : B < base) (u : Value) : OwnS (w.setCell ⟨B, o, none⟩ u) base v S := by
  refine World.ownsRow.kept h (row := some B) ⟨rfl, rfl, rfl, by simp, fun k _ hk => heap_setCell_other w ⟨B, o, none⟩ k u (fun e => hk (by simp [e]))⟩ (.inr fun e => ?_)
  exact Box.near hB h e.symm

end Go.Proofs.Ytdnikjjcgoilfaa.SpanCalls
