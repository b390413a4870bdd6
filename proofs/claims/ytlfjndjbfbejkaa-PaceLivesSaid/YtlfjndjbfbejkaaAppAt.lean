/-
  An append of one number, and where the row then lies; two rows that lie apart.
-/
import Derived.Test.YtlfjndjbfbejkaaViewR
import Derived.Maps.AppendAt
namespace Go.Proofs.Ytlfjndjbfbejkaa.AppAt
open Go.RowKit View

theorem rdI_encI {w : World} {b off n : Nat} {M : List Int} (h : RdI w (some ⟨b, off, none⟩) n M) : (View.encI M).length = n * 1 ∧ (∀ j u, (View.encI M)[j]? = some u → w.cell? ((⟨b, off, none⟩ : Addr).add j) = some u) ∧ ∀ u ∈ View.encI M, u.oneCell' = true := by
  refine ⟨by rw [View.encI, List.length_map, h.1, Nat.mul_one], fun j u hu => ?_, fun u hu => ?_⟩
  · have hj : j < M.length := by
      have := (List.getElem?_eq_some_iff.1 hu).1
      simpa [View.encI] using this
    have h1 := h.1
    obtain ⟨b', off', e, _, hc⟩ := h.at_ (k := j) (by omega)
    cases e
    rw [Addr.add_lit, hc]
    simpa [View.encI, List.getD, hj] using hu
  · simp only [View.encI, List.mem_map] at hu
    obtain ⟨z, _, rfl⟩ := hu
    rfl
theorem wpList_appI_at {w : World} {ops : Array Oper} {rest : List Oper} {o : Oper} {a : Act} {Q : Exit → Act → World → Prop} (hgd : o.guard = none) (s x : Operand)
    (ho : o.op = .call { callee := .builtin .append, args := #[s, x], argTypes := #[22, 22] }) (base : Nat)
    (v : Value) (L : List Int) (hs : a.eval s = v) (hown : OwnI w base v L) (b off c : Nat) (y : Int) (hx : a.eval x = .slice (some ⟨b, off, none⟩) 1 c) (hr : RdI w (some ⟨b, off, none⟩) 1 [y])
    (hlen : L.length + 1 ≤ 1000000) (hbase : base ≤ w.heap.size)
    (h : ∀ v' w', OwnI w' base v' (L ++ [y]) → w.grownBy w' v.ownBlock → (v'.ownBlock = v.ownBlock ∨ v'.ownBlock = some w.heap.size) → wpList Try.prog ops Q rest (a.put o.dst v') w') : wpList Try.prog ops Q (o :: rest) a w := by
  obtain ⟨i0, hi, hz0, hz1, hz2⟩ := info_parts View.intInfo
  obtain ⟨e1, e2, e3⟩ := rdI_encI hr
  refine wpList_append_own_at w hgd s x 22 ho base 3 i0 _ 1 8 Try.underlying22 hi hz0 hz1 hz2 rfl (by decide) v _ _ hs hown _ 1 c (View.encI [y]) hx e1 e2 e3 (by unfold maxLen; omega) (by omega) hbase ?_
  intro v' w' h1 h2 _ h4
  refine h v' w' ?_ h2 h4
  unfold OwnI
  rw [List.length_append, show View.encI (L ++ [y]) = View.encI L ++ View.encI [y] from by simp [View.encI]]
  exact h1
/-- two rows in blocks of their own -/
def Two (w : World) (u v : Value) : Prop := ∃ g h, u.ownBlock = some g ∧ v.ownBlock = some h ∧ g ≠ h ∧ g < w.heap.size ∧ h < w.heap.size
theorem Two.kept {w w' : World} {base : Nat} {u v : Value} {L : List Int} (h : Two w u v) (ho : OwnI w base u L) (hg : w.grownBy w' v.ownBlock) : OwnI w' base u L := by
  obtain ⟨g, k, h1, h2, h3, _⟩ := h
  exact World.ownsRow.kept ho hg (.inr (by rw [h1, h2]; simpa using h3))
theorem Two.swap {w : World} {u v : Value} (h : Two w u v) : Two w v u := by
  obtain ⟨g, k, h1, h2, h3, h4, h5⟩ := h; exact ⟨k, g, h2, h1, fun e => h3 e.symm, h5, h4⟩
theorem Two.more {w w' : World} {u v v' : Value} {base : Nat} {L : List Int} (h : Two w u v) (ho : OwnI w' base v' L) (hs : w.heap.size ≤ w'.heap.size) (hv : v'.ownBlock = v.ownBlock ∨ v'.ownBlock = some w.heap.size) : Two w' u v' := by
  obtain ⟨g, k, h1, h2, h3, h4, h5⟩ := h
  rcases hv with e | e
  · exact ⟨g, k, h1, by rw [e, h2], h3, by omega, by omega⟩
  · exact ⟨g, _, h1, e, by omega, by omega, (ho.lt _ e).2⟩
theorem Two.big {w w' : World} {u v : Value} (h : Two w u v) (hs : w.heap.size ≤ w'.heap.size) : Two w' u v := by
  obtain ⟨g, k, h1, h2, h3, h4, h5⟩ := h; exact ⟨g, k, h1, h2, h3, by omega, by omega⟩
end Go.Proofs.Ytlfjndjbfbejkaa.AppAt
