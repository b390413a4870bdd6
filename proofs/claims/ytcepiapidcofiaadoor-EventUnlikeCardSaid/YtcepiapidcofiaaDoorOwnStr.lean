/-
  Slices of strings of the call's own: what they hold, and an append of one more.
-/
import Derived.Test.YtcepiapidcofiaaDoorOwn
namespace Go.Proofs.YtcepiapidcofiaaDoor.Own
open Go.RowKit

def encT (L : List ByteArray) : List Value := L.map Value.string
def OwnT (w : World) (base : Nat) (v : Value) (L : List ByteArray) : Prop := w.ownsRow base 9 1 v L.length (encT L)
theorem OwnT.below {w w' : World} {base : Nat} {v : Value} {L : List ByteArray} (h : OwnT w base v L) (hb : Below w.heap.size w w') : OwnT w' base v L := own_below h hb
theorem OwnT.form {w : World} {base : Nat} {v : Value} {L : List ByteArray} (h : OwnT w base v L) (h0 : 0 < L.length) : ∃ g cap, v = .slice (some ⟨g, 0, none⟩) L.length cap ∧ L.length ≤ cap ∧ base ≤ g ∧ g < w.heap.size ∧ ∀ (j : Nat) x, L[j]? = some x → w.cell? ⟨g, 0 + j, none⟩ = some (.string x) := by
  obtain ⟨a, cap, rfl, hf, h3⟩ := own_form h
  obtain ⟨g, rfl, h4, h5, h6⟩ := h3 h0
  exact ⟨g, cap, rfl, hf.1, h4, h5, fun j x hx => by rw [Nat.zero_add]; exact h6 j _ (by simp [encT, hx])⟩
theorem ownT_lit (w : World) (x : ByteArray) (base : Nat) (hb : base ≤ w.heap.size) : OwnT (w.alloc (.cells #[.string x] 9)) base (.slice (some ⟨w.heap.size, 0, none⟩) 1 1) [x] :=
  ⟨by simp [encT], .inr ⟨w.heap.size, 1, #[.string x], rfl, hb, heap_alloc_new w _, Nat.le_refl _, by decide, rfl, by simp [encT]⟩⟩
theorem infoT : (Tryd.prog.info? 9).map (fun i => (i.zero, i.size, i.bytes)) = some (some (.string ⟨#[]⟩), 1, 16) := by kernel_rfl
theorem wpList_appT {w : World} {ops : Array Oper} {rest : List Oper} {o : Oper} {a : Act} {Q : Exit → Act → World → Prop} (hgd : o.guard = none) (s x : Operand) (T : TypeId)
    (ho : o.op = .call { callee := .builtin .append, args := #[s, x], argTypes := #[T, T] }) (hT : Tryd.prog.underlying T = some (.slice 9)) (base : Nat)
    (v : Value) (L : List ByteArray) (hs : a.eval s = v) (hown : OwnT w base v L) (g : Nat) (y : ByteArray) (hx : a.eval x = .slice (some ⟨g, 0, none⟩) 1 1) (hr : w.cell? ⟨g, 0, none⟩ = some (.string y))
    (hlen : L.length + 1 ≤ 1000000) (hbase : base ≤ w.heap.size)
    (h : ∀ v' w', OwnT w' base v' (L ++ [y]) → w.grownBy w' v.ownBlock → wpList Tryd.prog ops Q rest (a.put o.dst v') w') : wpList Tryd.prog ops Q (o :: rest) a w := by
  obtain ⟨i0, hi, hx'⟩ := Option.map_eq_some_iff.1 infoT
  simp only [Prod.mk.injEq] at hx'
  obtain ⟨hz0, hz1, hz2⟩ := hx'
  refine wpList_append_own w hgd s x T ho base 9 i0 _ 1 16 hT hi hz0 hz1 hz2 rfl (by decide) v _ _ hs hown _ 1 1 [.string y] hx rfl ?_ (by intro u hu; simp at hu; subst hu; rfl) (by unfold maxLen; omega) (mul_room hlen (by decide)) hbase ?_
  · intro j u hu
    match j, hu with
    | 0, hu => simp at hu; subst hu; simpa [Addr.add_lit] using hr
    | j + 1, hu => simp at hu
  · intro v' w' h1 h2 _
    refine h v' w' ?_ h2
    unfold OwnT
    rw [List.length_append, show encT (L ++ [y]) = encT L ++ [.string y] from by simp [encT]]
    exact h1
end Go.Proofs.YtcepiapidcofiaaDoor.Own
