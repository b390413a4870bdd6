/-
  An append of numbers under a guard that says yes; a slice that a literal made.
-/
import Derived.Test.YtpaogpjdkkkihaaOwn
namespace Go.Proofs.Ytpaogpjdkkkihaa.Own
open Go.RowKit

theorem wp_appU {κ : IntKind} {τ : TypeId} {y : Nat} (info : Info κ τ y) (hy : y ≤ 16) {w : World} {o : Oper} {a : Act} {K : Act → World → Prop} {Q : Exit → Act → World → Prop} (s x : Operand) (T : TypeId)
    (ho : o.op = .call { callee := .builtin .append, args := #[s, x], argTypes := #[T, T] }) (hT : Try.prog.underlying T = some (.slice τ)) (base : Nat)
    (v : Value) (L : List Int) (hs : a.eval s = v) (hown : OwnI κ τ w base v L) (A : Option Addr) (m c : Nat) (M : List Int) (hx : a.eval x = .slice A m c) (hr : RdI κ w A m M) (hf : A = none → c = 0)
    (hlen : L.length + m ≤ 1000000) (hbase : base ≤ w.heap.size)
    (h : ∀ v' w', OwnI κ τ w' base v' (L ++ M) → w.grownBy w' v.ownBlock → K (a.put o.dst v') w') : Oper.wp Try.prog o a w K Q := by
  obtain ⟨i0, hi, hz0, hz1, hz2⟩ := info_parts info
  have hlm := hr.1
  cases A with
  | none =>
    have hc := hf rfl
    subst hc
    have hm : m = 0 := by
      rcases Nat.eq_zero_or_pos m with h0 | h0
      · exact h0
      · obtain ⟨_, _, e, _⟩ := hr.2 h0; cases e
    subst hm
    have hM : M = [] := List.eq_nil_of_length_eq_zero hlm.symm
    subst hM
    have hrun := run_append_owned_none (P := Try.prog) (w := w) base T o.type τ i0 1 hT hi v _ _ hown
    unfold Oper.wp
    simp [execOp, ho, resolve, invoke, builtin, hs, hx, hrun, Result.andThen]
    exact h v w (by rw [List.append_nil]; exact hown) (World.grownBy.refl w _)
  | some ad =>
    rcases Nat.eq_zero_or_pos m with h0 | h0
    · subst h0
      have hM : M = [] := List.eq_nil_of_length_eq_zero hlm.symm
      subst hM
      refine wp_append_own w s x T ho base τ i0 _ 1 y hT hi hz0 hz1 hz2 rfl (by decide) v _ _ hs hown ad 0 c [] hx rfl (by simp) (by simp) (by unfold maxLen; omega) (mul_room hlen hy) hbase ?_
      intro v' w' h1 h2 _
      exact h v' w' (by simpa [OwnI, encI] using h1) h2
    · obtain ⟨b, off, e, _⟩ := hr.2 h0
      cases e
      obtain ⟨e1, e2, e3⟩ := rdI_encI hr
      refine wp_append_own w s x T ho base τ i0 _ 1 y hT hi hz0 hz1 hz2 rfl (by decide) v _ _ hs hown _ m c (encI κ M) hx e1 e2 e3 (by unfold maxLen; omega) (mul_room hlen hy) hbase ?_
      intro v' w' h1 h2 _
      refine h v' w' ?_ h2
      unfold OwnI
      rw [List.length_append, ← hlm, show encI κ (L ++ M) = encI κ L ++ encI κ M from by simp [encI]]
      exact h1

theorem wpList_appU_on {κ : IntKind} {τ : TypeId} {y : Nat} (info : Info κ τ y) (hy : y ≤ 16) {w : World} {ops : Array Oper} {rest : List Oper} {o : Oper} {a : Act} {Q : Exit → Act → World → Prop} (hgd : Region.wanted o (yielded ops a.tmps) = true) (s x : Operand) (T : TypeId)
    (ho : o.op = .call { callee := .builtin .append, args := #[s, x], argTypes := #[T, T] }) (hT : Try.prog.underlying T = some (.slice τ)) (base : Nat)
    (v : Value) (L : List Int) (hs : a.eval s = v) (hown : OwnI κ τ w base v L) (A : Option Addr) (m c : Nat) (M : List Int) (hx : a.eval x = .slice A m c) (hr : RdI κ w A m M) (hf : A = none → c = 0)
    (hlen : L.length + m ≤ 1000000) (hbase : base ≤ w.heap.size)
    (h : ∀ v' w', OwnI κ τ w' base v' (L ++ M) → w.grownBy w' v.ownBlock → wpList Try.prog ops Q rest (a.put o.dst v') w') : wpList Try.prog ops Q (o :: rest) a w :=
  wpList_step fun K hK => by
    rw [if_pos hgd]
    exact wp_appU info hy s x T ho hT base v L hs hown A m c M hx hr hf hlen hbase fun v' w' h1 h2 => hK _ _ (h v' w' h1 h2)
end Go.Proofs.Ytpaogpjdkkkihaa.Own
