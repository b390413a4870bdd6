/-
  An append to a row of numbers of the call's own, as one step of a region that draws its order.
-/
import Derived.Test.YtocbehmfbaliiaaLaw04Far
namespace Go.Proofs.Ytocbehmfbaliiaa.RingI
open Go.RowKit View

theorem step_appI {w : World} {ops : Array Oper} {o : Oper} {a : Act} {K : Act → World → Prop} {Q : Exit → Act → World → Prop} {E : Prop} (hgd : o.guard = none) (s x : Operand) (T : TypeId)
    (ho : o.op = .call { callee := .builtin .append, args := #[s, x], argTypes := #[T, T] }) (hT : Try.prog.underlying T = some (.slice 3)) (base : Nat)
    (v : Value) (L : List Int) (hs : a.eval s = v) (hown : OwnI w base v L) (A : Option Addr) (m c : Nat) (M : List Int) (hx : a.eval x = .slice A m c) (hr : RdI w A m M) (hf : A = none → c = 0)
    (hlen : L.length + m ≤ 1000000) (hbase : base ≤ w.heap.size)
    (h : ∀ v' w', OwnI w' base v' (L ++ M) → w.grownBy w' v.ownBlock → K (a.put o.dst v') w') : if Region.wanted o (yielded ops a.tmps) = true then Oper.wp Try.prog o a w K Q else E := by
  have hw : Region.wanted o (yielded ops a.tmps) = true := by simp [Region.wanted, hgd]
  rw [if_pos hw]
  obtain ⟨i0, hi, hz0, hz1, hz2⟩ := info_parts intInfo
  have hlm := hr.1
  cases A with
  | none =>
    have hc := hf rfl
    subst hc
    have hm : m = 0 := by
      rcases Nat.eq_zero_or_pos m with h0 | h0
      · exact h0
      · obtain ⟨_, _, e, _⟩ := hr.2 h0; cases e
    subst hm
    have hM : M = [] := List.eq_nil_of_length_eq_zero hlm.symm
    subst hM
    have hrun := run_append_owned_none (P := Try.prog) (w := w) base T o.type 3 i0 1 hT hi v _ _ hown
    unfold Oper.wp
    simp [execOp, ho, resolve, invoke, builtin, hs, hx, hrun, Result.andThen]
    exact h v w (by rw [List.append_nil]; exact hown) (World.grownBy.refl w _)
  | some ad =>
    rcases Nat.eq_zero_or_pos m with h0 | h0
    · subst h0
      have hM : M = [] := List.eq_nil_of_length_eq_zero hlm.symm
      subst hM
      refine wp_append_own w s x T ho base 3 i0 _ 1 8 hT hi hz0 hz1 hz2 rfl (by decide) v _ _ hs hown ad 0 c [] hx rfl (by simp) (by simp) (by unfold maxLen; omega) (by omega) hbase ?_
      intro v' w' h1 h2 _
      exact h v' w' (by simpa [OwnI, encI] using h1) h2
    · obtain ⟨b, off, e, _⟩ := hr.2 h0
      cases e
      obtain ⟨e1, e2, e3⟩ := rdI_encI hr
      refine wp_append_own w s x T ho base 3 i0 _ 1 8 hT hi hz0 hz1 hz2 rfl (by decide) v _ _ hs hown _ m c (encI M) hx e1 e2 e3 (by unfold maxLen; omega) (by omega) hbase ?_
      intro v' w' h1 h2 _
      refine h v' w' ?_ h2
      unfold OwnI
      rw [List.length_append, ← hlm, show encI (L ++ M) = encI L ++ encI M from by simp [encI]]
      exact h1
theorem step_appB {w2 w : World} {ops : Array Oper} {o : Oper} {a : Act} {K : Act → World → Prop} {Q : Exit → Act → World → Prop} {E : Prop} (hgd : o.guard = none) (s x : Operand)
    (ho : o.op = .call { callee := .builtin .append, args := #[s, x], argTypes := #[26, 26] })
    (v : Value) (L : List Int) (hs : a.eval s = v) (hb : Below w2.heap.size w2 w) (hown : OwnI w w2.heap.size v L) (A : Option Addr) (m c : Nat) (M : List Int) (hx : a.eval x = .slice A m c) (hr : RdI w A m M) (hf : A = none → c = 0)
    (hlen : L.length + m ≤ 1000000)
    (h : ∀ v' w', OwnI w' w2.heap.size v' (L ++ M) → w.grownBy w' v.ownBlock → Below w2.heap.size w2 w' → K (a.put o.dst v') w') : if Region.wanted o (yielded ops a.tmps) = true then Oper.wp Try.prog o a w K Q else E :=
  step_appI hgd s x 26 ho Try.underlying26 w2.heap.size v L hs hown A m c M hx hr hf hlen hb.size (fun v' w' h1 h2 => h v' w' h1 h2 (own_grown hb hb.size h2 hown))
theorem empty_at (w : World) (base b : Nat) (hb : b = w.heap.size) (hs : base ≤ w.heap.size) : OwnI (w.alloc (.cells #[] 3)) base (.slice (some ⟨b, 0, none⟩) 0 0) [] := by
  subst hb; exact ownI_empty w #[] hs rfl
theorem lit_at (w : World) (x : Int) (b : Nat) (hb : b = w.heap.size) : RdI (w.alloc (.cells #[.int .i64 x] 3)) (some ⟨b, 0, none⟩) 1 [x] := by
  subst hb; exact rdI_lit1 w x
theorem rd_grown {w w' : World} {b off n k : Nat} {v : Value} {L : List Int} (h : RdI w (some ⟨b, off, none⟩) n L) (hg : w.grownBy w' v.ownBlock) (hv : v.ownBlock = some k) (hne : b ≠ k) : RdI w' (some ⟨b, off, none⟩) n L :=
  ⟨h.1, fun hn => by
    obtain ⟨b', off', e, hlt, hc⟩ := h.2 hn
    cases e
    refine ⟨b, off, rfl, Nat.lt_of_lt_of_le hlt hg.size, fun i hi => ?_⟩
    exact (World.cell?_of_block (a := ⟨b, off + i, none⟩) (hg.block b hlt (by rw [hv]; intro e; injection e with e; first | exact hne e | exact hne e.symm))).trans (hc i hi)⟩
end Go.Proofs.Ytocbehmfbaliiaa.RingI
