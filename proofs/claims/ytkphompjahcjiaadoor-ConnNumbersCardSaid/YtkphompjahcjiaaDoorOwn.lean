/-
  Slices of integers of one kind: what is read in them, and what a call owns; an append to one of the call's own, alone and as a step of a region that draws its order.
-/

import Derived.Test.YtkphompjahcjiaaDoorBase
import Derived.WalkLawsBesides
import Derived.Lib.Hide
import Derived.Laws.OwnMore
import Derived.Deep.Draws
import Derived.OwnWalk
import Derived.Laws.AppendOwnNone
import Derived.Deep.RegionLaw
namespace Go.Proofs.YtkphompjahcjiaaDoor.Own
open Go.RowKit

theorem below_drewN {B : Nat} {a w : World} (h : Below B a w) (n : Nat) : Below B a (w.drewN n) := h.trans ⟨rfl, rfl, rfl, Nat.le_refl _, fun _ _ => rfl⟩
theorem cell_below {w w' : World} (hb : Below w.heap.size w w') {b o : Nat} (h : b < w.heap.size) : w'.cell? ⟨b, o, none⟩ = w.cell? ⟨b, o, none⟩ := hb.cell (p := ⟨b, o, none⟩) h

def Info (k : IntKind) (e : TypeId) (y : Nat) : Prop := (Tryd.prog.info? e).map (fun i => (i.zero, i.size, i.bytes)) = some (some (.int k 0), 1, y)
/-! ### reading -/
def RdI (k : IntKind) (w : World) (a : Option Addr) (n : Nat) (L : List Int) : Prop :=
  n = L.length ∧ (0 < n → ∃ b off, a = some ⟨b, off, none⟩ ∧ b < w.heap.size ∧ ∀ i, i < n → w.cell? ⟨b, off + i, none⟩ = some (.int k (L.getD i 0)))
section
variable {κ : IntKind} {w w' : World} {a : Option Addr} {n : Nat} {L : List Int}
theorem RdI.below (h : RdI κ w a n L) (hb : Below w.heap.size w w') : RdI κ w' a n L :=
  ⟨h.1, fun hn => by
    obtain ⟨b, off, e, hlt, hc⟩ := h.2 hn
    exact ⟨b, off, e, Nat.lt_of_lt_of_le hlt hb.size, fun i hi => (cell_below hb hlt).trans (hc i hi)⟩⟩
theorem RdI.alloc (h : RdI κ w a n L) (o : Obj) : RdI κ (w.alloc o) a n L := h.below ((Below.refl _ w).alloc (Nat.le_refl _) o)
theorem RdI.drewN (h : RdI κ w a n L) (k : Nat) : RdI κ (w.drewN k) a n L := h.below (below_drewN (Below.refl _ w) k)
theorem RdI.at_ {k : Nat} (h : RdI κ w a n L) (hk : k < n) : ∃ b off, a = some ⟨b, off, none⟩ ∧ b < w.heap.size ∧ w.cell? ⟨b, off + k, none⟩ = some (.int κ (L.getD k 0)) := by
  obtain ⟨b, off, e, hlt, hc⟩ := h.2 (by omega)
  exact ⟨b, off, e, hlt, hc k hk⟩
end

/-! ### owning -/
def encI (κ : IntKind) (L : List Int) : List Value := L.map (Value.int κ)
def OwnI (κ : IntKind) (τ : TypeId) (w : World) (base : Nat) (v : Value) (L : List Int) : Prop := w.ownsRow base τ 1 v L.length (encI κ L)
section
variable {κ : IntKind} {τ : TypeId} {w w' : World} {base size n : Nat} {v : Value} {e : TypeId} {xs : List Value} {L : List Int}
theorem own_below (h : w.ownsRow base e size v n xs) (hb : Below w.heap.size w w') : w'.ownsRow base e size v n xs := by
  refine ⟨h.1, ?_⟩
  rcases h.2 with hn | ⟨g, cap, cur, rfl, hg, hh, rest⟩
  · exact .inl hn
  · have hlt : g < w.heap.size := (Array.getElem?_eq_some_iff.1 hh).1
    exact .inr ⟨g, cap, cur, rfl, hg, (hb.block g hlt).trans hh, rest⟩
theorem own_base {base' : Nat} (h : w.ownsRow base e size v n xs) (hb : base' ≤ base) : w.ownsRow base' e size v n xs := by
  refine ⟨h.1, ?_⟩
  rcases h.2 with hn | ⟨g, cap, cur, rfl, hg, hh, rest⟩
  · exact .inl hn
  · exact .inr ⟨g, cap, cur, rfl, Nat.le_trans hb hg, hh, rest⟩
/-- how long a slice may be, and what it can hold -/
def Fit (a : Option Addr) (n cap : Nat) : Prop := n ≤ cap ∧ cap ≤ maxLen ∧ (a = none → cap = 0)
theorem own_form (h : w.ownsRow base e size v n xs) : ∃ a cap, v = .slice a n cap ∧ Fit a n cap ∧ (0 < n → ∃ g, a = some ⟨g, 0, none⟩ ∧ base ≤ g ∧ g < w.heap.size ∧ ∀ j u, xs[j]? = some u → w.cell? ⟨g, j, none⟩ = some u) := by
  rcases h.2 with ⟨rfl, rfl⟩ | ⟨g, cap, cur, rfl, hg, hh, hnc, hcm, _⟩
  · exact ⟨none, 0, rfl, ⟨Nat.le_refl _, by simp [maxLen], fun _ => rfl⟩, fun h => absurd h (by omega)⟩
  · refine ⟨_, cap, rfl, ⟨hnc, hcm, fun h => by cases h⟩, fun _ => ⟨g, rfl, hg, (Array.getElem?_eq_some_iff.1 hh).1, fun j u hu => ?_⟩⟩
    have := h.cells (g := g) rfl j u hu
    rw [Addr.add_lit, Nat.zero_add] at this
    exact this
theorem OwnI.below (h : OwnI κ τ w base v L) (hb : Below w.heap.size w w') : OwnI κ τ w' base v L := own_below h hb
theorem OwnI.lower {base' : Nat} (h : OwnI κ τ w base v L) (hb : base' ≤ base) : OwnI κ τ w base' v L := own_base h hb
theorem OwnI.nil : OwnI κ τ w base (.slice none 0 0) [] := World.ownsRow_nil _ _ _ _
theorem OwnI.form (h : OwnI κ τ w base v L) : ∃ a n cap, v = .slice a n cap ∧ Fit a n cap ∧ RdI κ w a n L := by
  obtain ⟨a, cap, rfl, h1, h3⟩ := own_form h
  refine ⟨a, _, cap, rfl, h1, rfl, fun hn => ?_⟩
  obtain ⟨g, rfl, _, hlt, hc⟩ := h3 hn
  refine ⟨g, 0, rfl, hlt, fun i hi => ?_⟩
  rw [Nat.zero_add]
  refine hc i _ ?_
  simp [encI, List.getD, hi]
/-- an empty slice of the call's own (a literal of none, or one that was cut to none) -/
theorem ownI_empty (w : World) (cur : Array Value) (hb : base ≤ w.heap.size) (hs : cur.size = 0) : OwnI κ τ (w.alloc (.cells cur τ)) base (.slice (some ⟨w.heap.size, 0, none⟩) 0 0) [] :=
  World.ownsRow_made w cur 0 hb (by simp [maxLen]) (by simpa using hs)
theorem own_grown {w0 : World} (hb : Below base w0 w) (hs : base ≤ w.heap.size) (h : w.grownBy w' v.ownBlock) (ho : w.ownsRow base e size v n xs) : Below base w0 w' :=
  hb.grown h hs (fun j hj => (ho.lt j hj).1)
end
theorem rdI_encI {κ : IntKind} {w : World} {b off n : Nat} {M : List Int} (h : RdI κ w (some ⟨b, off, none⟩) n M) : (encI κ M).length = n * 1 ∧ (∀ j u, (encI κ M)[j]? = some u → w.cell? ((⟨b, off, none⟩ : Addr).add j) = some u) ∧ ∀ u ∈ encI κ M, u.oneCell' = true := by
  refine ⟨by rw [encI, List.length_map, h.1, Nat.mul_one], fun j u hu => ?_, fun u hu => ?_⟩
  · have hj : j < M.length := by
      have := (List.getElem?_eq_some_iff.1 hu).1
      simpa [encI] using this
    have h1 := h.1
    obtain ⟨b', off', e, _, hc⟩ := h.at_ (k := j) (by omega)
    cases e
    rw [Addr.add_lit, hc]
    simpa [encI, List.getD, hj] using hu
  · simp only [encI, List.mem_map] at hu
    obtain ⟨z, _, rfl⟩ := hu
    rfl
theorem mul_room {n y : Nat} (h : n ≤ 1000000) (hy : y ≤ 16) : n * y ≤ 140737488355328 := Nat.le_trans (Nat.mul_le_mul h hy) (by decide)
theorem wpList_appI {κ : IntKind} {τ : TypeId} {y : Nat} (info : Info κ τ y) (hy : y ≤ 16) {w : World} {ops : Array Oper} {rest : List Oper} {o : Oper} {a : Act} {Q : Exit → Act → World → Prop} (hgd : o.guard = none) (s x : Operand) (T : TypeId)
    (ho : o.op = .call { callee := .builtin .append, args := #[s, x], argTypes := #[T, T] }) (hT : Tryd.prog.underlying T = some (.slice τ)) (base : Nat)
    (v : Value) (L : List Int) (hs : a.eval s = v) (hown : OwnI κ τ w base v L) (A : Option Addr) (m c : Nat) (M : List Int) (hx : a.eval x = .slice A m c) (hr : RdI κ w A m M) (hf : A = none → c = 0)
    (hlen : L.length + m ≤ 1000000) (hbase : base ≤ w.heap.size)
    (h : ∀ v' w', OwnI κ τ w' base v' (L ++ M) → w.grownBy w' v.ownBlock → wpList Tryd.prog ops Q rest (a.put o.dst v') w') : wpList Tryd.prog ops Q (o :: rest) a w := by
  obtain ⟨i0, hi, hz0, hz1, hz2⟩ := info_parts info
  have hlm := hr.1
  cases A with
  | none =>
    have hc := hf rfl
    subst hc
    have hm : m = 0 := by
      rcases Nat.eq_zero_or_pos m with h0 | h0
      · exact h0
      · obtain ⟨_, _, e, _⟩ := hr.2 h0; cases e
    subst hm
    have hM : M = [] := List.eq_nil_of_length_eq_zero hlm.symm
    subst hM
    refine wpList_append_own_none hgd s x T ho base τ i0 1 hT hi v _ _ hs hown hx ?_
    exact h v w (by rw [List.append_nil]; exact hown) (World.grownBy.refl w _)
  | some ad =>
    rcases Nat.eq_zero_or_pos m with h0 | h0
    · subst h0
      have hM : M = [] := List.eq_nil_of_length_eq_zero hlm.symm
      subst hM
      refine wpList_append_own w hgd s x T ho base τ i0 _ 1 y hT hi hz0 hz1 hz2 rfl (by decide) v _ _ hs hown ad 0 c [] hx rfl (by simp) (by simp) (by unfold maxLen; omega) (mul_room hlen hy) hbase ?_
      intro v' w' h1 h2 _
      exact h v' w' (by simpa [OwnI, encI] using h1) h2
    · obtain ⟨b, off, e, _⟩ := hr.2 h0
      cases e
      obtain ⟨e1, e2, e3⟩ := rdI_encI hr
      refine wpList_append_own w hgd s x T ho base τ i0 _ 1 y hT hi hz0 hz1 hz2 rfl (by decide) v _ _ hs hown _ m c (encI κ M) hx e1 e2 e3 (by unfold maxLen; omega) (mul_room hlen hy) hbase ?_
      intro v' w' h1 h2 _
      refine h v' w' ?_ h2
      unfold OwnI
      rw [List.length_append, ← hlm, show encI κ (L ++ M) = encI κ L ++ encI κ M from by simp [encI]]
      exact h1

/-- what a literal of a few numbers reads as -/
theorem rdI_lit1 (κ : IntKind) (τ : TypeId) (w : World) (x : Int) : RdI κ (w.alloc (.cells #[.int κ x] τ)) (some ⟨w.heap.size, 0, none⟩) 1 [x] :=
  ⟨rfl, fun _ => ⟨_, 0, rfl, by simp, fun i hi => by obtain rfl : i = 0 := by omega
                                                     simp⟩⟩
theorem rdI_lit1_at (κ : IntKind) (τ : TypeId) (w : World) (x : Int) (g : Nat) (hg : g = w.heap.size) : RdI κ (w.alloc (.cells #[.int κ x] τ)) (some ⟨g, 0, none⟩) 1 [x] := by
  subst hg; exact rdI_lit1 κ τ w x
theorem rdI_lit4 (κ : IntKind) (τ : TypeId) (w : World) (a b c d : Int) : RdI κ (w.alloc (.cells #[.int κ a, .int κ b, .int κ c, .int κ d] τ)) (some ⟨w.heap.size, 0, none⟩) 4 [a, b, c, d] :=
  ⟨rfl, fun _ => ⟨_, 0, rfl, by simp, fun i hi => by
    rcases (show i = 0 ∨ i = 1 ∨ i = 2 ∨ i = 3 by omega) with rfl | rfl | rfl | rfl <;> simp⟩⟩
theorem rdI_lit4_at (κ : IntKind) (τ : TypeId) (w : World) (a b c d : Int) (g : Nat) (hg : g = w.heap.size) : RdI κ (w.alloc (.cells #[.int κ a, .int κ b, .int κ c, .int κ d] τ)) (some ⟨g, 0, none⟩) 4 [a, b, c, d] := by
  subst hg; exact rdI_lit4 κ τ w a b c d
theorem getD_take {α : Type} (l : List α) (d : α) (i k : Nat) (h : i < k) : (l.take k).getD i d = l.getD i d := by simp [List.getD, h]
theorem take_succ' {α : Type} (l : List α) (d : α) (k : Nat) (h : k < l.length) : l.take (k + 1) = l.take k ++ [l.getD k d] := by
  rw [List.take_succ_eq_append_getElem h]
  simp [List.getD, h]
theorem step_appI {κ : IntKind} {τ : TypeId} {y : Nat} (info : Info κ τ y) (hy : y ≤ 16) {w : World} {ops : Array Oper} {o : Oper} {a : Act} {K : Act → World → Prop} {Q : Exit → Act → World → Prop} {E : Prop} (hgd : o.guard = none) (s x : Operand) (T : TypeId)
    (ho : o.op = .call { callee := .builtin .append, args := #[s, x], argTypes := #[T, T] }) (hT : Tryd.prog.underlying T = some (.slice τ)) (base : Nat)
    (v : Value) (L : List Int) (hs : a.eval s = v) (hown : OwnI κ τ w base v L) (A : Option Addr) (m c : Nat) (M : List Int) (hx : a.eval x = .slice A m c) (hr : RdI κ w A m M) (hf : A = none → c = 0)
    (hlen : L.length + m ≤ 1000000) (hbase : base ≤ w.heap.size)
    (h : ∀ v' w', OwnI κ τ w' base v' (L ++ M) → w.grownBy w' v.ownBlock → K (a.put o.dst v') w') : if Region.wanted o (yielded ops a.tmps) = true then Oper.wp Tryd.prog o a w K Q else E := by
  have hw : Region.wanted o (yielded ops a.tmps) = true := by simp [Region.wanted, hgd]
  rw [if_pos hw]
  obtain ⟨i0, hi, hz0, hz1, hz2⟩ := info_parts info
  have hlm := hr.1
  cases A with
  | none =>
    have hc := hf rfl
    subst hc
    have hm : m = 0 := by
      rcases Nat.eq_zero_or_pos m with h0 | h0
      · exact h0
      · obtain ⟨_, _, e, _⟩ := hr.2 h0; cases e
    subst hm
    have hM : M = [] := List.eq_nil_of_length_eq_zero hlm.symm
    subst hM
    have hrun := run_append_owned_none (P := Tryd.prog) (w := w) base T o.type τ i0 1 hT hi v _ _ hown
    unfold Oper.wp
    simp [execOp, ho, resolve, invoke, builtin, hs, hx, hrun, Result.andThen]
    exact h v w (by rw [List.append_nil]; exact hown) (World.grownBy.refl w _)
  | some ad =>
    rcases Nat.eq_zero_or_pos m with h0 | h0
    · subst h0
      have hM : M = [] := List.eq_nil_of_length_eq_zero hlm.symm
      subst hM
      refine wp_append_own w s x T ho base τ i0 _ 1 y hT hi hz0 hz1 hz2 rfl (by decide) v _ _ hs hown ad 0 c [] hx rfl (by simp) (by simp) (by unfold maxLen; omega) (mul_room hlen hy) hbase ?_
      intro v' w' h1 h2 _
      exact h v' w' (by simpa [OwnI, encI] using h1) h2
    · obtain ⟨b, off, e, _⟩ := hr.2 h0
      cases e
      obtain ⟨e1, e2, e3⟩ := rdI_encI hr
      refine wp_append_own w s x T ho base τ i0 _ 1 y hT hi hz0 hz1 hz2 rfl (by decide) v _ _ hs hown _ m c (encI κ M) hx e1 e2 e3 (by unfold maxLen; omega) (mul_room hlen hy) hbase ?_
      intro v' w' h1 h2 _
      refine h v' w' ?_ h2
      unfold OwnI
      rw [List.length_append, ← hlm, show encI κ (L ++ M) = encI κ L ++ encI κ M from by simp [encI]]
      exact h1
end Go.Proofs.YtkphompjahcjiaaDoor.Own
