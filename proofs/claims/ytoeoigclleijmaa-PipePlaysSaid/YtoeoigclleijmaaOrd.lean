/-
  A row of strings and two lists of strings that a call makes, all in memory of their own.
-/
import Derived.Test.YtoeoigclleijmaaRowKit
import Derived.Test.YtoeoigclleijmaaViewT
import Derived.Maps.AppendAt
namespace Go.Proofs.Ytoeoigclleijmaa.OrdT
open Go.RowKit RingS ViewT

theorem wpList_appT_at {w : World} {ops : Array Oper} {rest : List Oper} {o : Oper} {a : Act} {Q : Exit → Act → World → Prop} (hgd : o.guard = none) (s x : Operand)
    (ho : o.op = .call { callee := .builtin .append, args := #[s, x], argTypes := #[26, 26] }) (base : Nat)
    (v : Value) (L : List ByteArray) (hs : a.eval s = v) (hown : OwnI w base v L) (b off c : Nat) (y : ByteArray) (hx : a.eval x = .slice (some ⟨b, off, none⟩) 1 c) (hr : RdI w (some ⟨b, off, none⟩) 1 [y])
    (hlen : L.length + 1 ≤ 1000000) (hbase : base ≤ w.heap.size)
    (h : ∀ v' w', OwnI w' base v' (L ++ [y]) → w.grownBy w' v.ownBlock → (v'.ownBlock = v.ownBlock ∨ v'.ownBlock = some w.heap.size) → wpList Try.prog ops Q rest (a.put o.dst v') w') : wpList Try.prog ops Q (o :: rest) a w := by
  obtain ⟨i0, hi, hz0, hz1, hz2⟩ := info_parts intInfo
  obtain ⟨e1, e2, e3⟩ := rdI_encI hr
  refine wpList_append_own_at w hgd s x 26 ho base 9 i0 _ 1 16 Try.underlying26 hi hz0 hz1 hz2 rfl (by decide) v _ _ hs hown _ 1 c (ViewT.encI [y]) hx e1 e2 e3 (by unfold maxLen; omega) (by omega) hbase ?_
  intro v' w' h1 h2 _ h4
  refine h v' w' ?_ h2 h4
  unfold OwnI
  rw [List.length_append, show ViewT.encI (L ++ [y]) = ViewT.encI L ++ ViewT.encI [y] from by simp [ViewT.encI]]
  exact h1

theorem own_only {x x' : World} {base R : Nat} {G : Option Nat} {v : Value} {L : List ByteArray} (h : OwnI x base v L) (ho : Only x x' R G) (ha : ∀ k, v.ownBlock = some k → k ≠ R ∧ G ≠ some k) : OwnI x' base v L := by
  refine ⟨h.1, ?_⟩
  rcases h.2 with hn | ⟨g, cap, cur, rfl, hg, hh, rest⟩
  · exact .inl hn
  · have := ha g rfl
    exact .inr ⟨g, cap, cur, rfl, hg, (ho.block g (Array.getElem?_eq_some_iff.1 hh).1 this.1 this.2).trans hh, rest⟩
theorem mine_grown {w x x' : World} {base R most : Nat} {L I : List ByteArray} {G : Option Nat} {v : Value} (h : Mine w base R most L G x) (ho : OwnI x base v I) (hg : x.grownBy x' v.ownBlock) (ha : ∀ k, v.ownBlock = some k → k ≠ R ∧ G ≠ some k) : Mine w base R most L G x' := by
  refine ⟨h.1.grown hg h.2.1 (fun j hj => (ho.lt j hj).1), Nat.le_trans h.2.1 hg.size, h.2.2.1, ?_, h.2.2.2.2⟩
  obtain ⟨P, n, first, cur, hr⟩ := h.2.2.2.1
  refine ⟨P, n, first, cur, hr.keep fun k hk => ?_⟩
  rcases hk with rfl | hk
  · exact hg.block k hr.lt (fun e => (ha k e.symm).1 rfl)
  · exact hg.block k (hr.ltG k hk) (fun e => (ha k e.symm).2 hk)

structure Two (w : World) (base R most : Nat) (L : List ByteArray) (G : Option Nat) (v : Value) (I : List ByteArray) (u : Value) (O : List ByteArray) (x : World) : Prop where
  mine : Mine w base R most L G x
  own1 : OwnI x base v I
  own2 : OwnI x base u O
  far1 : ∀ k, v.ownBlock = some k → k ≠ R ∧ G ≠ some k
  far2 : ∀ k, u.ownBlock = some k → k ≠ R ∧ G ≠ some k
  ne : v.ownBlock = none ∨ u.ownBlock = none ∨ v.ownBlock ≠ u.ownBlock
section
variable {w x x' : World} {base R most : Nat} {L I O : List ByteArray} {G : Option Nat} {v u : Value}
theorem Two.below (h : Two w base R most L G v I u O x) (hb : Below x.heap.size x x') : Two w base R most L G v I u O x' :=
  ⟨h.mine.below hb, h.own1.below hb, h.own2.below hb, h.far1, h.far2, h.ne⟩
theorem Two.ring {L' : List ByteArray} {G' : Option Nat} (h : Two w base R most L G v I u O x) (hm : Mine w base R most L' G' x') (ho : Only x x' R G) (hG : G' = G ∨ ∃ g, G' = some g ∧ x.heap.size ≤ g) : Two w base R most L' G' v I u O x' := by
  refine ⟨hm, own_only h.own1 ho h.far1, own_only h.own2 ho h.far2, fun k hk => ⟨(h.far1 k hk).1, ?_⟩, fun k hk => ⟨(h.far2 k hk).1, ?_⟩, h.ne⟩
  · rcases hG with hG | ⟨g, hG, hg⟩
    · rw [hG]; exact (h.far1 k hk).2
    · rw [hG]; intro e; injection e with e; have := (h.own1.lt k hk).2; omega
  · rcases hG with hG | ⟨g, hG, hg⟩
    · rw [hG]; exact (h.far2 k hk).2
    · rw [hG]; intro e; injection e with e; have := (h.own2.lt k hk).2; omega
theorem Two.app1 {v' : Value} {I' : List ByteArray} (h : Two w base R most L G v I u O x) (hg : x.grownBy x' v.ownBlock) (ho : OwnI x' base v' I') (hv : v'.ownBlock = v.ownBlock ∨ v'.ownBlock = some x.heap.size) : Two w base R most L G v' I' u O x' := by
  have hf := h.mine.2.2.2.1.facts
  refine ⟨mine_grown h.mine h.own1 hg h.far1, ho, World.ownsRow.kept h.own2 hg ?_, ?_, h.far2, ?_⟩
  · rcases h.ne with e | e | e
    · rcases hu : u.ownBlock with _ | k
      · exact .inl rfl
      · right; rw [e]; simp
    · exact .inl e
    · exact .inr (fun e2 => e e2.symm)
  · intro k hk
    rcases hv with e | e
    · exact h.far1 k (by rw [← e]; exact hk)
    · rw [e] at hk; injection hk with hk; subst hk
      exact ⟨fun e2 => by have := hf.2.2.1; omega, fun e2 => by have := hf.2.2.2 _ e2; omega⟩
  · rcases hv with e | e
    · rw [e]; exact h.ne
    · right
      rcases hu : u.ownBlock with _ | k
      · exact .inl rfl
      · right; rw [e]; intro e2; injection e2 with e2; have := (h.own2.lt k hu).2; omega
theorem Two.swap (h : Two w base R most L G v I u O x) : Two w base R most L G u O v I x :=
  ⟨h.mine, h.own2, h.own1, h.far2, h.far1, by rcases h.ne with e | e | e
                                              · exact .inr (.inl e)
                                              · exact .inl e
                                              · exact .inr (.inr (fun e2 => e e2.symm))⟩
end
theorem len_two {w x : World} {base R most : Nat} {L I O : List ByteArray} {G : Option Nat} {v u : Value} (h : Two w base R most L G v I u O x) :
    Calls Try.prog 14 #[.pointer (some ⟨R, 0, none⟩)] x fun e x' => e = .returned (.int .i64 (L.length : Int)) ∧ x = x' := rlen_any R most L G x h.mine.2.2.2.1
theorem Two.grown2 {w x x' : World} {base R most : Nat} {L I O : List ByteArray} {G : Option Nat} {v u : Value} (h : Two w base R most L G v I u O x) (hg : x.grownBy x' u.ownBlock) : Mine w base R most L G x' ∧ OwnI x' base v I := by
  refine ⟨mine_grown h.mine h.own2 hg h.far2, World.ownsRow.kept h.own1 hg ?_⟩
  rcases h.ne with e | e | e
  · exact .inl e
  · rcases hu : v.ownBlock with _ | k
    · exact .inl rfl
    · right; rw [e]; simp
  · exact .inr e
end Go.Proofs.Ytoeoigclleijmaa.OrdT
