/-
  A pipe and a list of strings that a call makes, in memory of their own; the choices that came in.
-/
import Derived.Test.YtoeoigclleijmaaPipe4
import Derived.Test.YtoeoigclleijmaaOrd
import Derived.Test.YtoeoigclleijmaaRead
namespace Go.Proofs.Ytoeoigclleijmaa.PipeS
open Go.RowKit RingS ViewT TurnP

def Far (B R : Nat) (G : Option Nat) (v : Value) : Prop := ∀ k, v.ownBlock = some k → k ≠ B ∧ k ≠ R ∧ G ≠ some k
theorem own_ponly {x x' : World} {base B R : Nat} {G : Option Nat} {v : Value} {I : List V} (h : OwnI x base v I) (ho : POnly x x' B R G) (ha : Far B R G v) : OwnI x' base v I := by
  refine ⟨h.1, ?_⟩
  rcases h.2 with hn | ⟨g, cap, cur, rfl, hg, hh, rest⟩
  · exact .inl hn
  · obtain ⟨h1, h2, h3⟩ := ha g rfl
    exact .inr ⟨g, cap, cur, rfl, hg, (ho.block g (Array.getElem?_eq_some_iff.1 hh).1 h1 h2 h3).trans hh, rest⟩
theorem PAt.grown {w x x' : World} {base B R most : Nat} {L I : List V} {G : Option Nat} {p c h : Nat} {v : Value} (H : PAt w base B R most L G p c h x) (ho : OwnI x base v I) (hg : x.grownBy x' v.ownBlock) (ha : Far B R G v) : PAt w base B R most L G p c h x' :=
  ⟨OrdT.mine_grown H.mine ho hg (fun k hk => (ha k hk).2), (hg.block B H.lt (fun e => (ha B e.symm).1 rfl)).trans H.blk, H.new, H.ne, H.neG⟩
structure One (w : World) (base B R most : Nat) (L : List V) (G : Option Nat) (p c h : Nat) (v : Value) (I : List V) (x : World) : Prop where
  pat : PAt w base B R most L G p c h x
  own : OwnI x base v I
  far : Far B R G v
section
variable {w x x' : World} {base B R most : Nat} {L L' I I' : List V} {G G' : Option Nat} {p c h p' c' h' : Nat} {v v' : Value}
theorem One.below (H : One w base B R most L G p c h v I x) (hb : Below x.heap.size x x') : One w base B R most L G p c h v I x' := ⟨H.pat.below hb, H.own.below hb, H.far⟩
theorem One.drewN (H : One w base B R most L G p c h v I x) (q : Nat) : One w base B R most L G p c h v I (x.drewN q) := H.below (RingS.below_drewN (Below.refl _ _) q)
theorem far_new (hf : Far B R G v) (ho : OwnI x base v I) (hG : G' = G ∨ ∃ g, G' = some g ∧ x.heap.size ≤ g) : Far B R G' v := fun k hk => by
  obtain ⟨h1, h2, h3⟩ := hf k hk
  refine ⟨h1, h2, ?_⟩
  rcases hG with hG | ⟨g, hG, hg⟩
  · rw [hG]; exact h3
  · rw [hG]; intro e; injection e with e; have := (ho.lt k hk).2; omega
theorem One.pipe (H : One w base B R most L G p c h v I x) (hm : PAt w base B R most L' G' p' c' h' x') (ho : POnly x x' B R G) (hG : G' = G ∨ ∃ g, G' = some g ∧ x.heap.size ≤ g) : One w base B R most L' G' p' c' h' v I x' :=
  ⟨hm, own_ponly H.own ho H.far, far_new H.far H.own hG⟩
theorem One.app (H : One w base B R most L G p c h v I x) (hg : x.grownBy x' v.ownBlock) (ho : OwnI x' base v' I') (hv : v'.ownBlock = v.ownBlock ∨ v'.ownBlock = some x.heap.size) : One w base B R most L G p c h v' I' x' := by
  have hf := H.pat.mine.2.2.2.1.facts
  refine ⟨H.pat.grown H.own hg H.far, ho, fun k hk => ?_⟩
  rcases hv with e | e
  · exact H.far k (by rw [← e]; exact hk)
  · rw [e] at hk; injection hk with hk; subst hk
    exact ⟨fun e2 => by have := H.pat.lt; omega, fun e2 => by have := hf.2.2.1; omega, fun e2 => by have := hf.2.2.2 _ e2; omega⟩
end

theorem One.setOther {w x : World} {base B R most : Nat} {L I : List V} {G : Option Nat} {p c h : Nat} {v : Value} {g : Nat} (H : One w base B R most L G p c h v I x) (h1 : B ≠ g) (h2 : R ≠ g) (h3 : G ≠ some g) (h4 : ∀ k, v.ownBlock = some k → k ≠ g) (h5 : base ≤ g) (o : Nat) (u : Value) : One w base B R most L G p c h v I (x.setCell ⟨g, o, none⟩ u) := by
  refine ⟨⟨⟨H.pat.mine.1.setCell h5 _, by simpa using H.pat.mine.2.1, H.pat.mine.2.2.1, ?_, H.pat.mine.2.2.2.2⟩, ?_, H.pat.new, H.pat.ne, H.pat.neG⟩, ?_, H.far⟩
  · obtain ⟨P, n, first, cur, hr⟩ := H.pat.mine.2.2.2.1
    refine ⟨P, n, first, cur, hr.keep fun k hk => heap_setCell_other _ _ _ _ (show k ≠ g from ?_)⟩
    rcases hk with hk | hk
    · rw [hk]; exact h2
    · intro e; exact h3 (by rw [hk, e])
  · rw [heap_setCell_other _ _ _ _ (show B ≠ g from h1)]; exact H.pat.blk
  · refine ⟨H.own.1, ?_⟩
    rcases H.own.2 with hn | ⟨g2, cap, cur, rfl, hg, hh, rest⟩
    · exact .inl hn
    · exact .inr ⟨g2, cap, cur, rfl, hg, (heap_setCell_other _ _ _ _ (show g2 ≠ g from h4 g2 rfl)).trans hh, rest⟩
theorem One.rd {w x : World} {base B R most : Nat} {L I : List V} {G : Option Nat} {p c h : Nat} {a : Option Addr} {n cap : Nat} (H : One w base B R most L G p c h (.slice a n cap) I x) : RdI x a n I := by
  obtain ⟨a2, n2, cap2, e, _, h3⟩ := H.own.form
  cases e
  exact h3

/-! ### the choices that came in -/
def RdC (w : World) (a : Option Addr) (n : Nat) (C : Nat → Int × Int × Int) : Prop := ∀ i, i < n → ∃ b off, a = some ⟨b, off, none⟩ ∧ b < w.heap.size ∧
  w.cell? ⟨b, off + i * 3, none⟩ = some (.int .i64 (C i).1) ∧ w.cell? ⟨b, off + i * 3 + 1, none⟩ = some (.int .i64 (C i).2.1) ∧ w.cell? ⟨b, off + i * 3 + 2, none⟩ = some (.int .u32 (C i).2.2) ∧ 0 ≤ (C i).2.2 ∧ (C i).2.2 < 4294967296
theorem RdC.below {w w' : World} {a : Option Addr} {n : Nat} {C : Nat → Int × Int × Int} (h : RdC w a n C) (hb : Below w.heap.size w w') : RdC w' a n C := fun i hi => by
  obtain ⟨b, off, e, hl, h0, h1, h2, h3⟩ := h i hi
  exact ⟨b, off, e, Nat.lt_of_lt_of_le hl hb.size, (hb.cell (p := ⟨b, _, none⟩) hl).trans h0, (hb.cell (p := ⟨b, _, none⟩) hl).trans h1, (hb.cell (p := ⟨b, _, none⟩) hl).trans h2, h3⟩
theorem open_choices (w : World) (v : Value) (x : Base.Dat) (h : Base.RdV w (.slice (.struct [.int .i64, .int .i64, .int .u32])) x v) : ∃ a n cap C, v = .slice a n cap ∧ n ≤ 9223372036854775807 ∧ RdC w a n C := by
  obtain ⟨l, a, cap, rfl, h1, h2, h3⟩ := Base.rd_slice h
  simp only [List.cons.injEq, and_true] at h1
  subst h1
  have key : ∀ i, ∃ c : Int × Int × Int, i < l.length → ∃ b off, a = some ⟨b, off, none⟩ ∧ b < w.heap.size ∧
      w.cell? ⟨b, off + i * 3, none⟩ = some (.int .i64 c.1) ∧ w.cell? ⟨b, off + i * 3 + 1, none⟩ = some (.int .i64 c.2.1) ∧ w.cell? ⟨b, off + i * 3 + 2, none⟩ = some (.int .u32 c.2.2) ∧ 0 ≤ c.2.2 ∧ c.2.2 < 4294967296 := by
    intro i
    by_cases hi : i < l.length
    · rcases h3 with rfl | ⟨b, off, rfl, hb, h3⟩
      · simp at hi
      · obtain ⟨es, h6, h4, h5⟩ := h3 i hi
        obtain ⟨ds, _, h5⟩ := Base.rd_struct h5
        obtain ⟨d0, r0, c0, e0, _, rfl, g0, h5⟩ := Base.rdAll_cons h5
        obtain ⟨d1, r1, c1, e1, _, rfl, g1, h5⟩ := Base.rdAll_cons h5
        obtain ⟨d2, r2, c2, e2, _, rfl, g2, h5⟩ := Base.rdAll_cons h5
        obtain ⟨_, rfl⟩ := Base.rdAll_nil h5
        obtain ⟨z0, _, rfl, _⟩ := Base.rd_int g0
        obtain ⟨z1, _, rfl, _⟩ := Base.rd_int g1
        obtain ⟨z2, _, rfl, hz⟩ := Base.rd_int g2
        have hb2 := bounds_u32 hz
        refine ⟨(z0, z1, z2), fun _ => ⟨b, off, rfl, hb, ?_, ?_, ?_, by have := hb2.1; simpa using this, by have := hb2.2; simp; omega⟩⟩
        · have := h4 0 (by decide)
          simpa [Base.Shp.size, Base.Shp.sizes] using this
        · have := h4 1 (by decide)
          simpa [Base.Shp.size, Base.Shp.sizes] using this
        · have := h4 2 (by decide)
          simpa [Base.Shp.size, Base.Shp.sizes] using this
    · exact ⟨(0, 0, 0), fun h => absurd h hi⟩
  refine ⟨a, l.length, cap, fun i => (key i).choose, rfl, by omega, fun i hi => ?_⟩
  exact (key i).choose_spec hi
end Go.Proofs.Ytoeoigclleijmaa.PipeS
