/-
  Rows that a call made itself: each call on them, by what the laws need; and the fixed fact that each law of rows asks first.
-/
import Derived.Test.YtoeoigclleijmaaRing6S
import Derived.Test.YtoeoigclleijmaaRing5S

namespace Go.Proofs.Ytoeoigclleijmaa.RingS
open Go.RowKit

/-- a row that was made since w, and nothing of what was there in w is otherwise -/
def Mine (w : World) (base R most : Nat) (L : List V) (G : Option Nat) (wr : World) : Prop :=
  Below base w wr ∧ base ≤ wr.heap.size ∧ base ≤ R ∧ Ring wr R most L G ∧ ∀ g, G = some g → base ≤ g
section
variable {w wr w' : World} {base R most : Nat} {L : List V} {G : Option Nat}
theorem Mine.below (h : Mine w base R most L G wr) (hb : Below wr.heap.size wr w') : Mine w base R most L G w' :=
  ⟨h.1.trans (hb.mono h.2.1), Nat.le_trans h.2.1 hb.size, h.2.2.1, h.2.2.2.1.below hb, h.2.2.2.2⟩
theorem Mine.drewN (h : Mine w base R most L G wr) (q : Nat) : Mine w base R most L G (wr.drewN q) := h.below (below_drewN (Below.refl _ _) q)
theorem Mine.only {L' : List V} {G' : Option Nat} (h : Mine w base R most L G wr) (ho : Only wr w' R G) (hr : Ring w' R most L' G') (hG : G' = none ∨ G' = G ∨ ∃ g, G' = some g ∧ wr.heap.size ≤ g) : Mine w base R most L' G' w' :=
  ⟨ho.below h.1 h.2.1 h.2.2.1 h.2.2.2.2, Nat.le_trans h.2.1 ho.size, h.2.2.1, hr, fun g hg => by
    rcases hG with hG | hG | ⟨g', hG, hg'⟩
    · rw [hG] at hg; cases hg
    · exact h.2.2.2.2 g (by rw [← hG, hg])
    · rw [hG] at hg
      injection hg with hg
      have := h.2.1
      omega⟩
theorem Mine.facts (h : Mine w base R most L G wr) : L.length ≤ most ∧ most ≤ 4096 := ⟨h.2.2.2.1.facts.1, h.2.2.2.1.facts.2.1⟩
end

theorem new_own (w wr : World) (base : Nat) (m : Int) (most : Nat) (hm : (min (max m 0) 4096).toNat = most) (hb : Below base w wr) (hs : base ≤ wr.heap.size) :
    Calls Try.prog 19 #[.int .i64 m] wr fun e w' => ∃ R, e = .returned (.pointer (some ⟨R, 0, none⟩)) ∧ wr.heap.size ≤ R ∧ Mine w base R most [] none w' := by
  refine (new_any m wr).mono ?_
  rintro e w' ⟨rfl, hr, hb'⟩
  rw [hm] at hr
  exact ⟨_, rfl, Nat.le_refl _, hb.trans (hb'.mono hs), Nat.le_trans hs hb'.size, hs, hr, fun g hg => by cases hg⟩
theorem put_own {w wr : World} {base R most : Nat} {L : List V} {G : Option Nat} (v : V) (h : Mine w base R most L G wr) :
    Calls Try.prog 23 #[.pointer (some ⟨R, 0, none⟩), enc v] wr fun e w' => e = .returned (.int .i64 (fullCode most L)) ∧ ∃ G', Mine w base R most (putRow most L v) G' w' ∧ Only wr w' R G ∧ (G' = G ∨ ∃ g, G' = some g ∧ wr.heap.size ≤ g) := by
  refine (put_any R most L G v wr h.2.2.2.1).mono ?_
  rintro e w' ⟨rfl, G', hr, ho, hG⟩
  exact ⟨rfl, G', h.only ho hr (.inr hG), ho, hG⟩
theorem take_own {w wr : World} {base R most : Nat} {L : List V} {G : Option Nat} (h : Mine w base R most L G wr) :
    Calls Try.prog 20 #[.pointer (some ⟨R, 0, none⟩)] wr fun e w' => e = .returned (.tuple #[enc (headRow L), .int .i64 (noneCode L)]) ∧ Mine w base R most L.tail G w' ∧ Only wr w' R G := by
  refine (take_any R most L G wr h.2.2.2.1).mono ?_
  rintro e w' ⟨rfl, hr, ho⟩
  exact ⟨rfl, h.only ho hr (.inr (.inl rfl)), ho⟩
theorem room_own {w wr : World} {base R most : Nat} {L : List V} {G : Option Nat} (h : Mine w base R most L G wr) :
    Calls Try.prog 18 #[.pointer (some ⟨R, 0, none⟩)] wr fun e w' => e = .returned (.int .i64 ((most : Int) - (L.length : Int))) ∧ Mine w base R most L G w' := by
  refine (room_any R most L G wr h.2.2.2.1).mono ?_
  rintro e w' ⟨rfl, q, rfl⟩
  exact ⟨rfl, h.drewN q⟩
end Go.Proofs.Ytoeoigclleijmaa.RingS
