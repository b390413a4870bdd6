/-
  A list of numbers that lies apart from a row.
-/
import Derived.Test.YtocbehmfbaliiaaLaw04Play
import Derived.Deep.RegionLaw
namespace Go.Proofs.Ytocbehmfbaliiaa.RingI
open Go.RowKit View

def Away (R : Nat) (G : Option Nat) (a : Option Addr) (n : Nat) : Prop := 0 < n → ∀ x, a = some x → x.block ≠ R ∧ G ≠ some x.block
theorem rd_only {w w' : World} {R n : Nat} {G : Option Nat} {a : Option Addr} {L : List Int} (h : RdI w a n L) (hf : Away R G a n) (ho : Only w w' R G) : RdI w' a n L :=
  ⟨h.1, fun hn => by
    obtain ⟨b, off, e, hlt, hc⟩ := h.2 hn
    obtain ⟨h1, h2⟩ := hf hn _ e
    exact ⟨b, off, e, Nat.lt_of_lt_of_le hlt ho.size, fun i hi => by
      rw [← hc i hi]
      exact World.cell?_of_block (a := ⟨b, off + i, none⟩) (ho.block b hlt h1 h2)⟩⟩
theorem away_new {w : World} {R n : Nat} {G G' : Option Nat} {a : Option Addr} {L : List Int} (h : Away R G a n) (hr : RdI w a n L) (hG : G' = G ∨ ∃ g, G' = some g ∧ w.heap.size ≤ g) : Away R G' a n := by
  rcases hG with rfl | ⟨g, rfl, hg⟩
  · exact h
  · intro hn x hx
    obtain ⟨b, off, e, hlt, _⟩ := hr.2 hn
    refine ⟨(h hn x hx).1, fun e2 => ?_⟩
    rw [e] at hx
    injection hx with hx
    subst hx
    injection e2 with e2
    have : g = b := e2
    omega
theorem away_none (R : Nat) (G : Option Nat) : Away R G none 0 := fun h => absurd h (by omega)
/-- what a call made since w1 lies apart from a row of then -/
theorem away_own {w1 w' : World} {R : Nat} {G : Option Nat} {v : Value} {L : List Int} (h : OwnI w' w1.heap.size v L) (hR : R < w1.heap.size) (hG : ∀ g, G = some g → g < w1.heap.size) :
    ∃ a n cap, v = .slice a n cap ∧ Fit a n cap ∧ RdI w' a n L ∧ Away R G a n := by
  have hlt := h.lt
  obtain ⟨a, n, cap, rfl, h1, h2⟩ := h.form
  refine ⟨a, n, cap, rfl, h1, h2, fun hn x hx => ?_⟩
  subst hx
  have := (hlt x.block rfl).1
  exact ⟨by omega, fun e => by have := hG _ e; omega⟩
theorem rd_tail {w : World} {n : Nat} {x : Int} {L : List Int} {b off cap : Nat} (h : RdI w (some ⟨b, off, none⟩) (n + 1) (x :: L)) (hc : n + 1 ≤ cap) : RdI w (if cap = 1 then some ⟨b, off, none⟩ else some ⟨b, off + 1, none⟩) n L := by
  refine ⟨by have := h.1; simpa using this, fun hn => ?_⟩
  obtain ⟨b', off', e, hlt, hcell⟩ := h.2 (by omega)
  cases e
  refine ⟨b, off + 1, if_neg (by omega), hlt, fun i hi => ?_⟩
  have := hcell (i + 1) (by omega)
  rw [show off + (i + 1) = off + 1 + i from by omega] at this
  rw [this]
  rfl
end Go.Proofs.Ytocbehmfbaliiaa.RingI
