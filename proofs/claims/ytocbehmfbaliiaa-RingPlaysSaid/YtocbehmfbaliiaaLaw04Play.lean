/-
  Calls on a row, one behind the other, and rows that lie apart.
-/
import Derived.Test.YtocbehmfbaliiaaLaw04I
import Derived.Test.YtocbehmfbaliiaaViewR
import Derived.Test.YtocbehmfbaliiaaBase4
namespace Go.Proofs.Ytocbehmfbaliiaa.RingI
open Go.RowKit View

/-! ### the calls that came in -/
def RdP (w : World) (a : Option Addr) (n : Nat) (D : List (Int × Int)) : Prop :=
  n = D.length ∧ (0 < n → ∃ b off, a = some ⟨b, off, none⟩ ∧ b < w.heap.size ∧ ∀ i, i < n →
    w.cell? ⟨b, off + i * 2, none⟩ = some (.int .i64 (D.getD i (0, 0)).1) ∧ w.cell? ⟨b, off + i * 2 + 1, none⟩ = some (.int .i64 (D.getD i (0, 0)).2))
theorem RdP.below {w w' : World} {a : Option Addr} {n : Nat} {D : List (Int × Int)} (h : RdP w a n D) (hb : Below w.heap.size w w') : RdP w' a n D :=
  ⟨h.1, fun hn => by
    obtain ⟨b, off, e, hlt, hc⟩ := h.2 hn
    exact ⟨b, off, e, Nat.lt_of_lt_of_le hlt hb.size, fun i hi => ⟨(cell_below hb hlt).trans (hc i hi).1, (cell_below hb hlt).trans (hc i hi).2⟩⟩⟩
theorem RdP.at_ {w : World} {a : Option Addr} {n : Nat} {D : List (Int × Int)} {k : Nat} (h : RdP w a n D) (hk : k < n) : ∃ b off, a = some ⟨b, off, none⟩ ∧ b < w.heap.size ∧
    w.cell? ⟨b, off + k * 2, none⟩ = some (.int .i64 (D.getD k (0, 0)).1) ∧ w.cell? ⟨b, off + k * 2 + 1, none⟩ = some (.int .i64 (D.getD k (0, 0)).2) := by
  obtain ⟨b, off, e, hlt, hc⟩ := h.2 (by omega)
  exact ⟨b, off, e, hlt, (hc k hk).1, (hc k hk).2⟩
theorem rd_acts {W : World} {v : Value} {D : List (Int × Int)} (h : Base.Pairs W v D) : ∃ a n cap, v = .slice a n cap ∧ n ≤ maxLen ∧ RdP W a n D := by
  obtain ⟨a, n, cap, rfl, h1, h2, h3, h4, _, h6⟩ := h
  exact ⟨a, n, cap, rfl, Nat.le_trans h2 h3, h1, h6⟩

/-! ### rows apart -/
structure Apart (R : Nat) (G : Option Nat) (S : Nat) (K : Option Nat) : Prop where
  rs : R ≠ S
  gs : G ≠ some S
  rk : K ≠ some R
  gk : G = none ∨ G ≠ K
theorem Apart.symm {R S : Nat} {G K : Option Nat} (h : Apart R G S K) : Apart S K R G :=
  ⟨fun e => h.rs e.symm, h.rk, h.gs, by
    rcases h.gk with h1 | h1
    · by_cases hk : K = none
      · exact .inl hk
      · exact .inr (fun e => hk (by rw [e, h1]))
    · exact .inr (fun e => h1 e.symm)⟩
/-- what a call makes anew lies apart from what was there -/
theorem Apart.new {R S : Nat} {G K G' : Option Nat} {w : World} (h : Apart R G S K) (hS : S < w.heap.size) (hK : ∀ g, K = some g → g < w.heap.size) (hG : G' = G ∨ ∃ g, G' = some g ∧ w.heap.size ≤ g) : Apart R G' S K := by
  rcases hG with rfl | ⟨g, rfl, hg⟩
  · exact h
  · exact ⟨h.rs, fun e => by injection e with e; omega, h.rk, .inr fun e => by have := hK g e.symm; omega⟩
theorem Mine.lt {w wr : World} {base R most : Nat} {L : List V} {G : Option Nat} (h : Mine w base R most L G wr) : R < wr.heap.size ∧ ∀ g, G = some g → g < wr.heap.size := h.2.2.2.1.facts.2.2
theorem Mine.apart {w wr w' : World} {base R most S : Nat} {L : List V} {G K : Option Nat} (h : Mine w base R most L G wr) (ho : Only wr w' S K) (ha : Apart R G S K) (hb : Below base w w') : Mine w base R most L G w' :=
  ⟨hb, Nat.le_trans h.2.1 ho.size, h.2.2.1, h.2.2.2.1.only ho ha.rs ha.rk ha.gs ha.gk, h.2.2.2.2⟩

theorem clone_own {w wr : World} {base R most : Nat} {L : List V} {G : Option Nat} (h : Mine w base R most L G wr) :
    Calls Try.prog 11 #[.pointer (some ⟨R, 0, none⟩)] wr fun e w' => ∃ C g, e = .returned (.pointer (some ⟨C, 0, none⟩)) ∧ wr.heap.size ≤ C ∧ wr.heap.size ≤ g ∧ C ≠ g ∧ Mine w base C most L (some g) w' ∧ Mine w base R most L G w' ∧ Apart R G C (some g) ∧ Below wr.heap.size wr w' := by
  refine (clone_any R most L G wr h.2.2.2.1).mono ?_
  rintro e w' ⟨C, g, rfl, hC, hg, hne, hr, hb⟩
  have h2 := h.below hb
  have hs := h.2.1
  have hl := h.lt
  exact ⟨C, g, rfl, hC, hg, hne, ⟨h2.1, h2.2.1, Nat.le_trans hs hC, hr, fun x hx => by injection hx with hx; omega⟩, h2,
    ⟨by omega, fun e => by have := hl.2 C e; omega, fun e => by injection e with e; omega, by
      by_cases hG : G = none
      · exact .inl hG
      · exact .inr fun e => by have := hl.2 g e; omega⟩, hb⟩
theorem rdI_row {w : World} {g : Nat} {L : List V} (h : w.heap[g]? = some (.cells (encs L).toArray 3 (0, 0))) : RdI w (some ⟨g, 0, none⟩) L.length L :=
  ⟨rfl, fun _ => ⟨g, 0, rfl, (Array.getElem?_eq_some_iff.1 h).1, fun i hi => by
    rw [Nat.zero_add]
    exact row_cell h i _ (encs_at L i hi)⟩⟩

def act (most : Nat) (L : List V) (x : Int × Int) : List V := if x.1 = 1 then L.tail else putRow most L x.2
def acts (most : Nat) (L : List V) (D : List (Int × Int)) : List V := D.foldl (act most) L
theorem acts_step (most : Nat) (L : List V) (D : List (Int × Int)) (k : Nat) (h : k < D.length) : acts most L (D.take (k + 1)) = act most (acts most L (D.take k)) (D.getD k (0, 0)) := by
  rw [take_succ' D (0, 0) k h]
  simp [acts, List.foldl_append]

end Go.Proofs.Ytocbehmfbaliiaa.RingI
