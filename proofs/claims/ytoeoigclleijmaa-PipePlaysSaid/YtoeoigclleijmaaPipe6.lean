/-
  A list of strings that lies apart from a pipe; the calls that came in.
-/
import Derived.Test.YtoeoigclleijmaaPipe5
namespace Go.Proofs.Ytoeoigclleijmaa.PipeS
open Go.RowKit RingS ViewT TurnP

def Away (B R : Nat) (G : Option Nat) (a : Option Addr) (n : Nat) : Prop := 0 < n → ∀ x, a = some x → x.block ≠ B ∧ x.block ≠ R ∧ G ≠ some x.block
theorem rd_ponly {w w' : World} {B R n : Nat} {G : Option Nat} {a : Option Addr} {L : List V} (h : RdI w a n L) (hf : Away B R G a n) (ho : POnly w w' B R G) : RdI w' a n L :=
  ⟨h.1, fun hn => by
    obtain ⟨b, off, e, hlt, hc⟩ := h.2 hn
    obtain ⟨h1, h2, h3⟩ := hf hn _ e
    exact ⟨b, off, e, Nat.lt_of_lt_of_le hlt ho.size, fun i hi => by
      rw [← hc i hi]
      exact World.cell?_of_block (a := ⟨b, off + i, none⟩) (ho.block b hlt h1 h2 h3)⟩⟩
theorem away_new {w : World} {B R n : Nat} {G G' : Option Nat} {a : Option Addr} {L : List V} (h : Away B R G a n) (hr : RdI w a n L) (hG : G' = G ∨ ∃ g, G' = some g ∧ w.heap.size ≤ g) : Away B R G' a n := by
  rcases hG with rfl | ⟨g, rfl, hg⟩
  · exact h
  · intro hn x hx
    obtain ⟨b, off, e, hlt, _⟩ := hr.2 hn
    obtain ⟨h1, h2, _⟩ := h hn x hx
    refine ⟨h1, h2, fun e2 => ?_⟩
    rw [e] at hx
    injection hx with hx
    subst hx
    injection e2 with e2
    have : g = b := e2
    omega
theorem away_none (B R : Nat) (G : Option Nat) : Away B R G none 0 := fun h => absurd h (by omega)
theorem away_own {w1 w' : World} {B R : Nat} {G : Option Nat} {v : Value} {L : List V} (h : OwnI w' w1.heap.size v L) (hB : B < w1.heap.size) (hR : R < w1.heap.size) (hG : ∀ g, G = some g → g < w1.heap.size) :
    ∃ a n cap, v = .slice a n cap ∧ Fit a n cap ∧ RdI w' a n L ∧ Away B R G a n := by
  have hlt := h.lt
  obtain ⟨a, n, cap, rfl, h1, h2⟩ := h.form
  refine ⟨a, n, cap, rfl, h1, h2, fun hn x hx => ?_⟩
  subst hx
  have := (hlt x.block rfl).1
  exact ⟨by omega, by omega, fun e => by have := hG _ e; omega⟩
theorem rd_tail {w : World} {n : Nat} {x : V} {L : List V} {b off cap : Nat} (h : RdI w (some ⟨b, off, none⟩) (n + 1) (x :: L)) (hc : n + 1 ≤ cap) : RdI w (if cap = 1 then some ⟨b, off, none⟩ else some ⟨b, off + 1, none⟩) n L := by
  refine ⟨by have := h.1; simpa using this, fun hn => ?_⟩
  obtain ⟨b', off', e, hlt, hcell⟩ := h.2 (by omega)
  cases e
  refine ⟨b, off + 1, if_neg (by omega), hlt, fun i hi => ?_⟩
  have := hcell (i + 1) (by omega)
  rw [show off + (i + 1) = off + 1 + i from by omega] at this
  rw [this]
  rfl
theorem rd_row {w : World} {g : Nat} {L : List V} (h : w.heap[g]? = some (.cells (encs L).toArray 9 (0, 0))) : RdI w (some ⟨g, 0, none⟩) L.length L :=
  ⟨rfl, fun _ => ⟨g, 0, rfl, (Array.getElem?_eq_some_iff.1 h).1, fun i hi => by
    rw [Nat.zero_add]
    exact (row_cell h i _ (encs_at L i hi)).trans rfl⟩⟩

/-! ### the calls that came in -/
abbrev A5 := Int × V × Int × Int × Int
def RdA (w : World) (a : Option Addr) (n : Nat) (D : Nat → A5) : Prop := ∀ i, i < n → ∃ b off, a = some ⟨b, off, none⟩ ∧ b < w.heap.size ∧
  w.cell? ⟨b, off + i * 5, none⟩ = some (.int .i64 (D i).1) ∧ w.cell? ⟨b, off + i * 5 + 1, none⟩ = some (.string (D i).2.1) ∧ w.cell? ⟨b, off + i * 5 + 2, none⟩ = some (.int .i64 (D i).2.2.1) ∧
  w.cell? ⟨b, off + i * 5 + 3, none⟩ = some (.int .i64 (D i).2.2.2.1) ∧ w.cell? ⟨b, off + i * 5 + 4, none⟩ = some (.int .u32 (D i).2.2.2.2) ∧ 0 ≤ (D i).2.2.2.2 ∧ (D i).2.2.2.2 < 4294967296
theorem RdA.below {w w' : World} {a : Option Addr} {n : Nat} {D : Nat → A5} (h : RdA w a n D) (hb : Below w.heap.size w w') : RdA w' a n D := fun i hi => by
  obtain ⟨b, off, e, hl, h0, h1, h2, h3, h4, h5⟩ := h i hi
  exact ⟨b, off, e, Nat.lt_of_lt_of_le hl hb.size, (hb.cell (p := ⟨b, _, none⟩) hl).trans h0, (hb.cell (p := ⟨b, _, none⟩) hl).trans h1, (hb.cell (p := ⟨b, _, none⟩) hl).trans h2, (hb.cell (p := ⟨b, _, none⟩) hl).trans h3, (hb.cell (p := ⟨b, _, none⟩) hl).trans h4, h5⟩
theorem open_acts (w : World) (v : Value) (x : Base.Dat) (h : Base.RdV w (.slice (.struct [.int .i64, .str, .struct [.int .i64, .int .i64, .int .u32]])) x v) : ∃ a n cap D, v = .slice a n cap ∧ n ≤ 9223372036854775807 ∧ RdA w a n D := by
  obtain ⟨l, a, cap, rfl, h1, h2, h3⟩ := Base.rd_slice h
  simp only [List.cons.injEq, and_true] at h1
  subst h1
  have key : ∀ i, ∃ c : A5, i < l.length → ∃ b off, a = some ⟨b, off, none⟩ ∧ b < w.heap.size ∧
      w.cell? ⟨b, off + i * 5, none⟩ = some (.int .i64 c.1) ∧ w.cell? ⟨b, off + i * 5 + 1, none⟩ = some (.string c.2.1) ∧ w.cell? ⟨b, off + i * 5 + 2, none⟩ = some (.int .i64 c.2.2.1) ∧
      w.cell? ⟨b, off + i * 5 + 3, none⟩ = some (.int .i64 c.2.2.2.1) ∧ w.cell? ⟨b, off + i * 5 + 4, none⟩ = some (.int .u32 c.2.2.2.2) ∧ 0 ≤ c.2.2.2.2 ∧ c.2.2.2.2 < 4294967296 := by
    intro i
    by_cases hi : i < l.length
    · rcases h3 with rfl | ⟨b, off, rfl, hb, h3⟩
      · simp at hi
      · obtain ⟨es, h6, h4, h5⟩ := h3 i hi
        obtain ⟨ds, _, h5⟩ := Base.rd_struct h5
        obtain ⟨d0, r0, c0, e0, _, rfl, g0, h5⟩ := Base.rdAll_cons h5
        obtain ⟨d1, r1, c1, e1, _, rfl, g1, h5⟩ := Base.rdAll_cons h5
        obtain ⟨d2, r2, c2, e2, _, rfl, g2, h5⟩ := Base.rdAll_cons h5
        obtain ⟨_, rfl⟩ := Base.rdAll_nil h5
        obtain ⟨ds2, _, h7⟩ := Base.rd_struct g2
        obtain ⟨d3, r3, c3, e3, _, rfl, g3, h7⟩ := Base.rdAll_cons h7
        obtain ⟨d4, r4, c4, e4, _, rfl, g4, h7⟩ := Base.rdAll_cons h7
        obtain ⟨d5, r5, c5, e5, _, rfl, g5, h7⟩ := Base.rdAll_cons h7
        obtain ⟨_, rfl⟩ := Base.rdAll_nil h7
        obtain ⟨z0, _, rfl, _⟩ := Base.rd_int g0
        obtain ⟨z1, _, rfl, _⟩ := Base.rd_str g1
        obtain ⟨z3, _, rfl, _⟩ := Base.rd_int g3
        obtain ⟨z4, _, rfl, _⟩ := Base.rd_int g4
        obtain ⟨z5, _, rfl, hz⟩ := Base.rd_int g5
        have hb2 := bounds_u32 hz
        refine ⟨(z0, z1, z3, z4, z5), fun _ => ⟨b, off, rfl, hb, ?_, ?_, ?_, ?_, ?_, by have := hb2.1; simpa using this, by have := hb2.2; simp; omega⟩⟩
        · have := h4 0 (by decide)
          simpa [Base.Shp.size, Base.Shp.sizes] using this
        · have := h4 1 (by decide)
          simpa [Base.Shp.size, Base.Shp.sizes] using this
        · have := h4 2 (by decide)
          simpa [Base.Shp.size, Base.Shp.sizes] using this
        · have := h4 3 (by decide)
          simpa [Base.Shp.size, Base.Shp.sizes] using this
        · have := h4 4 (by decide)
          simpa [Base.Shp.size, Base.Shp.sizes] using this
    · exact ⟨(0, ⟨#[]⟩, 0, 0, 0), fun h => absurd h hi⟩
  refine ⟨a, l.length, cap, fun i => (key i).choose, rfl, by omega, fun i hi => ?_⟩
  exact (key i).choose_spec hi
end Go.Proofs.Ytoeoigclleijmaa.PipeS
