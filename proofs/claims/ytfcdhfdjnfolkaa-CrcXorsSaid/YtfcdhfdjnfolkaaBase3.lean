/-
  A slice of arrays of three bytes that came in.
-/
import Derived.Test.YtfcdhfdjnfolkaaBase
import Derived.Deep.Slices
import Derived.Laws.IdiomArrays
namespace Go.Proofs.Ytfcdhfdjnfolkaa.Base
open Go.ChangeShapes Go.WideShapes Go.ChangeAt Go.RowKit

def Triples (W : World) (v : Value) (n : Nat) (X Y Z : Nat → UInt8) : Prop :=
  ∃ a cap, v = .slice a n cap ∧ n ≤ cap ∧ cap ≤ maxLen ∧
    (n = 0 ∨ ∃ b off, a = some ⟨b, off, none⟩ ∧ b < W.heap.size ∧ ∀ i, i < n → W.cell? ⟨b, off + i * 3, none⟩ = some (.int .u8 ((X i).toNat : Int)) ∧
      W.cell? ⟨b, off + i * 3 + 1, none⟩ = some (.int .u8 ((Y i).toNat : Int)) ∧ W.cell? ⟨b, off + i * 3 + 2, none⟩ = some (.int .u8 ((Z i).toNat : Int)))

theorem byte_of {H : Type} {enc : TypeId × Value → H} {P : Program} {W : World} {base : Nat} {sp : Nat → Bool} {held : Bool} {n : Nat} {e : TypeId} {c : Value} {y : DataW H × List MemPlace}
    (he : P.underlying e = some (.int .u8)) (h : DataW.trod enc P W base sp held n e [c] = some y) : ∃ x : UInt8, c = .int .u8 (x.toNat : Int) := by
  obtain ⟨z, hc, _, hw⟩ := DataW.trod_int he h
  obtain ⟨h1, h2⟩ := bounds_u8 hw
  refine ⟨UInt8.ofNat z.toNat, ?_⟩
  simp only [List.cons.injEq, and_true] at hc
  rw [hc, UInt8.toNat_ofNat', show ((z.toNat % 2 ^ 8 : Nat) : Int) = z from by omega]

theorem open_triples {H : Type} {enc : TypeId × Value → H} {P : Program} {W : World} {base : Nat} {t q e : TypeId} {v : Value} {d : DataW H} {ps : List MemPlace}
    (ht : P.underlying t = some (.slice q)) (hq : P.underlying q = some (.array 3 e)) (he : P.underlying e = some (.int .u8)) (hcq : P.cellsOf q = 3) (hce : P.cellsOf e = 1)
    (hval : Value.okWide P W .any base t v) (h : DataW.Trod enc P W 0 (fun _ => true) true t v d ps) (hlt : ∀ x ∈ ps, x.block < W.heap.size) :
    ∃ n X Y Z, Triples W v n X Y Z := by
  obtain ⟨a0, len, cap, rfl⟩ := okWide_slice ht hval
  obtain ⟨fuel, hf⟩ := h
  rcases Go.Deep.open_slice ht hf with ⟨hcs, hx⟩ | ⟨a, len', cap', m, n, D, Pl, hcs, _, hl, hm, hmm, hx, hi⟩
  · simp [Value.cells] at hcs
    obtain ⟨rfl, rfl, rfl⟩ := hcs
    exact ⟨0, fun _ => 0, fun _ => 0, fun _ => 0, none, 0, rfl, Nat.le_refl _, by simp, .inl rfl⟩
  · simp [Value.cells] at hcs
    obtain ⟨rfl, rfl, rfl⟩ := hcs
    simp only [Prod.mk.injEq] at hx
    obtain ⟨rfl, rfl⟩ := hx
    simp only [if_true] at hmm
    subst hmm
    have each : ∀ i, i < m → ∃ p : UInt8 × UInt8 × UInt8, W.cell? (a.add (i * 3)) = some (.int .u8 (p.1.toNat : Int)) ∧ W.cell? (a.add (i * 3 + 1)) = some (.int .u8 (p.2.1.toNat : Int)) ∧ W.cell? (a.add (i * 3 + 2)) = some (.int .u8 (p.2.2.toNat : Int)) := by
      intro i him
      obtain ⟨cs', h1, h2⟩ := hi i him
      rw [hcq] at h1
      obtain ⟨_, hlen, hcell⟩ := World.cells?_some h1
      match cs', hlen with
      | [c0, c1, c2], _ =>
        obtain ⟨y0, y1, y2, n', _, g0, g1, g2⟩ := trod_array3 hq hce h2
        obtain ⟨x0, rfl⟩ := byte_of he g0
        obtain ⟨x1, rfl⟩ := byte_of he g1
        obtain ⟨x2, rfl⟩ := byte_of he g2
        have e0 := hcell 0 (by omega)
        have e1 := hcell 1 (by omega)
        have e2 := hcell 2 (by omega)
        rw [Go.Deep.add_add] at e0 e1 e2
        exact ⟨(x0, x1, x2), by simpa using e0, by simpa using e1, by simpa using e2⟩
    by_cases hl0 : len = 0
    · subst hl0
      exact ⟨0, fun _ => 0, fun _ => 0, fun _ => 0, some a, m, rfl, Nat.zero_le _, hm, .inl rfl⟩
    · obtain ⟨F, hF⟩ : ∃ F : Nat → UInt8 × UInt8 × UInt8, ∀ i, i < m → W.cell? (a.add (i * 3)) = some (.int .u8 ((F i).1.toNat : Int)) ∧ W.cell? (a.add (i * 3 + 1)) = some (.int .u8 ((F i).2.1.toNat : Int)) ∧ W.cell? (a.add (i * 3 + 2)) = some (.int .u8 ((F i).2.2.toNat : Int)) := by
        refine ⟨fun i => if h : i < m then Classical.choose (each i h) else (0, 0, 0), fun i hi' => ?_⟩
        simp only [dif_pos hi']
        exact Classical.choose_spec (each i hi')
      obtain ⟨b, off, spot⟩ := a
      have hspot : spot = none := by simpa [Addr.add] using World.cell?_spot (hF 0 (by omega)).1
      subst hspot
      refine ⟨len, fun i => (F i).1, fun i => (F i).2.1, fun i => (F i).2.2, some ⟨b, off, none⟩, m, rfl, hl, hm, .inr ⟨b, off, rfl, ?_, fun i hi' => ?_⟩⟩
      · exact hlt (.cell b off) (by rw [hcq]; exact List.mem_append_left _ (MemPlace.mem_row.2 ⟨0, by omega, by simp⟩))
      · have := hF i (by omega)
        simp only [add_plain] at this
        exact ⟨this.1, this.2.1, this.2.2⟩

end Go.Proofs.Ytfcdhfdjnfolkaa.Base
