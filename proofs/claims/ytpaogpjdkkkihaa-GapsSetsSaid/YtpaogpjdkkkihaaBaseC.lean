/-
  A slice of integers that came in, with its room.
-/
import Derived.Test.YtpaogpjdkkkihaaBase
namespace Go.Proofs.Ytpaogpjdkkkihaa.Base
open Go.ChangeShapes Go.WideShapes Go.ChangeAt Go.RowKit
def IntSliceC (k : IntKind) (bytes : Nat) (W : World) (v : Value) (zs : List Int) : Prop :=
  IntSlice k bytes W v zs ∧ ∃ a cap, v = .slice a zs.length cap ∧ zs.length ≤ cap ∧ cap ≤ maxLen ∧ (a = none → cap = 0)
theorem open_int_sliceC {H : Type} {enc : TypeId × Value → H} {P : Program} {W : World} {base : Nat} {t e : TypeId} {k : IntKind} {bytes : Nat} {v : Value} {d : DataW H} {ps : List MemPlace}
    (ht : P.underlying t = some (.slice e)) (he : P.underlying e = some (.int k)) (hc : P.cellsOf e = 1) (hby : P.bytesOf e = bytes)
    (hval : Value.okWide P W .any base t v) (h : DataW.Trod enc P W 0 (fun _ => true) true t v d ps) (hlt : ∀ x ∈ ps, x.block < W.heap.size)
    (hsz : ∀ (e' : TypeId) (elems spare : List (DataW H)), d = .slice elems spare → P.underlying t = some (.slice e') → (elems.length + spare.length) * P.bytesOf e' ≤ reachBytes) :
    ∃ zs, IntSliceC k bytes W v zs := by
  obtain ⟨a0, len, cap, rfl⟩ := okWide_slice ht hval
  obtain ⟨fuel, hf⟩ := h
  rcases open_ints ht he hc hf with ⟨hcs, hx⟩ | ⟨a, len', cap', zs, hcs, _, hl, hm, hz, hx, hcell, hwz⟩
  · simp [Value.cells] at hcs
    obtain ⟨rfl, rfl, rfl⟩ := hcs
    exact ⟨[], ⟨none, 0, rfl, by simp, by simp, .inl rfl⟩, none, 0, rfl, by simp, by simp, fun _ => rfl⟩
  · simp [Value.cells] at hcs
    obtain ⟨rfl, rfl, rfl⟩ := hcs
    simp only [Prod.mk.injEq] at hx
    obtain ⟨rfl, rfl⟩ := hx
    simp only [if_true] at hz
    have hs := hsz e _ _ rfl ht
    rw [hby] at hs
    simp only [lits, List.length_map, List.length_take, List.length_drop, reachBytes] at hs
    have hll : (zs.take len).length = len := by rw [List.length_take]; omega
    refine ⟨zs.take len, ⟨some a, cap, by rw [hll], ?_, fun z hz' => hwz z (List.mem_of_mem_take hz'), ?_⟩, some a, cap, by rw [hll], by rw [hll]; exact hl, hm, fun h => by cases h⟩
    · rw [hll]
      exact Nat.le_trans (Nat.mul_le_mul_right bytes (by omega : len ≤ min len zs.length + (zs.length - len))) hs
    · by_cases hl0 : len = 0
      · left; subst hl0; rfl
      · right
        obtain ⟨b, off, spot⟩ := a
        have hspot : spot = none := by simpa [Addr.add] using World.cell?_spot (hcell 0 (by omega))
        subst hspot
        refine ⟨b, off, rfl, hlt (.cell b off) (MemPlace.mem_row.2 ⟨0, by omega, by simp⟩), fun i hi => ?_⟩
        rw [hll] at hi
        have := hcell i (by omega)
        rw [add_plain] at this
        rw [this]
        simp [List.getD, hi]

end Go.Proofs.Ytpaogpjdkkkihaa.Base
