/-
  Slices of structs of two integers, and such a struct by value, that came in.
-/
import Derived.Test.YtdnikjjcgoilfaaBase
import Derived.Deep.SlicePairs
import Derived.Lib.SmallJoins
namespace Go.Proofs.Ytdnikjjcgoilfaa.Base
open Go.ChangeShapes Go.WideShapes Go.ChangeAt Go.RowKit

def Pairs (W : World) (v : Value) (D : List (Int × Int)) : Prop :=
  ∃ a n cap, v = .slice a n cap ∧ n = D.length ∧ n ≤ cap ∧ cap ≤ maxLen ∧ (a = none → cap = 0) ∧ (∀ x ∈ D, (Lit.int .i64 x.1).wf = true ∧ (Lit.int .i64 x.2).wf = true) ∧
    (0 < n → ∃ b off, a = some ⟨b, off, none⟩ ∧ b < W.heap.size ∧ ∀ i, i < n → W.cell? ⟨b, off + i * 2, none⟩ = some (.int .i64 (D.getD i (0, 0)).1) ∧ W.cell? ⟨b, off + i * 2 + 1, none⟩ = some (.int .i64 (D.getD i (0, 0)).2))

theorem open_pairs_cs {H : Type} {enc : TypeId × Value → H} {P : Program} {W : World} {t e ti : TypeId} {f0 f1 : Field} {fuel : Nat} {cs : List Value} {d : DataW H} {ps : List MemPlace}
    (ht : P.underlying t = some (.slice e)) (he : P.underlying e = some (.struct #[f0, f1])) (ce : P.cellsOf e = 2) (o0 : f0.offset = 0) (o1 : f1.offset = 1) (t0 : f0.type = ti) (t1 : f1.type = ti)
    (hti : P.underlying ti = some (.int .i64)) (ci : P.cellsOf ti = 1) (h : DataW.trod enc P W 0 (fun _ => true) true fuel t cs = some (d, ps)) (hlt : ∀ x ∈ ps, x.block < W.heap.size) : ∃ v D, cs = [v] ∧ Pairs W v D := by
  rcases Go.Deep.open_slice_pairs ht he ce o0 o1 (by rw [t0]; exact ci) (by rw [t1]; exact ci) h with ⟨rfl, _⟩ | ⟨a, len, cap, m, n, V0, V1, D0, D1, P0, P1, rfl, _, hl, hm, hmm, hx, hi⟩
  · exact ⟨_, [], rfl, none, 0, 0, rfl, rfl, Nat.le_refl _, by simp [maxLen], fun _ => rfl, by simp, fun h => absurd h (by omega)⟩
  · simp only [Prod.mk.injEq] at hx
    obtain ⟨rfl, rfl⟩ := hx
    simp only [if_true] at hmm
    subst hmm
    have each : ∀ i, i < m → ∃ x : Int × Int, W.cell? (a.add (i * 2)) = some (.int .i64 x.1) ∧ W.cell? (a.add (i * 2 + 1)) = some (.int .i64 x.2) ∧ (Lit.int .i64 x.1).wf = true ∧ (Lit.int .i64 x.2).wf = true := by
      intro i him
      obtain ⟨h0, h1, g0, g1⟩ := hi i him
      rw [t0] at g0
      rw [t1] at g1
      obtain ⟨z0, e0, _, w0⟩ := DataW.trod_int hti g0
      obtain ⟨z1, e1, _, w1⟩ := DataW.trod_int hti g1
      simp only [List.cons.injEq, and_true] at e0 e1
      exact ⟨(z0, z1), by rw [h0, e0], by rw [h1, e1], w0, w1⟩
    have hex : ∃ F : Nat → Int × Int, ∀ i, i < m → W.cell? (a.add (i * 2)) = some (.int .i64 (F i).1) ∧ W.cell? (a.add (i * 2 + 1)) = some (.int .i64 (F i).2) ∧ (Lit.int .i64 (F i).1).wf = true ∧ (Lit.int .i64 (F i).2).wf = true := by
      refine ⟨fun i => if h : i < m then Classical.choose (each i h) else (0, 0), fun i hi' => ?_⟩
      simp only [dif_pos hi']
      exact Classical.choose_spec (each i hi')
    obtain ⟨F, hF⟩ := hex
    refine ⟨_, (List.range len).map F, rfl, some a, len, m, rfl, by simp, hl, hm, (fun h => by cases h), ?_, fun hn => ?_⟩
    · intro x hx
      obtain ⟨i, hi', rfl⟩ := List.mem_map.1 hx
      have := hF i (by rw [List.mem_range] at hi'; omega)
      exact ⟨this.2.2.1, this.2.2.2⟩
    · obtain ⟨b, off, spot⟩ := a
      have hspot : spot = none := by simpa [Addr.add] using World.cell?_spot (hF 0 (by omega)).1
      subst hspot
      refine ⟨b, off, rfl, hlt (.cell b off) (List.mem_append_left _ (MemPlace.mem_row.2 ⟨0, by omega, by simp⟩)), fun i hi' => ?_⟩
      have h1 := hF i (by omega)
      rw [add_plain, add_plain, ← Nat.add_assoc] at h1
      have hg : ((List.range len).map F).getD i (0, 0) = F i := by simp [List.getD, hi']
      rw [hg]
      exact ⟨h1.1, h1.2.1⟩

theorem open_pairs {H : Type} {enc : TypeId × Value → H} {P : Program} {W : World} {base : Nat} {t e ti : TypeId} {f0 f1 : Field} {v : Value} {d : DataW H} {ps : List MemPlace}
    (ht : P.underlying t = some (.slice e)) (he : P.underlying e = some (.struct #[f0, f1])) (ce : P.cellsOf e = 2) (o0 : f0.offset = 0) (o1 : f1.offset = 1) (t0 : f0.type = ti) (t1 : f1.type = ti)
    (hti : P.underlying ti = some (.int .i64)) (ci : P.cellsOf ti = 1) (hval : Value.okWide P W .any base t v) (h : DataW.Trod enc P W 0 (fun _ => true) true t v d ps) (hlt : ∀ x ∈ ps, x.block < W.heap.size) : ∃ D, Pairs W v D := by
  obtain ⟨a0, len, cap, rfl⟩ := okWide_slice ht hval
  obtain ⟨fuel, hf⟩ := h
  obtain ⟨v, D, hcs, hp⟩ := open_pairs_cs ht he ce o0 o1 t0 t1 hti ci hf hlt
  simp [Value.cells] at hcs
  rw [hcs]
  exact ⟨D, hp⟩

theorem open_pair {H : Type} {enc : TypeId × Value → H} {P : Program} {W : World} {base : Nat} {t ti : TypeId} {f0 f1 : Field} {v : Value} {d : DataW H} {ps : List MemPlace}
    (he : P.underlying t = some (.struct #[f0, f1])) (hone : Go.Deep.oneCellFields P #[f0, f1] = true) (ce : P.cellsOf t = 2) (t0 : f0.type = ti) (t1 : f1.type = ti)
    (hti : P.underlying ti = some (.int .i64)) (hval : Value.okWide P W .any base t v) (h : DataW.Trod enc P W 0 (fun _ => true) true t v d ps) :
    ∃ x y : Int, v = .agg #[.int .i64 x, .int .i64 y] ∧ (Lit.int .i64 x).wf = true ∧ (Lit.int .i64 y).wf = true := by
  obtain ⟨v0, v1, y0, y1, n, rfl, _, _, g0, g1⟩ := Go.Joins.open_agg2 he hone ce hval h
  rw [t0] at g0
  rw [t1] at g1
  obtain ⟨z0, e0, _, w0⟩ := DataW.trod_int hti g0
  obtain ⟨z1, e1, _, w1⟩ := DataW.trod_int hti g1
  simp only [List.cons.injEq, and_true] at e0 e1
  exact ⟨z0, z1, by rw [e0, e1], w0, w1⟩
end Go.Proofs.Ytdnikjjcgoilfaa.Base
