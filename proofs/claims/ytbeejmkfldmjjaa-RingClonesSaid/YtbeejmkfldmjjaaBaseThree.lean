/-
  A struct of an integer and three slices of structs of two integers, by value, that came in.
-/
import Derived.Test.YtbeejmkfldmjjaaBase4
namespace Go.Proofs.Ytbeejmkfldmjjaa.Base
open Go.ChangeShapes Go.WideShapes Go.ChangeAt Go.RowKit

theorem open_three {H : Type} {enc : TypeId × Value → H} {P : Program} {W : World} {base : Nat} {t ts e ti : TypeId} {f0 f1 f2 f3 g0 g1 : Field} {v : Value} {d : DataW H} {ps : List MemPlace}
    (hs : P.underlying t = some (.struct #[f0, f1, f2, f3])) (hone : Go.Deep.oneCellFields P #[f0, f1, f2, f3] = true) (hC : P.cellsOf t = 4) (t0 : f0.type = ti) (t1 : f1.type = ts) (t2 : f2.type = ts) (t3 : f3.type = ts)
    (ht : P.underlying ts = some (.slice e)) (he : P.underlying e = some (.struct #[g0, g1])) (ce : P.cellsOf e = 2) (o0 : g0.offset = 0) (o1 : g1.offset = 1) (u0 : g0.type = ti) (u1 : g1.type = ti)
    (hti : P.underlying ti = some (.int .i64)) (ci : P.cellsOf ti = 1) (hval : Value.okWide P W .any base t v) (h : DataW.Trod enc P W 0 (fun _ => true) true t v d ps) (hlt : ∀ x ∈ ps, x.block < W.heap.size) :
    ∃ (x : Int) (v1 v2 v3 : Value) (D1 D2 D3 : List (Int × Int)), v = .agg #[.int .i64 x, v1, v2, v3] ∧ (Lit.int .i64 x).wf = true ∧ Pairs W v1 D1 ∧ Pairs W v2 D2 ∧ Pairs W v3 D3 := by
  obtain ⟨c0, c1, c2, c3, y0, y1, y2, y3, n, rfl, rfl, rfl, h0, h1, h2, h3⟩ := Go.Joins.open_agg4 hs hone hC hval h
  rw [t0] at h0
  rw [t1] at h1
  rw [t2] at h2
  rw [t3] at h3
  obtain ⟨z0, e0, _, w0⟩ := DataW.trod_int hti h0
  obtain ⟨v1, D1, e1, p1⟩ := open_pairs_cs (d := y1.1) (ps := y1.2) ht he ce o0 o1 u0 u1 hti ci h1 (fun x hx => hlt x (by simp [hx]))
  obtain ⟨v2, D2, e2, p2⟩ := open_pairs_cs (d := y2.1) (ps := y2.2) ht he ce o0 o1 u0 u1 hti ci h2 (fun x hx => hlt x (by simp [hx]))
  obtain ⟨v3, D3, e3, p3⟩ := open_pairs_cs (d := y3.1) (ps := y3.2) ht he ce o0 o1 u0 u1 hti ci h3 (fun x hx => hlt x (by simp [hx]))
  simp only [List.cons.injEq, and_true] at e0 e1 e2 e3
  subst e0 e1 e2 e3
  exact ⟨z0, _, _, _, D1, D2, D3, rfl, w0, p1, p2, p3⟩
end Go.Proofs.Ytbeejmkfldmjjaa.Base
