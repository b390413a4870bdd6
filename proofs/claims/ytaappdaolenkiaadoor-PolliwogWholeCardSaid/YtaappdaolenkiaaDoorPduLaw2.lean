/-
  Two units side by side in their boxes; unlike units have unlike bytes.
-/
import Derived.Test.YtaappdaolenkiaaDoorPduLaw
namespace Go.Proofs.YtaappdaolenkiaaDoor.Pdu
open Go.ChangeShapes Go.WideShapes Go.RowKit Own

/-- a unit of the document's in the box b, and its List -/
structure Cel (w : World) (b : Nat) (k sq n ps mr : Int) (a : Option Addr) (m cap : Nat) (L : List Int) (sf : Bool) (d : ByteArray) : Prop where
  blk : w.heap[b]? = some (.cells (aggR k sq n ps mr (.slice a m cap) sf d) 36 (0, 0))
  rd : RdI .i64 w a m L
section
variable {w w' : World} {b : Nat} {k sq n ps mr : Int} {a : Option Addr} {m cap : Nat} {L : List Int} {sf : Bool} {d : ByteArray}
theorem Cel.lt (h : Cel w b k sq n ps mr a m cap L sf d) : b < w.heap.size := (Array.getElem?_eq_some_iff.1 h.blk).1
theorem Cel.below (h : Cel w b k sq n ps mr a m cap L sf d) (hb : Below w.heap.size w w') : Cel w' b k sq n ps mr a m cap L sf d := ⟨(hb.block b h.lt).trans h.blk, h.rd.below hb⟩
theorem Cel.cells (h : Cel w b k sq n ps mr a m cap L sf d) : w.cell? ⟨b, 0, none⟩ = some (.int .i64 k) ∧ w.cell? ⟨b, 1, none⟩ = some (.int .i64 sq) ∧ w.cell? ⟨b, 2, none⟩ = some (.int .i64 n) ∧ w.cell? ⟨b, 3, none⟩ = some (.int .i64 ps) ∧
    w.cell? ⟨b, 4, none⟩ = some (.int .i64 mr) ∧ w.cell? ⟨b, 5, none⟩ = some (.slice a m cap) ∧ w.cell? ⟨b, 6, none⟩ = some (.bool sf) ∧ w.cell? ⟨b, 7, none⟩ = some (.string d) := by
  have e := h.blk
  exact ⟨Go.Joins.cell_of_block e 0, Go.Joins.cell_of_block e 1, Go.Joins.cell_of_block e 2, Go.Joins.cell_of_block e 3, Go.Joins.cell_of_block e 4, Go.Joins.cell_of_block e 5, Go.Joins.cell_of_block e 6, Go.Joins.cell_of_block e 7⟩
end
theorem cels_new {w : World} {k sq n ps mr k' sq' n' ps' mr' : Int} {a a' : Option Addr} {m cap m' cap' : Nat} {L L' : List Int} {sf sf' : Bool} {d d' : ByteArray} (hx : RdI .i64 w a m L) (hy : RdI .i64 w a' m' L') :
    Cel ((w.alloc (.cells (aggR k sq n ps mr (.slice a m cap) sf d) 36)).alloc (.cells (aggR k' sq' n' ps' mr' (.slice a' m' cap') sf' d') 36)) w.heap.size k sq n ps mr a m cap L sf d ∧
    Cel ((w.alloc (.cells (aggR k sq n ps mr (.slice a m cap) sf d) 36)).alloc (.cells (aggR k' sq' n' ps' mr' (.slice a' m' cap') sf' d') 36)) (w.heap.size + 1) k' sq' n' ps' mr' a' m' cap' L' sf' d' :=
  ⟨⟨heap_alloc2_old w _ _, (hx.alloc _).alloc _⟩, ⟨heap_alloc2_new w _ _, (hy.alloc _).alloc _⟩⟩
theorem cels_set {w W : World} {g B : Nat} {k sq n ps mr k' sq' n' ps' mr' : Int} {a a' : Option Addr} {cap cap' : Nat} {L L' : List Int} {sf sf' : Bool} {d d' : ByteArray} {ox oy : Array Value}
    (hx : W.heap[g]? = some (.cells ox 36 (0, 0))) (hy : W.heap[g + 1]? = some (.cells oy 36 (0, 0)))
    (ux : OwnI .i64 3 W B (.slice a L.length cap) L) (uy : OwnI .i64 3 W B (.slice a' L'.length cap') L') (hB : g + 1 < B) (hb : Below g w W) :
    Cel ((W.setRow g (aggR k sq n ps mr (.slice a L.length cap) sf d)).setRow (g + 1) (aggR k' sq' n' ps' mr' (.slice a' L'.length cap') sf' d')) g k sq n ps mr a L.length cap L sf d ∧
    Cel ((W.setRow g (aggR k sq n ps mr (.slice a L.length cap) sf d)).setRow (g + 1) (aggR k' sq' n' ps' mr' (.slice a' L'.length cap') sf' d')) (g + 1) k' sq' n' ps' mr' a' L'.length cap' L' sf' d' ∧
    Below g w ((W.setRow g (aggR k sq n ps mr (.slice a L.length cap) sf d)).setRow (g + 1) (aggR k' sq' n' ps' mr' (.slice a' L'.length cap') sf' d')) := by
  have hx1 : (W.setRow g (aggR k sq n ps mr (.slice a L.length cap) sf d)).heap[g]? = _ := setRow_heap _ _ _ _ _ _ hx
  have hy1 : (W.setRow g (aggR k sq n ps mr (.slice a L.length cap) sf d)).heap[g + 1]? = _ := (setRow_other _ _ _ _ (by omega)).trans hy
  have ux2 := own_setRow (cs := aggR k' sq' n' ps' mr' (.slice a' L'.length cap') sf' d') (own_setRow (cs := aggR k sq n ps mr (.slice a L.length cap) sf d) ux (by omega : g < B)) hB
  have uy2 := own_setRow (cs := aggR k' sq' n' ps' mr' (.slice a' L'.length cap') sf' d') (own_setRow (cs := aggR k sq n ps mr (.slice a L.length cap) sf d) uy (by omega : g < B)) hB
  obtain ⟨a3, c3, e3, hr3⟩ := owned ux2
  obtain ⟨a4, c4, e4, hr4⟩ := owned uy2
  cases e3
  cases e4
  exact ⟨⟨(setRow_other _ _ _ _ (by omega)).trans hx1, hr3⟩, ⟨setRow_heap _ _ _ _ _ _ hy1, hr4⟩, below_setRow (below_setRow hb (Nat.le_refl _) _) (by omega) _⟩
theorem same_iff (u v : U) : sameU u v = true ↔ u = v := by
  unfold sameU
  cases u; cases v
  rw [decide_eq_true_eq]
  constructor
  · rintro ⟨h1, h2, h3, h4, h5, h6, h7, h8⟩; simp only at h1 h2 h3 h4 h5 h6 h7 h8; simp [h1, h2, h3, h4, h5, h6, h7, h8]
  · intro h; cases h; exact ⟨rfl, rfl, rfl, rfl, rfl, rfl, rfl, rfl⟩
theorem unlike (u v : U) (cu : checkU u = 0) (cv : checkU v = 0) (hu : 0 ≤ u.n ∧ 0 ≤ u.ps ∧ 0 ≤ u.mr ∧ ∀ z ∈ u.list, 0 ≤ z) (hv : 0 ≤ v.n ∧ 0 ≤ v.ps ∧ 0 ≤ v.mr ∧ ∀ z ∈ v.list, 0 ≤ z) :
    decide (bytesU u = bytesU v) = sameU u v := by
  obtain ⟨k, gu⟩ := good_of u cu hu.1 hu.2.1 hu.2.2.1 hu.2.2.2
  obtain ⟨k', gv⟩ := good_of v cv hv.1 hv.2.1 hv.2.2.1 hv.2.2.2
  rw [Bool.eq_iff_iff, same_iff, decide_eq_true_eq]
  constructor
  · intro h
    have e1 := (back u k gu cu).2
    have e2 := (back v k' gv cv).2
    rw [← e1, ← e2, h]
  · intro h; rw [h]
theorem unfrozen {W : World} {g : Nat} {cs : Array Value} {t : TypeId} (h : W.heap[g]? = some (.cells cs t (0, 0))) :
    W.frozen? ⟨g, 0, none⟩ = false ∧ W.frozen? ⟨g, 1, none⟩ = false ∧ W.frozen? ⟨g, 2, none⟩ = false ∧ W.frozen? ⟨g, 3, none⟩ = false ∧ W.frozen? ⟨g, 4, none⟩ = false ∧ W.frozen? ⟨g, 5, none⟩ = false ∧ W.frozen? ⟨g, 6, none⟩ = false ∧ W.frozen? ⟨g, 7, none⟩ = false :=
  ⟨frozen_of_row _ _ _ _ _ h, frozen_of_row _ _ _ _ _ h, frozen_of_row _ _ _ _ _ h, frozen_of_row _ _ _ _ _ h, frozen_of_row _ _ _ _ _ h, frozen_of_row _ _ _ _ _ h, frozen_of_row _ _ _ _ _ h, frozen_of_row _ _ _ _ _ h⟩
theorem set8 {W : World} {g : Nat} {o0 o1 o2 o3 o4 o5 o6 o7 v0 v1 v2 v3 v4 v5 v6 v7 : Value} {t : TypeId} (h : W.heap[g]? = some (.cells #[o0, o1, o2, o3, o4, o5, o6, o7] t (0, 0))) :
    (((((((W.setCell ⟨g, 0, none⟩ v0).setCell ⟨g, 1, none⟩ v1).setCell ⟨g, 2, none⟩ v2).setCell ⟨g, 3, none⟩ v3).setCell ⟨g, 4, none⟩ v4).setCell ⟨g, 5, none⟩ v5).setCell ⟨g, 6, none⟩ v6).setCell ⟨g, 7, none⟩ v7 = W.setRow g #[v0, v1, v2, v3, v4, v5, v6, v7] := by
  have h0 := Go.Joins.block_setCell (i := 0) h v0
  have h1 := Go.Joins.block_setCell (i := 1) h0 v1
  have h2 := Go.Joins.block_setCell (i := 2) h1 v2
  have h3 := Go.Joins.block_setCell (i := 3) h2 v3
  have h4 := Go.Joins.block_setCell (i := 4) h3 v4
  have h5 := Go.Joins.block_setCell (i := 5) h4 v5
  have h6 := Go.Joins.block_setCell (i := 6) h5 v6
  rw [setCell_eq_setRow _ _ _ _ _ _ v7 h6, setCell_eq_setRow _ _ _ _ _ _ v6 h5, setCell_eq_setRow _ _ _ _ _ _ v5 h4, setCell_eq_setRow _ _ _ _ _ _ v4 h3, setCell_eq_setRow _ _ _ _ _ _ v3 h2, setCell_eq_setRow _ _ _ _ _ _ v2 h1,
    setCell_eq_setRow _ _ _ _ _ _ v1 h0, setCell_eq_setRow _ _ _ _ _ _ v0 h]
  simp only [setRow_setRow]
  refine congrArg (W.setRow g) ?_
  simp only [List.setIfInBounds_toArray, List.set_cons_succ, List.set_cons_zero]
end Go.Proofs.YtaappdaolenkiaaDoor.Pdu
