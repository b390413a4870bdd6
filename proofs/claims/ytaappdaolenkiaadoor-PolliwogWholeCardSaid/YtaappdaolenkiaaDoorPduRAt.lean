/-
  A unit of the document's own, as it lies in its box.
-/
import Derived.Test.YtaappdaolenkiaaDoorPduRef2
namespace Go.Proofs.YtaappdaolenkiaaDoor.Pdu
open Go.ChangeShapes Go.WideShapes Go.RowKit Own

abbrev aggR (k sq n ps mr : Int) (lv : Value) (sf : Bool) (d : ByteArray) : Array Value := #[.int .i64 k, .int .i64 sq, .int .i64 n, .int .i64 ps, .int .i64 mr, lv, .bool sf, .string d]
/-- a unit of the document's in its box, and its List -/
structure RAt (w0 w : World) (g : Nat) (k sq n ps mr : Int) (a : Option Addr) (m cap : Nat) (L : List Int) (sf : Bool) (d : ByteArray) : Prop where
  blk : w.heap[g]? = some (.cells (aggR k sq n ps mr (.slice a m cap) sf d) 36 (0, 0))
  rd : RdI .i64 w a m L
  bel : Below g w0 w
section
variable {w0 w w' : World} {g : Nat} {k sq n ps mr : Int} {a : Option Addr} {m cap : Nat} {L : List Int} {sf : Bool} {d : ByteArray}
theorem RAt.lt (h : RAt w0 w g k sq n ps mr a m cap L sf d) : g < w.heap.size := (Array.getElem?_eq_some_iff.1 h.blk).1
theorem RAt.below (h : RAt w0 w g k sq n ps mr a m cap L sf d) (hb : Below w.heap.size w w') : RAt w0 w' g k sq n ps mr a m cap L sf d :=
  ⟨(hb.block g h.lt).trans h.blk, h.rd.below hb, h.bel.trans (hb.mono (Nat.le_of_lt h.lt))⟩
theorem RAt.cells (h : RAt w0 w g k sq n ps mr a m cap L sf d) : w.cell? ⟨g, 0, none⟩ = some (.int .i64 k) ∧ w.cell? ⟨g, 1, none⟩ = some (.int .i64 sq) ∧ w.cell? ⟨g, 2, none⟩ = some (.int .i64 n) ∧ w.cell? ⟨g, 3, none⟩ = some (.int .i64 ps) ∧
    w.cell? ⟨g, 4, none⟩ = some (.int .i64 mr) ∧ w.cell? ⟨g, 5, none⟩ = some (.slice a m cap) ∧ w.cell? ⟨g, 6, none⟩ = some (.bool sf) ∧ w.cell? ⟨g, 7, none⟩ = some (.string d) := by
  have e := h.blk
  exact ⟨Go.Joins.cell_of_block e 0, Go.Joins.cell_of_block e 1, Go.Joins.cell_of_block e 2, Go.Joins.cell_of_block e 3, Go.Joins.cell_of_block e 4, Go.Joins.cell_of_block e 5, Go.Joins.cell_of_block e 6, Go.Joins.cell_of_block e 7⟩
theorem RAt.new (hL : RdI .i64 w a m L) : RAt w (w.alloc (.cells (aggR k sq n ps mr (.slice a m cap) sf d) 36)) w.heap.size k sq n ps mr a m cap L sf d :=
  ⟨heap_alloc_new w _, hL.alloc _, (Below.refl _ _).alloc (Nat.le_refl _) _⟩
end
theorem empty_yes {s : ByteArray} (h : s.size = 0) : s.toList.isEmpty = true := by
  obtain rfl := empty_of h
  rw [ByteArray.toList_eq]; rfl
end Go.Proofs.YtaappdaolenkiaaDoor.Pdu
