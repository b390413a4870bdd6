/-
  Units in frames: a list of units that came in.
-/
import Derived.Test.YtaappdaolenkiaaDoorPduLaw2
import Derived.Test.YtaappdaolenkiaaDoorRead
namespace Go.Proofs.YtaappdaolenkiaaDoor.Wire
open Go.ChangeShapes Go.WideShapes Go.RowKit Pdu Own

/-- the i-th unit of a list that came in -/
def Elem (w : World) (b off i : Nat) : Prop := ∃ (k sq n ps mr : Int) (a : Option Addr) (cap : Nat) (L : List Int) (sf : Bool) (d : ByteArray),
  (w.cell? ⟨b, off + i * 8, none⟩ = some (.int .i64 k) ∧ w.cell? ⟨b, off + i * 8 + 1, none⟩ = some (.int .i64 sq) ∧ w.cell? ⟨b, off + i * 8 + 2, none⟩ = some (.int .i64 n) ∧ w.cell? ⟨b, off + i * 8 + 3, none⟩ = some (.int .i64 ps) ∧
   w.cell? ⟨b, off + i * 8 + 4, none⟩ = some (.int .i64 mr) ∧ w.cell? ⟨b, off + i * 8 + 5, none⟩ = some (.slice a L.length cap) ∧ w.cell? ⟨b, off + i * 8 + 6, none⟩ = some (.bool sf) ∧ w.cell? ⟨b, off + i * 8 + 7, none⟩ = some (.string d)) ∧
  RdI .i64 w a L.length L ∧ L.length ≤ 140737488351232
theorem open_list (w : World) (v : Value) (x : Base.Dat) (h : Base.RdV w (.slice shpU) x v) :
    ∃ (a : Option Addr) (m cap : Nat), v = .slice a m cap ∧ m ≤ 140737488351232 ∧ (m = 0 ∨ ∃ b off, a = some ⟨b, off, none⟩ ∧ b < w.heap.size ∧ ∀ i, i < m → Elem w b off i) := by
  have h : Base.Rd w (.slice shpU) x [v] := h
  obtain ⟨l, a, cap, rfl, hv, hl, hr⟩ := Base.rd_slice h
  obtain rfl : v = .slice a l.length cap := by simpa using hv
  refine ⟨a, l.length, cap, rfl, hl, ?_⟩
  rcases hr with rfl | ⟨b, off, rfl, hb, hc⟩
  · exact .inl rfl
  · refine .inr ⟨b, off, rfl, hb, fun i hi => ?_⟩
    obtain ⟨es, he, hcell, hrd⟩ := hc i hi
    obtain ⟨k, sq, n, ps, mr, a', cap', L, sf, d, hag, hrl, hll⟩ := open_pdu w (.agg es.toArray) (l.getD i (.bool false)) ⟨es, rfl, hrd⟩
    have hes : es = [.int .i64 k, .int .i64 sq, .int .i64 n, .int .i64 ps, .int .i64 mr, .slice a' L.length cap', .bool sf, .string d] := by
      have := Value.agg.inj hag
      have := congrArg Array.toList this
      simpa using this
    subst hes
    have c := fun j hj => hcell j hj
    refine ⟨k, sq, n, ps, mr, a', cap', L, sf, d, ⟨?_, ?_, ?_, ?_, ?_, ?_, ?_, ?_⟩, hrl, hll⟩
    · exact c 0 (by decide)
    · exact c 1 (by decide)
    · exact c 2 (by decide)
    · exact c 3 (by decide)
    · exact c 4 (by decide)
    · exact c 5 (by decide)
    · exact c 6 (by decide)
    · exact c 7 (by decide)
end Go.Proofs.YtaappdaolenkiaaDoor.Wire
