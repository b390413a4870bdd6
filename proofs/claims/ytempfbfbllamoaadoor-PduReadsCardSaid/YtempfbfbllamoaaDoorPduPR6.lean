/-
  Bytes are read by the document's words.
-/
import Derived.Test.YtempfbfbllamoaaDoorPduPR3
import Derived.Test.YtempfbfbllamoaaDoorPduPR4
import Derived.Test.YtempfbfbllamoaaDoorPduPR5
namespace Go.Proofs.YtempfbfbllamoaaDoor.Pdu
open Go.ChangeShapes Go.WideShapes Go.RowKit Own

theorem rparse_any (s : ByteArray) (w : World) (hm : s.size ≤ 100000) :
    Calls Tryd.prog 7 #[.string s] w fun e w' => Below w.heap.size w w' ∧ ((codeP s ≠ 0 ∧ e = .returned (told (.agg zeroR) (codeP s))) ∨ (codeP s = 0 ∧ ∃ lv, e = .returned (told ((unitP s).val .i64 lv) 0) ∧ OwnI .i64 3 w' w.heap.size lv (unitP s).list)) := by
  by_cases hs : s.size = 0 ∨ s.size % 4 ≠ 0
  · have hc : codeP s = 5 := by unfold codeP; rw [if_pos hs]
    rw [hc]
    exact (rparse_short s w hs).mono fun e w' ⟨h1, h2⟩ => ⟨h2, .inl ⟨by decide, h1⟩⟩
  · have h0 : s.size ≠ 0 := by omega
    have h1 : s.size % 4 = 0 := by omega
    have hk := (word_facts s).2.2.2.1
    by_cases hq : hasSQ (kindP s : Int) = true
    · exact rparse_S s w h0 h1 hm hq
    · have hd : kindP s = 0 ∨ (kindP s = 8 ∨ kindP s = 13 ∨ kindP s = 14) ∨ kindP s = 10 ∨ kindP s = 11 ∨ kindP s = 12 := by
        generalize kindP s = k at *
        match k, hk with
        | 0, _ => omega
        | 1, _ | 2, _ | 3, _ | 4, _ | 5, _ | 6, _ | 7, _ | 9, _ | 15, _ => exact absurd rfl hq
        | 8, _ | 13, _ | 14, _ | 10, _ | 11, _ | 12, _ => omega
        | k + 16, h => exact absurd h (by omega)
      rcases hd with h | h | h | h | h
      · exact rparse_zero s w h0 h1 hm h
      · exact rparse_O s w h0 h1 hm h
      · exact rparse_10 s w h0 h1 hm h
      · exact rparse_11 s w h0 h1 hm h
      · exact rparse_12 s w h0 h1 hm h

end Go.Proofs.YtempfbfbllamoaaDoor.Pdu
