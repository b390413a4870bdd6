/-
  PduPR6, PduPR7 in one text.
-/
import Derived.Test.YthigcaakkjfghaaDoorPduPR3
import Derived.Test.YthigcaakkjfghaaDoorPduPR4
import Derived.Test.YthigcaakkjfghaaDoorPduPR5
import Derived.Test.YthigcaakkjfghaaDoorPduLaw
namespace Go.Proofs.YthigcaakkjfghaaDoor.Pdu
open Go.ChangeShapes Go.WideShapes Go.RowKit Own

theorem rparse_any (s : ByteArray) (w : World) (hm : s.size ≤ 100000) :
    Calls Tryd.prog 43 #[.string s] w fun e w' => Below w.heap.size w w' ∧ ((codeP s ≠ 0 ∧ e = .returned (told (.agg zeroR) (codeP s))) ∨ (codeP s = 0 ∧ ∃ lv, e = .returned (told ((unitP s).val .i64 lv) 0) ∧ OwnI .i64 3 w' w.heap.size lv (unitP s).list)) := by
  by_cases hs : s.size = 0 ∨ s.size % 4 ≠ 0
  · have hc : codeP s = 5 := by unfold codeP; rw [if_pos hs]
    rw [hc]
    exact (rparse_short s w hs).mono fun e w' ⟨h1, h2⟩ => ⟨h2, .inl ⟨by decide, h1⟩⟩
  · have h0 : s.size ≠ 0 := by omega
    have h1 : s.size % 4 = 0 := by omega
    have hk := (word_facts s).2.2.2.1
    by_cases hq : hasSQ (kindP s : Int) = true
    · exact rparse_S s w h0 h1 hm hq
    · have hd : kindP s = 0 ∨ (kindP s = 8 ∨ kindP s = 13 ∨ kindP s = 14) ∨ kindP s = 10 ∨ kindP s = 11 ∨ kindP s = 12 := by
        generalize kindP s = k at *
        match k, hk with
        | 0, _ => omega
        | 1, _ | 2, _ | 3, _ | 4, _ | 5, _ | 6, _ | 7, _ | 9, _ | 15, _ => exact absurd rfl hq
        | 8, _ | 13, _ | 14, _ | 10, _ | 11, _ | 12, _ => omega
        | k + 16, h => exact absurd h (by omega)
      rcases hd with h | h | h | h | h
      · exact rparse_zero s w h0 h1 hm h
      · exact rparse_O s w h0 h1 hm h
      · exact rparse_10 s w h0 h1 hm h
      · exact rparse_11 s w h0 h1 hm h
      · exact rparse_12 s w h0 h1 hm h

end Go.Proofs.YthigcaakkjfghaaDoor.Pdu

namespace Go.Proofs.YthigcaakkjfghaaDoor.Pdu
open Go.ChangeShapes Go.WideShapes Go.RowKit Own

theorem good_zero (s : ByteArray) (h : codeP s = 0) : checkU (unitP s) = 0 ∧ bytesU (unitP s) = s ∧ 0 ≤ (unitP s).n ∧ 0 ≤ (unitP s).ps ∧ 0 ≤ (unitP s).mr ∧ ∀ z ∈ (unitP s).list, 0 ≤ z := by
  have hs : ¬ (s.size = 0 ∨ s.size % 4 ≠ 0) := fun hc => by unfold codeP at h; rw [if_pos hc] at h; exact absurd h (by decide)
  have h4 : s.size % 4 = 0 := by omega
  have h0 : 4 ≤ s.size := by omega
  have hk : kindP s ≠ 0 := fun hc => by unfold codeP at h; rw [if_neg hs, if_pos hc] at h; exact absurd h (by decide)
  have hcr := code_R s h4 h0 (by omega)
  have hkk := (word_facts s).2.2.2.1
  rw [h] at hcr
  by_cases c1 : s.size / 4 < needN (kindP s)
  · rw [if_pos c1] at hcr; exact absurd hcr (by decide)
  rw [if_neg c1] at hcr
  by_cases c2 : restN s (kindP s) < padP s
  · rw [if_pos c2] at hcr; exact absurd hcr (by decide)
  rw [if_neg c2] at hcr
  have hu := unit_R s h4 h0 (by omega) (by omega)
  rw [← hu] at hcr
  by_cases c3 : checkU (unitP s) = 6
  · rw [if_pos c3] at hcr; exact absurd hcr (by decide)
  rw [if_neg c3] at hcr
  by_cases c4 : bytesU (unitP s) ≠ s
  · rw [if_pos c4] at hcr; exact absurd hcr (by decide)
  have c4 : bytesU (unitP s) = s := Classical.not_not.1 c4
  refine ⟨?_, c4, ?_, ?_, ?_, ?_⟩
  · rcases check_three (unitP s) (kindP s) rfl (by omega) hkk with h | h | h
    · exact h
    · unfold bytesU at c4
      rw [if_neg (by rw [h]; decide)] at c4
      rw [← c4] at h0
      exact absurd h0 (by decide)
    · exact absurd h c3
  · show 0 ≤ nP s
    have := (word_facts s).1
    unfold nP; omega
  · rw [hu]; exact ps_pos _ _
  · rw [hu]; exact mr_pos _ _
  · rw [hu]; exact lst_pos _ _
def zeroU : U := ⟨0, 0, 0, 0, 0, [], false, ⟨#[]⟩⟩
theorem rd_none {κ : IntKind} {w : World} : RdI κ w none 0 [] := ⟨rfl, fun h => absurd h (by omega)⟩
theorem parse_pair (s : ByteArray) (hm : s.size ≤ 100000) : ∃ (k sq n ps mr : Int) (L : List Int) (sf : Bool) (d : ByteArray) (m : Nat) (c : Int), m = L.length ∧ m ≤ 100000 ∧
    (0 ≤ n ∧ n ≤ 4294967295) ∧ (0 ≤ ps ∧ ps ≤ 4294967295) ∧ (0 ≤ mr ∧ mr ≤ 4294967295) ∧ (∀ z ∈ L, 0 ≤ z ∧ z ≤ 4294967295) ∧ (c = 0 → checkU ⟨k, sq, n, ps, mr, L, sf, d⟩ = 0 ∧ bytesU ⟨k, sq, n, ps, mr, L, sf, d⟩ = s) ∧ c = codeP s ∧ (c ≠ 0 → (⟨k, sq, n, ps, mr, L, sf, d⟩ : U) = zeroU) ∧ (c = 0 → unitP s = ⟨k, sq, n, ps, mr, L, sf, d⟩) ∧
    (∀ w, Forms w → Calls Tryd.prog 39 #[.string s] w fun e w' => ∃ a cap, e = .returned (.tuple #[.agg (aggU k sq n ps mr (.slice a m cap) sf d), .int .i64 c]) ∧ RdI .u32 w' a m L ∧ Below w.heap.size w w') ∧
    (∀ w, Calls Tryd.prog 43 #[.string s] w fun e w' => ∃ a cap, e = .returned (.tuple #[.agg (aggR k sq n ps mr (.slice a m cap) sf d), .int .i64 c]) ∧ RdI .i64 w' a m L ∧ Below w.heap.size w w') := by
  by_cases hc : codeP s = 0
  · obtain ⟨g1, g2, g3, g4, g5, g6⟩ := good_zero s hc
    obtain ⟨k', hk, h1, h2, s1, s2, n1, p1, m1, l1, d1, b1⟩ := check_ok _ g1
    have e1 := fun w hF => parse_any s w hF hm
    have e2 := fun w => rparse_any s w hm
    generalize hU : unitP s = U at *
    obtain ⟨k, sq, n, ps, mr, L, sf, d⟩ := U
    dsimp only at *
    refine ⟨k, sq, n, ps, mr, L, sf, d, L.length, 0, rfl, by omega, ⟨g3, by omega⟩, ⟨g4, by omega⟩, ⟨g5, by omega⟩, fun z hz => ⟨g6 z hz, ?_⟩, fun _ => ⟨g1, g2⟩, hc.symm, fun h => absurd rfl h, fun _ => rfl, fun w hF => (e1 w hF).mono ?_, fun w => (e2 w).mono ?_⟩
    · unfold anyBig at b1
      have := List.any_eq_false.1 b1 z hz
      simp at this; omega
    · rintro e w' ⟨hb, ⟨h, _⟩ | ⟨_, lv, rfl, ho⟩⟩
      · exact absurd hc h
      · obtain ⟨a, cap, rfl, hr⟩ := owned ho
        exact ⟨a, cap, rfl, hr, hb⟩
    · rintro e w' ⟨hb, ⟨h, _⟩ | ⟨_, lv, rfl, ho⟩⟩
      · exact absurd hc h
      · obtain ⟨a, cap, rfl, hr⟩ := owned ho
        exact ⟨a, cap, rfl, hr, hb⟩
  · refine ⟨0, 0, 0, 0, 0, [], false, ⟨#[]⟩, 0, codeP s, rfl, by decide, by decide, by decide, by decide, fun z hz => by simp at hz, fun h => absurd h hc, rfl, fun _ => rfl, fun h => absurd h hc, fun w hF => (parse_any s w hF hm).mono ?_, fun w => (rparse_any s w hm).mono ?_⟩
    · rintro e w' ⟨hb, ⟨_, rfl⟩ | ⟨h, _⟩⟩
      · exact ⟨none, 0, rfl, rd_none, hb⟩
      · exact absurd h hc
    · rintro e w' ⟨hb, ⟨_, rfl⟩ | ⟨h, _⟩⟩
      · exact ⟨none, 0, rfl, rd_none, hb⟩
      · exact absurd h hc
end Go.Proofs.YthigcaakkjfghaaDoor.Pdu
