/-
  The pace: what its laws call: ticks that may be, a config, a comparison.
-/
import Derived.Test.YtlfjndjbfbejkaaPace6
import Derived.Test.YtlfjndjbfbejkaaPace3
import Derived.StillTailTactics
namespace Go.Proofs.Ytlfjndjbfbejkaa.Pace
open Go.RowKit View Bank AppAt

theorem set_get (M : List Nat) (i j v : Nat) (hi : i < M.length) : (M.set i v).getD j 0 = if j = i then v else M.getD j 0 := by
  simp only [List.getD, List.getElem?_set]
  by_cases h : i = j
  · subst h; simp [hi]
  · rw [if_neg h, if_neg (fun e => h e.symm)]
theorem own_cell {κ : IntKind} {τ : TypeId} {w : World} {base g n cap : Nat} {M : List Int} (h : Own.OwnI κ τ w base (.slice (some ⟨g, 0, none⟩) n cap) M) (i : Nat) (hi : i < M.length) : w.frozen? ⟨g, i, none⟩ = false ∧ w.cell? ⟨g, i, none⟩ = some (.int κ (M.getD i 0)) := by
  obtain ⟨g', c', e, _, hf⟩ := own_block h (by omega)
  simp only [Value.slice.injEq, Option.some.injEq, Addr.mk.injEq] at e
  obtain ⟨⟨rfl, _⟩, _, _⟩ := e
  exact ⟨(hf i).1, (hf i).2 hi⟩
set_option maxRecDepth 100000 in
set_option maxHeartbeats 4000000 in
theorem right_any (a : Option Addr) (n cap : Nat) (D : List Int) (w : World) (h : RdI w a n D) (hn : n ≤ 281474976710656) (hD : ∀ z ∈ D, -9223372036854775808 ≤ z ∧ z ≤ 9223372036854775807) :
    Calls Try.prog 8 #[.slice a n cap] w fun e w' => ∃ v K, e = .returned v ∧ OwnI w' w.heap.size v (encZ K) ∧ Good K ∧ Below w.heap.size w w' := by
  have HL := Lib.hid h
  have HLN := Lib.hid h.1
  have HD := Lib.hid hD
  have hn2 : (n : Int) ≤ 281474976710656 := by omega
  clear h hD hn
  have HO : Hid (OwnI (w.alloc (.cells #[.int .i64 3, .int .i64 2, .int .i64 5, .int .i64 9, .int .i64 4] 3)) w.heap.size (.slice (some ⟨w.heap.size, 0, none⟩) 5 5) (encZ [3, 2, 5, 9, 4])) := Lib.hid ⟨rfl, .inr ⟨w.heap.size, 5, _, rfl, Nat.le_refl _, heap_alloc_new w _, by decide, by decide, rfl, rfl⟩⟩
  go_enter Try.func8, Try.ntmps8
  go_wp2_with fail
  go_loopw [4] (fun s4 wr => ∃ (k : Nat) (M : List Nat), k ≤ 5 ∧ k ≤ n ∧ s4 = .int .i64 (k : Int) ∧ M.length = 5 ∧ Hid (∀ i, i < 5 → 1 ≤ M.getD i 0 ∧ M.getD i 0 ≤ 40) ∧ Hid (OwnI wr w.heap.size (.slice (some ⟨w.heap.size, 0, none⟩) 5 5) (encZ M)) ∧ Hid (Below w.heap.size w wr)) (fun s4 _ => 5 - (intOf s4).toNat)
  case atStart => exact ⟨0, [3, 2, 5, 9, 4], by decide, Nat.zero_le _, rfl, rfl, Lib.hid (by decide), HO, Lib.hid ((Below.refl _ _).alloc (Nat.le_refl _) _)⟩
  case round =>
    obtain ⟨k, M, hk, hkn, rfl, hM, HB, ho, hb⟩ := hrel
    have HML := Lib.hid hM
    by_cases hlt : k < n
    · by_cases hlt5 : k < 5
      · obtain ⟨b, off, rfl, _, hc⟩ := (HL.out.below hb.out).at_ hlt
        obtain ⟨x, hx⟩ : ∃ x, D.getD k 0 = x := ⟨_, rfl⟩
        rw [hx] at hc
        have hxb := HD.out x (by rw [← hx]; have := HLN.out; simp [List.getD, show k < D.length by omega])
        obtain ⟨xa, xb⟩ := hxb
        obtain ⟨y, hy⟩ : ∃ y : Nat, (if 1 < (if 40 < x then 40 else x) then (if 40 < x then 40 else x) else 1) = (y : Int) := ⟨(max 1 (min x 40)).toNat, by split <;> (try split) <;> omega⟩
        have hyb : 1 ≤ y ∧ y ≤ 40 := by
          split at hy <;> (try split at hy) <;> omega
        have HY := Lib.hid hy
        obtain ⟨hfz, hcz⟩ := own_cell (κ := .i64) (τ := 3) ho.out k (by rw [encZ_len, hM]; exact hlt5)
        have HNEW : Hid (OwnI (wr.setCell ⟨w.heap.size, k, none⟩ (.int .i64 (y : Int))) w.heap.size (.slice (some ⟨w.heap.size, 0, none⟩) 5 5) (encZ (M.set k y))) := Lib.hid (by rw [encZ_set]; exact own_store (κ := .i64) (τ := 3) ho.out)
        have HNB : Hid (∀ i, i < 5 → 1 ≤ (M.set k y).getD i 0 ∧ (M.set k y).getD i 0 ≤ 40) := Lib.hid (fun i hi => by
          rw [set_get M k i y (by rw [hM]; exact hlt5)]
          split
          · exact hyb
          · exact HB.out i hi)
        have HNL : Hid ((M.set k y).length = 5) := Lib.hid (by rw [List.length_set, hM])
        have HK := Lib.hid (show k + 1 ≤ 5 ∧ k + 1 ≤ n by omega)
        have hki : (k : Int) < (n : Int) := by omega
        have hk5 : (k : Int) < 5 := by omega
        clear hx hy hyb hlt hlt5 hk hkn hM
        go_wp2_with fail
        go_roundw
        case rel => exact ⟨k + 1, M.set k y, HK.out.1, HK.out.2, by go_num, HNL.out, HNB, Lib.hid (by rw [HY.out]; exact HNEW.out), Lib.hid (hb.out.setCell (Nat.le_refl _) _)⟩
        case measure => simp [intOf]; have := HK.out; omega
      · obtain rfl : k = 5 := by omega
        clear hlt5 hk
        have f1 := own_cell (κ := .i64) (τ := 3) ho.out 1 (by rw [encZ_len, hM]; decide)
        have f2 := own_cell (κ := .i64) (τ := 3) ho.out 2 (by rw [encZ_len, hM]; decide)
        have f3 := own_cell (κ := .i64) (τ := 3) ho.out 3 (by rw [encZ_len, hM]; decide)
        obtain ⟨_, c1⟩ := f1
        obtain ⟨_, c2⟩ := f2
        obtain ⟨z3, c3⟩ := f3
        rw [encZ_get] at c1 c2 c3
        have hb1 := HB.out 1 (by decide)
        have hb2 := HB.out 2 (by decide)
        have hb3 := HB.out 3 (by decide)
        obtain ⟨x1, h1⟩ : ∃ x, M.getD 1 0 = x := ⟨_, rfl⟩
        obtain ⟨x2, h2⟩ : ∃ x, M.getD 2 0 = x := ⟨_, rfl⟩
        obtain ⟨x3, h3⟩ : ∃ x, M.getD 3 0 = x := ⟨_, rfl⟩
        rw [h1] at c1 hb1
        rw [h2] at c2 hb2
        rw [h3] at c3 hb3
        obtain ⟨hb11, hb12⟩ := hb1
        obtain ⟨hb21, hb22⟩ := hb2
        obtain ⟨hb31, hb32⟩ := hb3
        have KEY : Hid (∀ z : Int, z = ((max x3 (max (x1 + 1) (x2 + 1)) : Nat) : Int) → OwnI ((wr.setCell ⟨w.heap.size, 3, none⟩ (.int .i64 z)).drew) w.heap.size (.slice (some ⟨w.heap.size, 0, none⟩) 5 5) (encZ (M.set 3 (max x3 (max (x1 + 1) (x2 + 1)))))) := Lib.hid (fun z hz => by
          subst hz; rw [encZ_set]; exact Own.OwnI.below (own_store (κ := .i64) (τ := 3) ho.out) (View.below_drewN (Below.refl _ _) 1))
        have GOOD : Hid (Good (M.set 3 (max x3 (max (x1 + 1) (x2 + 1))))) := Lib.hid (by
          refine ⟨by rw [List.length_set, hM], fun i hi => ?_, ?_, ?_⟩
          · rw [set_get M 3 i _ (by rw [hM]; decide)]
            split
            · omega
            · have := HB.out i hi; omega
          · rw [set_get M 3 1 _ (by rw [hM]; decide), set_get M 3 3 _ (by rw [hM]; decide), if_neg (by decide), if_pos rfl, h1]; omega
          · rw [set_get M 3 2 _ (by rw [hM]; decide), set_get M 3 3 _ (by rw [hM]; decide), if_neg (by decide), if_pos rfl, h2]; omega)
        have HW1 : Hid (IntKind.i64.wrap ((x1 : Int) + 1) = (x1 : Int) + 1) := Lib.hid (by rw [IntKind.wrap_i64]; omega)
        have HW2 : Hid (IntKind.i64.wrap ((x2 : Int) + 1) = (x2 : Int) + 1) := Lib.hid (by rw [IntKind.wrap_i64]; omega)
        clear h1 h2 h3
        go_wp2_with fail
        go_still_tail 14, (by kernel_rfl)
        change wpList _ _ _ _ _ wr.drew
        go_wp2_with fail
        all_goals go_ret
        all_goals exact ⟨_, rfl, _, KEY.out _ (by have := HW1.out; have := HW2.out; omega), GOOD.out, View.below_drewN (hb.out.setCell (Nat.le_refl _) _) 1⟩
    · obtain rfl : k = n := by omega
      clear hlt hkn
      have f1 := own_cell (κ := .i64) (τ := 3) ho.out 1 (by rw [encZ_len, hM]; decide)
      have f2 := own_cell (κ := .i64) (τ := 3) ho.out 2 (by rw [encZ_len, hM]; decide)
      have f3 := own_cell (κ := .i64) (τ := 3) ho.out 3 (by rw [encZ_len, hM]; decide)
      obtain ⟨_, c1⟩ := f1
      obtain ⟨_, c2⟩ := f2
      obtain ⟨z3, c3⟩ := f3
      rw [encZ_get] at c1 c2 c3
      have hb1 := HB.out 1 (by decide)
      have hb2 := HB.out 2 (by decide)
      have hb3 := HB.out 3 (by decide)
      obtain ⟨x1, h1⟩ : ∃ x, M.getD 1 0 = x := ⟨_, rfl⟩
      obtain ⟨x2, h2⟩ : ∃ x, M.getD 2 0 = x := ⟨_, rfl⟩
      obtain ⟨x3, h3⟩ : ∃ x, M.getD 3 0 = x := ⟨_, rfl⟩
      rw [h1] at c1 hb1
      rw [h2] at c2 hb2
      rw [h3] at c3 hb3
      obtain ⟨hb11, hb12⟩ := hb1
      obtain ⟨hb21, hb22⟩ := hb2
      obtain ⟨hb31, hb32⟩ := hb3
      have KEY : Hid (∀ z : Int, z = ((max x3 (max (x1 + 1) (x2 + 1)) : Nat) : Int) → OwnI ((wr.setCell ⟨w.heap.size, 3, none⟩ (.int .i64 z)).drew) w.heap.size (.slice (some ⟨w.heap.size, 0, none⟩) 5 5) (encZ (M.set 3 (max x3 (max (x1 + 1) (x2 + 1)))))) := Lib.hid (fun z hz => by
        subst hz; rw [encZ_set]; exact Own.OwnI.below (own_store (κ := .i64) (τ := 3) ho.out) (View.below_drewN (Below.refl _ _) 1))
      have GOOD : Hid (Good (M.set 3 (max x3 (max (x1 + 1) (x2 + 1))))) := Lib.hid (by
        refine ⟨by rw [List.length_set, hM], fun i hi => ?_, ?_, ?_⟩
        · rw [set_get M 3 i _ (by rw [hM]; decide)]
          split
          · omega
          · have := HB.out i hi; omega
        · rw [set_get M 3 1 _ (by rw [hM]; decide), set_get M 3 3 _ (by rw [hM]; decide), if_neg (by decide), if_pos rfl, h1]; omega
        · rw [set_get M 3 2 _ (by rw [hM]; decide), set_get M 3 3 _ (by rw [hM]; decide), if_neg (by decide), if_pos rfl, h2]; omega)
      have HW1 : Hid (IntKind.i64.wrap ((x1 : Int) + 1) = (x1 : Int) + 1) := Lib.hid (by rw [IntKind.wrap_i64]; omega)
      have HW2 : Hid (IntKind.i64.wrap ((x2 : Int) + 1) = (x2 : Int) + 1) := Lib.hid (by rw [IntKind.wrap_i64]; omega)
      clear h1 h2 h3
      go_wp2_with fail
      go_still_tail 14, (by kernel_rfl)
      change wpList _ _ _ _ _ wr.drew
      go_wp2_with fail
      all_goals go_ret
      all_goals exact ⟨_, rfl, _, KEY.out _ (by have := HW1.out; have := HW2.out; omega), GOOD.out, View.below_drewN (hb.out.setCell (Nat.le_refl _) _) 1⟩
end Go.Proofs.Ytlfjndjbfbejkaa.Pace
