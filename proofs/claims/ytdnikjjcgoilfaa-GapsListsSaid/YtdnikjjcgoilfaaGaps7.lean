/-
  Gaps: the fixed fact.
-/
import Derived.Test.YtdnikjjcgoilfaaGaps6
namespace Go.Proofs.Ytdnikjjcgoilfaa.Gaps
open Go.ChangeShapes Go.WideShapes Go.RowKit SpanMath

theorem own_rd {τ : TypeId} {w : World} {base : Nat} {v : Value} {L : List Int} (h : Own.OwnI .u32 τ w base v L) : ∃ a cap, v = .slice a L.length cap ∧ Own.Fit a L.length cap ∧ Own.RdI .u32 w a L.length L := by
  obtain ⟨a, n, cap, rfl, h1, h2⟩ := h.form
  have := h2.1
  subst this
  exact ⟨a, cap, rfl, h1, h2⟩
theorem awake_set : IsSet [(0, 2), (5, 6)] (inSp [(0, 2), (5, 6)]) := ⟨⟨by simp, by simp⟩, fun n => mem_nums⟩
theorem both_self {S : List Sp} (hS : Norm S) (hb : ∀ x ∈ S, 0 ≤ x.1 ∧ x.2 ≤ 8388609) : IsSet S fun z => z ∈ nums S ∧ z ∈ nums [(0, 8388609)] := ⟨hS, fun z => by
  show z ∈ nums S ↔ z ∈ nums S ∧ z ∈ nums [(0, 8388609)]
  rw [mem_nums, mem_nums]
  constructor
  · rintro ⟨x, hx, h1, h2⟩
    have := hb x hx
    exact ⟨⟨x, hx, h1, h2⟩, (0, 8388609), by simp, by show 0 ≤ z; omega, by show z < 8388609; omega⟩
  · exact fun h => h.1⟩
theorem awake_both : IsSet [(0, 2), (5, 6)] fun z => z ∈ nums [(0, 2), (5, 6)] ∧ z ∈ nums [(0, 8388609)] := both_self awake_set.1 (by simp)
theorem awake_flat : flatB 16777215 [(0, 2), (5, 6)] = [16777215, 1, 4, 5] := by decide +kernel
theorem awake_count : countL [16777215, 1, 4, 5] = 3 := by decide +kernel
set_option maxRecDepth 100000 in
set_option maxHeartbeats 2000000 in
theorem gawake_any (w : World) : Calls Try.prog 9 #[] w fun e w' => e = .returned (.bool true) ∧ Below w.heap.size w w' := by
  have hb0 : Below w.heap.size w (w.alloc (.cells #[.int .i64 0, .int .i64 2, .int .i64 5, .int .i64 6] 56)) := (Below.refl _ _).alloc (Nat.le_refl _) _
  have hr0 : View.RdS (w.alloc (.cells #[.int .i64 0, .int .i64 2, .int .i64 5, .int .i64 6] 56)) (some ⟨w.heap.size, 0, none⟩) 2 [(0, 2), (5, 6)] := ⟨rfl, fun _ => ⟨_, 0, rfl, by simp, fun i hi => by
    rcases (show i = 0 ∨ i = 1 by omega) with rfl | rfl <;> simp⟩⟩
  have HB0 := Lib.hid hb0
  have HR0 := Lib.hid hr0
  clear hb0 hr0
  go_enter Try.func9, Try.ntmps9
  go_wp2_with fail
  refine (SpanCalls.of_any _ 2 2 [(0, 2), (5, 6)] [(0, 2), (5, 6)] _ HR0.out ⟨Nat.le_refl _, by unfold maxLen; omega, fun h => by cases h⟩ ⟨by simp, by simp⟩ awake_set).mono ?_; rintro e w1 ⟨v1, rfl, ho1, hb1⟩
  obtain ⟨a1, n1, c1, rfl, hf1, hr1⟩ := ho1.form
  have HB1 := Lib.hid (HB0.out.trans (hb1.mono HB0.out.size))
  have HF1 := Lib.hid hf1
  have HR1 := Lib.hid hr1
  clear ho1 hb1 hf1 hr1
  go_wp2_with fail
  refine (glist_any 16777215 a1 n1 c1 [(0, 2), (5, 6)] [(0, 2), (5, 6)] [(0, 2), (5, 6)] _ HR1.out HF1.out ⟨by simp, by simp⟩ awake_set (by simp) awake_both (by simp)).mono ?_; rintro e w2 ⟨v2, rfl, ho2, hb2⟩
  rw [awake_flat] at ho2
  obtain ⟨a2, c2, rfl, hf2, hr2⟩ := own_rd ho2
  have HB2 := Lib.hid (HB1.out.trans (hb2.mono HB1.out.size))
  have HF2 := Lib.hid hf2
  have HR2 := Lib.hid hr2
  obtain ⟨b, off, rfl, _, hc0⟩ := hr2.at_ (k := 0) (by decide)
  obtain ⟨b', off', e1, _, hc1⟩ := hr2.at_ (k := 1) (by decide)
  cases e1
  obtain ⟨b', off', e1, _, hc2⟩ := hr2.at_ (k := 2) (by decide)
  cases e1
  obtain ⟨b', off', e1, _, hc3⟩ := hr2.at_ (k := 3) (by decide)
  cases e1
  rw [Nat.add_zero] at hc0
  simp only [List.getD_cons_zero, List.getD_cons_succ] at hc0 hc1 hc2 hc3
  clear ho2 hb2 hf2 hr2
  go_wp2_with fail
  refine (count_any _ 4 c2 [16777215, 1, 4, 5] _ HR2.out HF2.out (by decide)).mono ?_; rintro e w3 ⟨rfl, hb3⟩
  rw [awake_count]
  have HB3 := Lib.hid (HB2.out.trans (hb3.mono HB2.out.size))
  clear hb3 hc0 hc1 hc2 hc3
  go_wp2_with fail
  go_ret
  exact ⟨rfl, HB3.out⟩
end Go.Proofs.Ytdnikjjcgoilfaa.Gaps
