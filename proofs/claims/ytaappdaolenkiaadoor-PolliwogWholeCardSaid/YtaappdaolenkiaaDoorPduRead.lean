/-
  Units: what is read of the words.
-/
import Derived.Test.YtaappdaolenkiaaDoorPduRev
namespace Go.Proofs.YtaappdaolenkiaaDoor.Pdu
open Go.ChangeShapes Go.WideShapes Go.RowKit Own

abbrev St := ByteArray × Bool
def takeW (st : St) : Int × St := if st.1.size < 4 then (0, (st.1, true)) else (((word4 (st.1.data.toList.drop (st.1.size - 4)) : Nat) : Int), (st.1.extract 0 (st.1.size - 4), st.2))
theorem takeW_size (st : St) : (takeW st).2.1.size ≤ st.1.size := by
  unfold takeW; split
  · exact Nat.le_refl _
  · simp [ByteArray.size_extract]
theorem takeW_bounds (st : St) : 0 ≤ (takeW st).1 ∧ (takeW st).1 ≤ 4294967295 := by
  unfold takeW; split
  · exact ⟨Int.le_refl _, by show (0 : Int) ≤ _; decide⟩
  · rename_i h
    simp only
    obtain ⟨E, hE⟩ : ∃ E, st.1.size = E + 4 := ⟨st.1.size - 4, by omega⟩
    have hl : (st.1.data.toList.drop (st.1.size - 4)).length = 4 := by rw [List.length_drop]; simp; omega
    generalize st.1.data.toList.drop (st.1.size - 4) = l at hl
    match l, hl with
    | [a, b, c, d], _ =>
      have := a.toNat_lt; have := b.toNat_lt; have := c.toNat_lt; have := d.toNat_lt
      simp [word4]; omega
theorem word_take (g : Nat) (st : St) (w : World) (h : RestAt w g st.1 st.2) (hm : st.1.size ≤ maxLen) :
    Calls Tryd.prog 31 #[.pointer (some ⟨g, 0, none⟩)] w fun e w' => e = .returned (.int .u32 (takeW st).1) ∧ RestAt w' g (takeW st).2.1 (takeW st).2.2 ∧ w.grownBy w' (some g) := by
  by_cases hs : st.1.size < 4
  · have e : takeW st = (0, (st.1, true)) := if_pos hs
    rw [e]
    exact word_short g st.1 st.2 w h hs
  · have e : takeW st = (((word4 (st.1.data.toList.drop (st.1.size - 4)) : Nat) : Int), (st.1.extract 0 (st.1.size - 4), st.2)) := if_neg hs
    rw [e]
    exact word_any g st.1 st.2 (st.1.size - 4) w h (by omega) hm

/-- a unit's own box, its data not read yet -/
def PAt (w : World) (g : Nat) (k : Nat) (sq n ps mr : Int) (lv : Value) (self : Bool) : Prop :=
  w.heap[g]? = some (.cells #[.int .i64 (k : Int), .int .i64 sq, .int .u32 n, .int .u32 ps, .int .u32 mr, lv, .bool self, .string ⟨#[]⟩] 32 (0, 0))
theorem PAt.cells {w : World} {g k : Nat} {sq n ps mr : Int} {lv : Value} {self : Bool} (h : PAt w g k sq n ps mr lv self) :
    w.cell? ⟨g, 0, none⟩ = some (.int .i64 (k : Int)) ∧ w.cell? ⟨g, 1, none⟩ = some (.int .i64 sq) ∧ w.cell? ⟨g, 3, none⟩ = some (.int .u32 ps) ∧ w.cell? ⟨g, 4, none⟩ = some (.int .u32 mr) ∧ w.cell? ⟨g, 5, none⟩ = some lv ∧ g < w.heap.size ∧ ∀ i, w.frozen? ⟨g, i, none⟩ = false :=
  ⟨Go.Joins.cell_of_block h 0, Go.Joins.cell_of_block h 1, Go.Joins.cell_of_block h 3, Go.Joins.cell_of_block h 4, Go.Joins.cell_of_block h 5, (Array.getElem?_eq_some_iff.1 h).1, fun i => by simp [World.frozen?, (show w.heap[g]? = _ from h)]⟩

theorem PAt.below {w w' : World} {g k : Nat} {sq n ps mr : Int} {lv : Value} {self : Bool} (h : PAt w g k sq n ps mr lv self) (hb : Below w.heap.size w w') : PAt w' g k sq n ps mr lv self := (hb.block _ h.cells.2.2.2.2.2.1).trans h
theorem PAt.grown {w w' : World} {g k g2 : Nat} {sq n ps mr : Int} {lv : Value} {self : Bool} (h : PAt w g k sq n ps mr lv self) (hg : w.grownBy w' (some g2)) (hn : g ≠ g2) : PAt w' g k sq n ps mr lv self :=
  (hg.block _ h.cells.2.2.2.2.2.1 (fun e => hn (by cases e; rfl))).trans h
theorem below_set {b g i : Nat} {w0 w : World} {v : Value} (hb : Below b w0 w) (hs : b ≤ w.heap.size) (hg : b ≤ g) : Below b w0 (w.setCell ⟨g, i, none⟩ v) := hb.grown (grown_set w g i v) hs (fun j hj => by cases hj; exact hg)

set_option maxHeartbeats 1000000 in
theorem read_S (k g1 g2 : Nat) (f1 f2 f8 n : Int) (f7 self : Bool) (st : St) (w : World) (hk : (k : Int) < 16) (hf : 0 < f1)
    (hR : ∀ w', Forms w' → w'.cell? ⟨0, k * 8, none⟩ = some (.int .i64 f1) ∧ w'.cell? ⟨0, k * 8 + 1, none⟩ = some (.int .u32 f2) ∧ w'.cell? ⟨0, k * 8 + 2, none⟩ = some (.int .u32 0) ∧ w'.cell? ⟨0, k * 8 + 3, none⟩ = some (.int .u32 0) ∧ w'.cell? ⟨0, k * 8 + 4, none⟩ = some (.int .i64 0) ∧ w'.cell? ⟨0, k * 8 + 5, none⟩ = some (.int .i64 0) ∧ w'.cell? ⟨0, k * 8 + 6, none⟩ = some (.bool f7) ∧ w'.cell? ⟨0, k * 8 + 7, none⟩ = some (.int .i64 f8))
    (hF : Forms w) (hp : PAt w g1 k 0 n 0 0 (.slice none 0 0) self) (hr : RestAt w g2 st.1 st.2) (hne : g1 ≠ g2) (hm : st.1.size ≤ maxLen) :
    Calls Tryd.prog 33 #[.pointer (some ⟨g1, 0, none⟩), .pointer (some ⟨g2, 0, none⟩)] w fun e w' => (∃ v, e = .returned v) ∧
      PAt w' g1 k (takeW st).1 n 0 0 (.slice none 0 0) self ∧ RestAt w' g2 (takeW st).2.1 (takeW st).2.2 ∧ Below (min g1 g2) w w' := by
  obtain ⟨c0, c1, c2, c3, c4, c5, c6, c7⟩ := hR w hF
  obtain ⟨p0, p1, p3, p4, p5, hlt1, hfz1⟩ := hp.cells
  have hlt2 := hr.cells.2.2.1
  have hlt0 := hF.1
  have HP := Lib.hid hp
  have HR := Lib.hid hr
  have HM := Lib.hid hm
  have HNE := Lib.hid hne
  clear hp hr hF hR hm hne
  go_enter Tryd.func33, Tryd.ntmps33
  go_wp2_with fail
  refine wp_loop_rounds 1 ?_
  rw [rounds_succ]
  go_wp2_with fail
  refine (AnyE.slices_Reverse_empty Tryd.revNum none 0 _).mono ?_
  rintro e w1 ⟨rfl, rfl⟩
  go_wp2_with fail
  refine (word_take g2 st _ (HR.out.below ((Below.refl _ _).alloc (Nat.le_refl _) _)) HM.out).mono ?_
  rintro e w1 ⟨rfl, hr1, hg1⟩
  have hbd := takeW_bounds st
  have hp1 := (HP.out.below ((Below.refl _ _).alloc (Nat.le_refl _) (.cells #[.int .i64 f1, .int .u32 f2, .int .u32 0, .int .u32 0, .int .i64 0, .int .i64 0, .bool f7, .int .i64 f8] 63))).grown hg1 HNE.out
  have hb1 : Below (min g1 g2) w w1 := ((Below.refl (min g1 g2) w).alloc (by omega) (.cells #[.int .i64 f1, .int .u32 f2, .int .u32 0, .int .u32 0, .int .i64 0, .int .i64 0, .bool f7, .int .i64 f8] 63)).grown hg1 (by simp; omega) (fun j hj => by cases hj; exact Nat.min_le_right _ _)
  have hs1 := hb1.size
  obtain ⟨⟨x, st'⟩, hT⟩ : ∃ T, T = takeW st := ⟨_, rfl⟩
  rw [← hT] at hr1 hbd ⊢
  have HT := Lib.hid hT
  clear hT
  simp only at hr1 hbd ⊢
  obtain ⟨p0, p1, p3, p4, p5, hlt1', hfz1'⟩ := hp1.cells
  have HP1 := Lib.hid hp1
  have HR1 := Lib.hid hr1
  have HB1 := Lib.hid hb1
  clear hp1 hr1 hb1 hg1
  go_wp2_with fail
  (try simp only [Exit.inBlock, Exit.then])
  refine bodyPost_end (results_none rfl _ _ _) rfl ?_
  rw [← HT.out]
  exact ⟨⟨_, rfl⟩, heap_setCell_same _ _ _ _ _ _ HP1.out, (heap_setCell_other w1 _ g2 _ (fun e => HNE.out e.symm)).trans HR1.out, below_set HB1.out (by omega) (Nat.min_le_left _ _)⟩
set_option maxHeartbeats 1000000 in
theorem read_O (k g1 g2 : Nat) (f2 f8 n : Int) (f7 self : Bool) (st : St) (w : World) (hk : (k : Int) < 16)
    (hR : ∀ w', Forms w' → w'.cell? ⟨0, k * 8, none⟩ = some (.int .i64 0) ∧ w'.cell? ⟨0, k * 8 + 1, none⟩ = some (.int .u32 f2) ∧ w'.cell? ⟨0, k * 8 + 2, none⟩ = some (.int .u32 0) ∧ w'.cell? ⟨0, k * 8 + 3, none⟩ = some (.int .u32 0) ∧ w'.cell? ⟨0, k * 8 + 4, none⟩ = some (.int .i64 0) ∧ w'.cell? ⟨0, k * 8 + 5, none⟩ = some (.int .i64 0) ∧ w'.cell? ⟨0, k * 8 + 6, none⟩ = some (.bool f7) ∧ w'.cell? ⟨0, k * 8 + 7, none⟩ = some (.int .i64 f8))
    (hF : Forms w) (hp : PAt w g1 k 0 n 0 0 (.slice none 0 0) self) (hr : RestAt w g2 st.1 st.2) (hne : g1 ≠ g2) (hm : st.1.size ≤ maxLen) :
    Calls Tryd.prog 33 #[.pointer (some ⟨g1, 0, none⟩), .pointer (some ⟨g2, 0, none⟩)] w fun e w' => (∃ v, e = .returned v) ∧
      PAt w' g1 k 0 n 0 0 (.slice none 0 0) self ∧ RestAt w' g2 st.1 st.2 ∧ Below (min g1 g2) w w' := by
  obtain ⟨c0, c1, c2, c3, c4, c5, c6, c7⟩ := hR w hF
  obtain ⟨p0, p1, p3, p4, p5, hlt1, hfz1⟩ := hp.cells
  have hlt2 := hr.cells.2.2.1
  have hlt0 := hF.1
  have HP := Lib.hid hp
  have HR := Lib.hid hr
  have HM := Lib.hid hm
  have HNE := Lib.hid hne
  clear hp hr hF hR hm hne
  go_enter Tryd.func33, Tryd.ntmps33
  go_wp2_with fail
  refine wp_loop_rounds 1 ?_
  rw [rounds_succ]
  go_wp2_with fail
  refine (AnyE.slices_Reverse_empty Tryd.revNum none 0 _).mono ?_
  rintro e w1 ⟨rfl, rfl⟩
  go_wp2_with fail
  have hb1 : Below (min g1 g2) w (w.alloc (.cells #[.int .i64 0, .int .u32 f2, .int .u32 0, .int .u32 0, .int .i64 0, .int .i64 0, .bool f7, .int .i64 f8] 63)) := (Below.refl (min g1 g2) w).alloc (by omega) _
  (try simp only [Exit.inBlock, Exit.then])
  refine bodyPost_end (results_none rfl _ _ _) rfl ?_
  exact ⟨⟨_, rfl⟩, HP.out.below ((Below.refl _ _).alloc (Nat.le_refl _) _), HR.out.below ((Below.refl _ _).alloc (Nat.le_refl _) _), hb1⟩

set_option maxHeartbeats 1000000 in
theorem read_P (k g1 g2 : Nat) (f2 f3 f8 n : Int) (f7 self : Bool) (st : St) (w : World) (hk : (k : Int) < 16) (hf : 0 < f3)
    (hR : ∀ w', Forms w' → w'.cell? ⟨0, k * 8, none⟩ = some (.int .i64 0) ∧ w'.cell? ⟨0, k * 8 + 1, none⟩ = some (.int .u32 f2) ∧ w'.cell? ⟨0, k * 8 + 2, none⟩ = some (.int .u32 f3) ∧ w'.cell? ⟨0, k * 8 + 3, none⟩ = some (.int .u32 0) ∧ w'.cell? ⟨0, k * 8 + 4, none⟩ = some (.int .i64 0) ∧ w'.cell? ⟨0, k * 8 + 5, none⟩ = some (.int .i64 0) ∧ w'.cell? ⟨0, k * 8 + 6, none⟩ = some (.bool f7) ∧ w'.cell? ⟨0, k * 8 + 7, none⟩ = some (.int .i64 f8))
    (hF : Forms w) (hp : PAt w g1 k 0 n 0 0 (.slice none 0 0) self) (hr : RestAt w g2 st.1 st.2) (hne : g1 ≠ g2) (hm : st.1.size ≤ maxLen) :
    Calls Tryd.prog 33 #[.pointer (some ⟨g1, 0, none⟩), .pointer (some ⟨g2, 0, none⟩)] w fun e w' => (∃ v, e = .returned v) ∧
      PAt w' g1 k 0 n (takeW st).1 0 (.slice none 0 0) self ∧ RestAt w' g2 (takeW st).2.1 (takeW st).2.2 ∧ Below (min g1 g2) w w' := by
  obtain ⟨c0, c1, c2, c3, c4, c5, c6, c7⟩ := hR w hF
  obtain ⟨p0, p1, p3, p4, p5, hlt1, hfz1⟩ := hp.cells
  have hlt2 := hr.cells.2.2.1
  have hlt0 := hF.1
  have HP := Lib.hid hp
  have HR := Lib.hid hr
  have HM := Lib.hid hm
  have HNE := Lib.hid hne
  clear hp hr hF hR hm hne
  go_enter Tryd.func33, Tryd.ntmps33
  go_wp2_with fail
  refine (word_take g2 st _ (HR.out.below ((Below.refl _ _).alloc (Nat.le_refl _) _)) HM.out).mono ?_
  rintro e w1 ⟨rfl, hr1, hg1⟩
  have hbd := takeW_bounds st
  have hp1 := (HP.out.below ((Below.refl _ _).alloc (Nat.le_refl _) (.cells #[.int .i64 0, .int .u32 f2, .int .u32 f3, .int .u32 0, .int .i64 0, .int .i64 0, .bool f7, .int .i64 f8] 63))).grown hg1 HNE.out
  have hb1 : Below (min g1 g2) w w1 := ((Below.refl (min g1 g2) w).alloc (by omega) (.cells #[.int .i64 0, .int .u32 f2, .int .u32 f3, .int .u32 0, .int .i64 0, .int .i64 0, .bool f7, .int .i64 f8] 63)).grown hg1 (by simp; omega) (fun j hj => by cases hj; exact Nat.min_le_right _ _)
  have hs1 := hb1.size
  have hq1 : w1.heap[w.heap.size]? = some (.cells #[.int .i64 0, .int .u32 f2, .int .u32 f3, .int .u32 0, .int .i64 0, .int .i64 0, .bool f7, .int .i64 f8] 63 (0, 0)) := (hg1.block w.heap.size (by simp) (fun e => by have := Option.some.inj e; omega)).trans (heap_alloc_new w _)
  have q0 : w1.cell? ⟨w.heap.size, 0, none⟩ = some (.int .i64 0) := Go.Joins.cell_of_block hq1 0
  have q4 : w1.cell? ⟨w.heap.size, 4, none⟩ = some (.int .i64 0) := Go.Joins.cell_of_block hq1 4
  have q5 : w1.cell? ⟨w.heap.size, 5, none⟩ = some (.int .i64 0) := Go.Joins.cell_of_block hq1 5
  clear hq1
  obtain ⟨⟨x, st'⟩, hT⟩ : ∃ T, T = takeW st := ⟨_, rfl⟩
  rw [← hT] at hr1 hbd ⊢
  have HT := Lib.hid hT
  clear hT
  simp only at hr1 hbd ⊢
  obtain ⟨p0, p1, p3, p4, p5, hlt1', hfz1'⟩ := hp1.cells
  have HP1 := Lib.hid hp1
  have HR1 := Lib.hid hr1
  have HB1 := Lib.hid hb1
  clear hp1 hr1 hb1 hg1
  go_wp2_with fail
  refine wp_loop_rounds 1 ?_
  rw [rounds_succ]
  go_wp2_with fail
  refine (AnyE.slices_Reverse_empty Tryd.revNum none 0 _).mono ?_
  rintro e w1 ⟨rfl, rfl⟩
  go_wp2_with fail
  (try simp only [Exit.inBlock, Exit.then])
  refine bodyPost_end (results_none rfl _ _ _) rfl ?_
  rw [← HT.out]
  exact ⟨⟨_, rfl⟩, heap_setCell_same _ _ _ _ _ _ HP1.out, (heap_setCell_other w1 _ g2 _ (fun e => HNE.out e.symm)).trans HR1.out, below_set HB1.out (by omega) (Nat.min_le_left _ _)⟩
end Go.Proofs.YtaappdaolenkiaaDoor.Pdu
