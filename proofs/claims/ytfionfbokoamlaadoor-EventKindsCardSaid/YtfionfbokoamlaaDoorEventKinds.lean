/-
  EventKinds is proved: each kind of a request may be, with what it needs, and no other kind may; for every input the law returns true.
-/
import Derived.Test.YtfionfbokoamlaaDoorLaid
import Derived.Test.YtfionfbokoamlaaDoorCards
import Derived.Test.YtfionfbokoamlaaDoorEvLaw
namespace Go.Proofs.YtfionfbokoamlaaDoor.eventKinds
open Go.ChangeShapes Go.WideShapes Go.ChangeAt Go.RowKit
set_option linter.unusedVariables false      -- a walk need not use every bound of an argument

open Ev
theorem and63 (n : Nat) (h : n ≤ 64) : ∃ m : Nat, bits .and .i64 (n : Int) 63 = (m : Int) ∧ m ≤ 63 := by
  have e : ∀ m : Fin 65, bits .and .i64 ((m.val : Nat) : Int) 63 = ((m.val % 64 : Nat) : Int) := by decide +kernel
  exact ⟨n % 64, e ⟨n, by omega⟩, by omega⟩

set_option maxRecDepth 100000 in
theorem case1 (d : ByteArray) (w : World) (hT : Tabs w) :
    Calls Tryd.prog 7 #[.int .i64 1, .string d] w fun e w' => e = .returned (.bool true) ∧ Below w.heap.size w w' := by
  obtain ⟨c, hc⟩ : ∃ c, cutL d 64 = c := ⟨_, rfl⟩
  have hcs : c.size ≤ 64 := by rw [← hc]; exact (cutL_le d 64).1
  obtain ⟨m, hm, hm63⟩ := and63 c.size hcs
  have hm63' : (m : Int) ≤ 63 := by omega
  have HC := Lib.hid hc
  have HT := Lib.hid hT
  have HCH : Hid (checkE 1 (c : ByteArray).size 0 = 0) := Lib.hid (by simp [checkE, restE, formOf]; omega)
  obtain ⟨T, hTT⟩ : ∃ T, textK 1 ⟨#[]⟩ false 65 0 = T := ⟨_, rfl⟩
  have hem : (T.toList == []) = false := by rw [← hTT]; decide +kernel
  have HTT := Lib.hid hTT
  have HCS := Lib.hid hcs
  clear hc hcs hTT hT hm63
  go_enter Tryd.func7, Tryd.ntmps7
  go_wp2_with fail
  refine (awake_any _ HT.out).mono ?_; rintro e w1 ⟨rfl, hb1⟩
  go_wp2_with fail
  refine (cut_any d _ 64 _ rfl).mono ?_; rintro e w2 ⟨rfl, rfl⟩
  rw [HC.out]
  go_wp2_with fail
  refine (check_any 1 c 0 _ ((HT.out.below hb1).below (by repeat (first | exact Below.refl _ _ | refine Below.alloc ?_ (by simp) _ | refine Below.setCell ?_ (by simp) _))).forms).mono ?_; rintro e w3 ⟨rfl, hb3⟩
  rw [HCH.out]
  have hgS := (hb3.block (w1.heap.size + 1) (by simp)).trans (heap_alloc2_new w1 (.cells #[.int .i64 1, .string c, .int .i64 0] 23) (.cells #[.int .i64 1, .string ⟨#[]⟩, .bool false, .int .u8 65, .int .i64 0] 31))
  have p0 := Go.Joins.cell_of_block hgS 0
  have p1 := Go.Joins.cell_of_block hgS 1
  have p2 := Go.Joins.cell_of_block hgS 2
  have p3 := Go.Joins.cell_of_block hgS 3
  have p4 := Go.Joins.cell_of_block hgS 4
  have hb4 : Below w.heap.size w w3 := (hb1.trans ((((Below.refl w1.heap.size w1).alloc (Nat.le_refl _) _).alloc (by simp) _).mono hb1.size)).trans (hb3.mono (by have := hb1.size; simp; omega))
  clear hb3 hgS
  go_wp2_with fail
  refine (text_any 1 ⟨#[]⟩ false 65 0 _ (HT.out.below hb4) (by decide) (by decide) (by decide) (by decide)).mono ?_; rintro e w4 ⟨rfl, hb5⟩
  rw [HTT.out]
  have hb6 := hb4.trans (hb5.mono hb4.size)
  clear hb5
  go_wp2_with fail
  all_goals first
    | (go_ret; exact ⟨rfl, hb6⟩)
    | (go_ret; refine ⟨?_, hb6⟩; simp_all)
    | (exfalso; omega)
    | (exfalso; simp_all; done)

set_option maxRecDepth 100000 in
theorem case2 (d : ByteArray) (w : World) (hT : Tabs w) :
    Calls Tryd.prog 7 #[.int .i64 2, .string d] w fun e w' => e = .returned (.bool true) ∧ Below w.heap.size w w' := by
  obtain ⟨c, hc⟩ : ∃ c, cutL d 64 = c := ⟨_, rfl⟩
  have hcs : c.size ≤ 64 := by rw [← hc]; exact (cutL_le d 64).1
  obtain ⟨m, hm, hm63⟩ := and63 c.size hcs
  have hm63' : (m : Int) ≤ 63 := by omega
  have HC := Lib.hid hc
  have HT := Lib.hid hT
  have HCH : Hid (checkE 2 (⟨#[]⟩ : ByteArray).size 0 = 0) := Lib.hid (by decide)
  obtain ⟨T, hTT⟩ : ∃ T, textK 2 ⟨#[]⟩ false 65 0 = T := ⟨_, rfl⟩
  have hem : (T.toList == []) = false := by rw [← hTT]; decide +kernel
  have HTT := Lib.hid hTT
  have HCS := Lib.hid hcs
  clear hc hcs hTT hT hm63
  go_enter Tryd.func7, Tryd.ntmps7
  go_wp2_with fail
  refine (awake_any _ HT.out).mono ?_; rintro e w1 ⟨rfl, hb1⟩
  go_wp2_with fail
  refine (cut_any d _ 64 _ rfl).mono ?_; rintro e w2 ⟨rfl, rfl⟩
  rw [HC.out]
  go_wp2_with fail
  refine (check_any 2 ⟨#[]⟩ 0 _ ((HT.out.below hb1).below (by repeat (first | exact Below.refl _ _ | refine Below.alloc ?_ (by simp) _ | refine Below.setCell ?_ (by simp) _))).forms).mono ?_; rintro e w3 ⟨rfl, hb3⟩
  rw [HCH.out]
  have hgS := (hb3.block (w1.heap.size + 1) (by simp)).trans (heap_alloc2_new w1 (.cells #[.int .i64 2, .string ⟨#[]⟩, .int .i64 0] 23) (.cells #[.int .i64 2, .string ⟨#[]⟩, .bool false, .int .u8 65, .int .i64 0] 31))
  have p0 := Go.Joins.cell_of_block hgS 0
  have p1 := Go.Joins.cell_of_block hgS 1
  have p2 := Go.Joins.cell_of_block hgS 2
  have p3 := Go.Joins.cell_of_block hgS 3
  have p4 := Go.Joins.cell_of_block hgS 4
  have hb4 : Below w.heap.size w w3 := (hb1.trans ((((Below.refl w1.heap.size w1).alloc (Nat.le_refl _) _).alloc (by simp) _).mono hb1.size)).trans (hb3.mono (by have := hb1.size; simp; omega))
  clear hb3 hgS
  go_wp2_with fail
  refine (text_any 2 ⟨#[]⟩ false 65 0 _ (HT.out.below hb4) (by decide) (by decide) (by decide) (by decide)).mono ?_; rintro e w4 ⟨rfl, hb5⟩
  rw [HTT.out]
  have hb6 := hb4.trans (hb5.mono hb4.size)
  clear hb5
  go_wp2_with fail
  all_goals first
    | (go_ret; exact ⟨rfl, hb6⟩)
    | (go_ret; refine ⟨?_, hb6⟩; simp_all)
    | (exfalso; omega)
    | (exfalso; simp_all; done)

set_option maxRecDepth 100000 in
theorem case3 (d : ByteArray) (w : World) (hT : Tabs w) :
    Calls Tryd.prog 7 #[.int .i64 3, .string d] w fun e w' => e = .returned (.bool true) ∧ Below w.heap.size w w' := by
  obtain ⟨c, hc⟩ : ∃ c, cutL d 64 = c := ⟨_, rfl⟩
  have hcs : c.size ≤ 64 := by rw [← hc]; exact (cutL_le d 64).1
  obtain ⟨m, hm, hm63⟩ := and63 c.size hcs
  have hm63' : (m : Int) ≤ 63 := by omega
  have HC := Lib.hid hc
  have HT := Lib.hid hT
  have HCH : Hid (checkE 3 (c : ByteArray).size 0 = 0) := Lib.hid (by simp [checkE, restE, formOf]; omega)
  obtain ⟨T, hTT⟩ : ∃ T, textK 3 ⟨#[]⟩ false 65 0 = T := ⟨_, rfl⟩
  have hem : (T.toList == []) = false := by rw [← hTT]; decide +kernel
  have HTT := Lib.hid hTT
  have HCS := Lib.hid hcs
  clear hc hcs hTT hT hm63
  go_enter Tryd.func7, Tryd.ntmps7
  go_wp2_with fail
  refine (awake_any _ HT.out).mono ?_; rintro e w1 ⟨rfl, hb1⟩
  go_wp2_with fail
  refine (cut_any d _ 64 _ rfl).mono ?_; rintro e w2 ⟨rfl, rfl⟩
  rw [HC.out]
  go_wp2_with fail
  refine (check_any 3 c 0 _ ((HT.out.below hb1).below (by repeat (first | exact Below.refl _ _ | refine Below.alloc ?_ (by simp) _ | refine Below.setCell ?_ (by simp) _))).forms).mono ?_; rintro e w3 ⟨rfl, hb3⟩
  rw [HCH.out]
  have hgS := (hb3.block (w1.heap.size + 1) (by simp)).trans (heap_alloc2_new w1 (.cells #[.int .i64 3, .string c, .int .i64 0] 23) (.cells #[.int .i64 3, .string ⟨#[]⟩, .bool false, .int .u8 65, .int .i64 0] 31))
  have p0 := Go.Joins.cell_of_block hgS 0
  have p1 := Go.Joins.cell_of_block hgS 1
  have p2 := Go.Joins.cell_of_block hgS 2
  have p3 := Go.Joins.cell_of_block hgS 3
  have p4 := Go.Joins.cell_of_block hgS 4
  have hb4 : Below w.heap.size w w3 := (hb1.trans ((((Below.refl w1.heap.size w1).alloc (Nat.le_refl _) _).alloc (by simp) _).mono hb1.size)).trans (hb3.mono (by have := hb1.size; simp; omega))
  clear hb3 hgS
  go_wp2_with fail
  refine (text_any 3 ⟨#[]⟩ false 65 0 _ (HT.out.below hb4) (by decide) (by decide) (by decide) (by decide)).mono ?_; rintro e w4 ⟨rfl, hb5⟩
  rw [HTT.out]
  have hb6 := hb4.trans (hb5.mono hb4.size)
  clear hb5
  go_wp2_with fail
  all_goals first
    | (go_ret; exact ⟨rfl, hb6⟩)
    | (go_ret; refine ⟨?_, hb6⟩; simp_all)
    | (exfalso; omega)
    | (exfalso; simp_all; done)

set_option maxRecDepth 100000 in
theorem case4 (d : ByteArray) (w : World) (hT : Tabs w) :
    Calls Tryd.prog 7 #[.int .i64 4, .string d] w fun e w' => e = .returned (.bool true) ∧ Below w.heap.size w w' := by
  obtain ⟨c, hc⟩ : ∃ c, cutL d 64 = c := ⟨_, rfl⟩
  have hcs : c.size ≤ 64 := by rw [← hc]; exact (cutL_le d 64).1
  obtain ⟨m, hm, hm63⟩ := and63 c.size hcs
  have hm63' : (m : Int) ≤ 63 := by omega
  have HC := Lib.hid hc
  have HT := Lib.hid hT
  have HCH : Hid (checkE 4 (c : ByteArray).size 0 = 0) := Lib.hid (by simp [checkE, restE, formOf]; omega)
  obtain ⟨T, hTT⟩ : ∃ T, textK 4 ⟨#[]⟩ false 65 0 = T := ⟨_, rfl⟩
  have hem : (T.toList == []) = false := by rw [← hTT]; decide +kernel
  have HTT := Lib.hid hTT
  have HCS := Lib.hid hcs
  clear hc hcs hTT hT hm63
  go_enter Tryd.func7, Tryd.ntmps7
  go_wp2_with fail
  refine (awake_any _ HT.out).mono ?_; rintro e w1 ⟨rfl, hb1⟩
  go_wp2_with fail
  refine (cut_any d _ 64 _ rfl).mono ?_; rintro e w2 ⟨rfl, rfl⟩
  rw [HC.out]
  go_wp2_with fail
  refine (check_any 4 c 0 _ ((HT.out.below hb1).below (by repeat (first | exact Below.refl _ _ | refine Below.alloc ?_ (by simp) _ | refine Below.setCell ?_ (by simp) _))).forms).mono ?_; rintro e w3 ⟨rfl, hb3⟩
  rw [HCH.out]
  have hgS := (hb3.block (w1.heap.size + 1) (by simp)).trans (heap_alloc2_new w1 (.cells #[.int .i64 4, .string c, .int .i64 0] 23) (.cells #[.int .i64 4, .string ⟨#[]⟩, .bool false, .int .u8 65, .int .i64 0] 31))
  have p0 := Go.Joins.cell_of_block hgS 0
  have p1 := Go.Joins.cell_of_block hgS 1
  have p2 := Go.Joins.cell_of_block hgS 2
  have p3 := Go.Joins.cell_of_block hgS 3
  have p4 := Go.Joins.cell_of_block hgS 4
  have hb4 : Below w.heap.size w w3 := (hb1.trans ((((Below.refl w1.heap.size w1).alloc (Nat.le_refl _) _).alloc (by simp) _).mono hb1.size)).trans (hb3.mono (by have := hb1.size; simp; omega))
  clear hb3 hgS
  go_wp2_with fail
  refine (text_any 4 ⟨#[]⟩ false 65 0 _ (HT.out.below hb4) (by decide) (by decide) (by decide) (by decide)).mono ?_; rintro e w4 ⟨rfl, hb5⟩
  rw [HTT.out]
  have hb6 := hb4.trans (hb5.mono hb4.size)
  clear hb5
  go_wp2_with fail
  all_goals first
    | (go_ret; exact ⟨rfl, hb6⟩)
    | (go_ret; refine ⟨?_, hb6⟩; simp_all)
    | (exfalso; omega)
    | (exfalso; simp_all; done)

set_option maxRecDepth 100000 in
theorem case5 (d : ByteArray) (w : World) (hT : Tabs w) :
    Calls Tryd.prog 7 #[.int .i64 5, .string d] w fun e w' => e = .returned (.bool true) ∧ Below w.heap.size w w' := by
  obtain ⟨c, hc⟩ : ∃ c, cutL d 64 = c := ⟨_, rfl⟩
  have hcs : c.size ≤ 64 := by rw [← hc]; exact (cutL_le d 64).1
  obtain ⟨m, hm, hm63⟩ := and63 c.size hcs
  have hm63' : (m : Int) ≤ 63 := by omega
  have HC := Lib.hid hc
  have HT := Lib.hid hT
  have HCH : Hid (checkE 5 (⟨#[]⟩ : ByteArray).size 0 = 0) := Lib.hid (by decide)
  obtain ⟨T, hTT⟩ : ∃ T, textK 5 ⟨#[]⟩ false 65 0 = T := ⟨_, rfl⟩
  have hem : (T.toList == []) = false := by rw [← hTT]; decide +kernel
  have HTT := Lib.hid hTT
  have HCS := Lib.hid hcs
  clear hc hcs hTT hT hm63
  go_enter Tryd.func7, Tryd.ntmps7
  go_wp2_with fail
  refine (awake_any _ HT.out).mono ?_; rintro e w1 ⟨rfl, hb1⟩
  go_wp2_with fail
  refine (cut_any d _ 64 _ rfl).mono ?_; rintro e w2 ⟨rfl, rfl⟩
  rw [HC.out]
  go_wp2_with fail
  refine (check_any 5 ⟨#[]⟩ 0 _ ((HT.out.below hb1).below (by repeat (first | exact Below.refl _ _ | refine Below.alloc ?_ (by simp) _ | refine Below.setCell ?_ (by simp) _))).forms).mono ?_; rintro e w3 ⟨rfl, hb3⟩
  rw [HCH.out]
  have hgS := (hb3.block (w1.heap.size + 1) (by simp)).trans (heap_alloc2_new w1 (.cells #[.int .i64 5, .string ⟨#[]⟩, .int .i64 0] 23) (.cells #[.int .i64 5, .string ⟨#[]⟩, .bool false, .int .u8 65, .int .i64 0] 31))
  have p0 := Go.Joins.cell_of_block hgS 0
  have p1 := Go.Joins.cell_of_block hgS 1
  have p2 := Go.Joins.cell_of_block hgS 2
  have p3 := Go.Joins.cell_of_block hgS 3
  have p4 := Go.Joins.cell_of_block hgS 4
  have hb4 : Below w.heap.size w w3 := (hb1.trans ((((Below.refl w1.heap.size w1).alloc (Nat.le_refl _) _).alloc (by simp) _).mono hb1.size)).trans (hb3.mono (by have := hb1.size; simp; omega))
  clear hb3 hgS
  go_wp2_with fail
  refine (text_any 5 ⟨#[]⟩ false 65 0 _ (HT.out.below hb4) (by decide) (by decide) (by decide) (by decide)).mono ?_; rintro e w4 ⟨rfl, hb5⟩
  rw [HTT.out]
  have hb6 := hb4.trans (hb5.mono hb4.size)
  clear hb5
  go_wp2_with fail
  all_goals first
    | (go_ret; exact ⟨rfl, hb6⟩)
    | (go_ret; refine ⟨?_, hb6⟩; simp_all)
    | (exfalso; omega)
    | (exfalso; simp_all; done)

set_option maxRecDepth 100000 in
theorem case6 (d : ByteArray) (w : World) (hT : Tabs w) :
    Calls Tryd.prog 7 #[.int .i64 6, .string d] w fun e w' => e = .returned (.bool true) ∧ Below w.heap.size w w' := by
  obtain ⟨c, hc⟩ : ∃ c, cutL d 64 = c := ⟨_, rfl⟩
  have hcs : c.size ≤ 64 := by rw [← hc]; exact (cutL_le d 64).1
  obtain ⟨m, hm, hm63⟩ := and63 c.size hcs
  have hm63' : (m : Int) ≤ 63 := by omega
  have HC := Lib.hid hc
  have HT := Lib.hid hT
  have HCH : Hid (checkE 6 (⟨#[]⟩ : ByteArray).size 0 = 0) := Lib.hid (by decide)
  obtain ⟨T, hTT⟩ : ∃ T, textK 6 ⟨#[]⟩ false 65 0 = T := ⟨_, rfl⟩
  have hem : (T.toList == []) = false := by rw [← hTT]; decide +kernel
  have HTT := Lib.hid hTT
  have HCS := Lib.hid hcs
  clear hc hcs hTT hT hm63
  go_enter Tryd.func7, Tryd.ntmps7
  go_wp2_with fail
  refine (awake_any _ HT.out).mono ?_; rintro e w1 ⟨rfl, hb1⟩
  go_wp2_with fail
  refine (cut_any d _ 64 _ rfl).mono ?_; rintro e w2 ⟨rfl, rfl⟩
  rw [HC.out]
  go_wp2_with fail
  refine (check_any 6 ⟨#[]⟩ 0 _ ((HT.out.below hb1).below (by repeat (first | exact Below.refl _ _ | refine Below.alloc ?_ (by simp) _ | refine Below.setCell ?_ (by simp) _))).forms).mono ?_; rintro e w3 ⟨rfl, hb3⟩
  rw [HCH.out]
  have hgS := (hb3.block (w1.heap.size + 1) (by simp)).trans (heap_alloc2_new w1 (.cells #[.int .i64 6, .string ⟨#[]⟩, .int .i64 0] 23) (.cells #[.int .i64 6, .string ⟨#[]⟩, .bool false, .int .u8 65, .int .i64 0] 31))
  have p0 := Go.Joins.cell_of_block hgS 0
  have p1 := Go.Joins.cell_of_block hgS 1
  have p2 := Go.Joins.cell_of_block hgS 2
  have p3 := Go.Joins.cell_of_block hgS 3
  have p4 := Go.Joins.cell_of_block hgS 4
  have hb4 : Below w.heap.size w w3 := (hb1.trans ((((Below.refl w1.heap.size w1).alloc (Nat.le_refl _) _).alloc (by simp) _).mono hb1.size)).trans (hb3.mono (by have := hb1.size; simp; omega))
  clear hb3 hgS
  go_wp2_with fail
  refine (text_any 6 ⟨#[]⟩ false 65 0 _ (HT.out.below hb4) (by decide) (by decide) (by decide) (by decide)).mono ?_; rintro e w4 ⟨rfl, hb5⟩
  rw [HTT.out]
  have hb6 := hb4.trans (hb5.mono hb4.size)
  clear hb5
  go_wp2_with fail
  all_goals first
    | (go_ret; exact ⟨rfl, hb6⟩)
    | (go_ret; refine ⟨?_, hb6⟩; simp_all)
    | (exfalso; omega)
    | (exfalso; simp_all; done)

set_option maxRecDepth 100000 in
theorem case7 (d : ByteArray) (w : World) (hT : Tabs w) :
    Calls Tryd.prog 7 #[.int .i64 7, .string d] w fun e w' => e = .returned (.bool true) ∧ Below w.heap.size w w' := by
  obtain ⟨c, hc⟩ : ∃ c, cutL d 64 = c := ⟨_, rfl⟩
  have hcs : c.size ≤ 64 := by rw [← hc]; exact (cutL_le d 64).1
  obtain ⟨m, hm, hm63⟩ := and63 c.size hcs
  have hm63' : (m : Int) ≤ 63 := by omega
  have HC := Lib.hid hc
  have HT := Lib.hid hT
  have HCH : Hid (checkE 7 (c : ByteArray).size 0 = 0) := Lib.hid (by simp [checkE, restE, formOf]; omega)
  obtain ⟨T, hTT⟩ : ∃ T, textK 7 ⟨#[]⟩ false 65 0 = T := ⟨_, rfl⟩
  have hem : (T.toList == []) = false := by rw [← hTT]; decide +kernel
  have HTT := Lib.hid hTT
  have HCS := Lib.hid hcs
  clear hc hcs hTT hT hm63
  go_enter Tryd.func7, Tryd.ntmps7
  go_wp2_with fail
  refine (awake_any _ HT.out).mono ?_; rintro e w1 ⟨rfl, hb1⟩
  go_wp2_with fail
  refine (cut_any d _ 64 _ rfl).mono ?_; rintro e w2 ⟨rfl, rfl⟩
  rw [HC.out]
  go_wp2_with fail
  refine (check_any 7 c 0 _ ((HT.out.below hb1).below (by repeat (first | exact Below.refl _ _ | refine Below.alloc ?_ (by simp) _ | refine Below.setCell ?_ (by simp) _))).forms).mono ?_; rintro e w3 ⟨rfl, hb3⟩
  rw [HCH.out]
  have hgS := (hb3.block (w1.heap.size + 1) (by simp)).trans (heap_alloc2_new w1 (.cells #[.int .i64 7, .string c, .int .i64 0] 23) (.cells #[.int .i64 7, .string ⟨#[]⟩, .bool false, .int .u8 65, .int .i64 0] 31))
  have p0 := Go.Joins.cell_of_block hgS 0
  have p1 := Go.Joins.cell_of_block hgS 1
  have p2 := Go.Joins.cell_of_block hgS 2
  have p3 := Go.Joins.cell_of_block hgS 3
  have p4 := Go.Joins.cell_of_block hgS 4
  have hb4 : Below w.heap.size w w3 := (hb1.trans ((((Below.refl w1.heap.size w1).alloc (Nat.le_refl _) _).alloc (by simp) _).mono hb1.size)).trans (hb3.mono (by have := hb1.size; simp; omega))
  clear hb3 hgS
  go_wp2_with fail
  refine (text_any 7 ⟨#[]⟩ false 65 0 _ (HT.out.below hb4) (by decide) (by decide) (by decide) (by decide)).mono ?_; rintro e w4 ⟨rfl, hb5⟩
  rw [HTT.out]
  have hb6 := hb4.trans (hb5.mono hb4.size)
  clear hb5
  go_wp2_with fail
  all_goals first
    | (go_ret; exact ⟨rfl, hb6⟩)
    | (go_ret; refine ⟨?_, hb6⟩; simp_all)
    | (exfalso; omega)
    | (exfalso; simp_all; done)

set_option maxRecDepth 100000 in
theorem case8 (d : ByteArray) (w : World) (hT : Tabs w) :
    Calls Tryd.prog 7 #[.int .i64 8, .string d] w fun e w' => e = .returned (.bool true) ∧ Below w.heap.size w w' := by
  obtain ⟨c, hc⟩ : ∃ c, cutL d 64 = c := ⟨_, rfl⟩
  have hcs : c.size ≤ 64 := by rw [← hc]; exact (cutL_le d 64).1
  obtain ⟨m, hm, hm63⟩ := and63 c.size hcs
  have hm63' : (m : Int) ≤ 63 := by omega
  have HC := Lib.hid hc
  have HT := Lib.hid hT
  have HCH : Hid (checkE 8 (c : ByteArray).size 0 = 0) := Lib.hid (by simp [checkE, restE, formOf]; omega)
  obtain ⟨T, hTT⟩ : ∃ T, textK 8 ⟨#[]⟩ false 65 0 = T := ⟨_, rfl⟩
  have hem : (T.toList == []) = false := by rw [← hTT]; decide +kernel
  have HTT := Lib.hid hTT
  have HCS := Lib.hid hcs
  clear hc hcs hTT hT hm63
  go_enter Tryd.func7, Tryd.ntmps7
  go_wp2_with fail
  refine (awake_any _ HT.out).mono ?_; rintro e w1 ⟨rfl, hb1⟩
  go_wp2_with fail
  refine (cut_any d _ 64 _ rfl).mono ?_; rintro e w2 ⟨rfl, rfl⟩
  rw [HC.out]
  go_wp2_with fail
  refine (check_any 8 c 0 _ ((HT.out.below hb1).below (by repeat (first | exact Below.refl _ _ | refine Below.alloc ?_ (by simp) _ | refine Below.setCell ?_ (by simp) _))).forms).mono ?_; rintro e w3 ⟨rfl, hb3⟩
  rw [HCH.out]
  have hgS := (hb3.block (w1.heap.size + 1) (by simp)).trans (heap_alloc2_new w1 (.cells #[.int .i64 8, .string c, .int .i64 0] 23) (.cells #[.int .i64 8, .string ⟨#[]⟩, .bool false, .int .u8 65, .int .i64 0] 31))
  have p0 := Go.Joins.cell_of_block hgS 0
  have p1 := Go.Joins.cell_of_block hgS 1
  have p2 := Go.Joins.cell_of_block hgS 2
  have p3 := Go.Joins.cell_of_block hgS 3
  have p4 := Go.Joins.cell_of_block hgS 4
  have hb4 : Below w.heap.size w w3 := (hb1.trans ((((Below.refl w1.heap.size w1).alloc (Nat.le_refl _) _).alloc (by simp) _).mono hb1.size)).trans (hb3.mono (by have := hb1.size; simp; omega))
  clear hb3 hgS
  go_wp2_with fail
  refine (text_any 8 ⟨#[]⟩ false 65 0 _ (HT.out.below hb4) (by decide) (by decide) (by decide) (by decide)).mono ?_; rintro e w4 ⟨rfl, hb5⟩
  rw [HTT.out]
  have hb6 := hb4.trans (hb5.mono hb4.size)
  clear hb5
  go_wp2_with fail
  all_goals first
    | (go_ret; exact ⟨rfl, hb6⟩)
    | (go_ret; refine ⟨?_, hb6⟩; simp_all)
    | (exfalso; omega)
    | (exfalso; simp_all; done)

set_option maxRecDepth 100000 in
theorem case9 (d : ByteArray) (w : World) (hT : Tabs w) :
    Calls Tryd.prog 7 #[.int .i64 9, .string d] w fun e w' => e = .returned (.bool true) ∧ Below w.heap.size w w' := by
  obtain ⟨c, hc⟩ : ∃ c, cutL d 64 = c := ⟨_, rfl⟩
  have hcs : c.size ≤ 64 := by rw [← hc]; exact (cutL_le d 64).1
  obtain ⟨m, hm, hm63⟩ := and63 c.size hcs
  have hm63' : (m : Int) ≤ 63 := by omega
  have HC := Lib.hid hc
  have HT := Lib.hid hT
  have HCH : Hid (checkE 9 (c : ByteArray).size 0 = 0) := Lib.hid (by simp [checkE, restE, formOf]; omega)
  obtain ⟨T, hTT⟩ : ∃ T, textK 9 ⟨#[]⟩ false 65 0 = T := ⟨_, rfl⟩
  have hem : (T.toList == []) = false := by rw [← hTT]; decide +kernel
  have HTT := Lib.hid hTT
  have HCS := Lib.hid hcs
  clear hc hcs hTT hT hm63
  go_enter Tryd.func7, Tryd.ntmps7
  go_wp2_with fail
  refine (awake_any _ HT.out).mono ?_; rintro e w1 ⟨rfl, hb1⟩
  go_wp2_with fail
  refine (cut_any d _ 64 _ rfl).mono ?_; rintro e w2 ⟨rfl, rfl⟩
  rw [HC.out]
  go_wp2_with fail
  refine (check_any 9 c 0 _ ((HT.out.below hb1).below (by repeat (first | exact Below.refl _ _ | refine Below.alloc ?_ (by simp) _ | refine Below.setCell ?_ (by simp) _))).forms).mono ?_; rintro e w3 ⟨rfl, hb3⟩
  rw [HCH.out]
  have hgS := (hb3.block (w1.heap.size + 1) (by simp)).trans (heap_alloc2_new w1 (.cells #[.int .i64 9, .string c, .int .i64 0] 23) (.cells #[.int .i64 9, .string ⟨#[]⟩, .bool false, .int .u8 65, .int .i64 0] 31))
  have p0 := Go.Joins.cell_of_block hgS 0
  have p1 := Go.Joins.cell_of_block hgS 1
  have p2 := Go.Joins.cell_of_block hgS 2
  have p3 := Go.Joins.cell_of_block hgS 3
  have p4 := Go.Joins.cell_of_block hgS 4
  have hb4 : Below w.heap.size w w3 := (hb1.trans ((((Below.refl w1.heap.size w1).alloc (Nat.le_refl _) _).alloc (by simp) _).mono hb1.size)).trans (hb3.mono (by have := hb1.size; simp; omega))
  clear hb3 hgS
  go_wp2_with fail
  refine (text_any 9 ⟨#[]⟩ false 65 0 _ (HT.out.below hb4) (by decide) (by decide) (by decide) (by decide)).mono ?_; rintro e w4 ⟨rfl, hb5⟩
  rw [HTT.out]
  have hb6 := hb4.trans (hb5.mono hb4.size)
  clear hb5
  go_wp2_with fail
  all_goals first
    | (go_ret; exact ⟨rfl, hb6⟩)
    | (go_ret; refine ⟨?_, hb6⟩; simp_all)
    | (exfalso; omega)
    | (exfalso; simp_all; done)

set_option maxRecDepth 100000 in
theorem case10 (d : ByteArray) (w : World) (hT : Tabs w) :
    Calls Tryd.prog 7 #[.int .i64 10, .string d] w fun e w' => e = .returned (.bool true) ∧ Below w.heap.size w w' := by
  obtain ⟨c, hc⟩ : ∃ c, cutL d 64 = c := ⟨_, rfl⟩
  have hcs : c.size ≤ 64 := by rw [← hc]; exact (cutL_le d 64).1
  obtain ⟨m, hm, hm63⟩ := and63 c.size hcs
  have hm63' : (m : Int) ≤ 63 := by omega
  have HC := Lib.hid hc
  have HT := Lib.hid hT
  have HCH : Hid (checkE 10 (⟨#[]⟩ : ByteArray).size (1 + (m : Int)) = 0) := Lib.hid (by show restE (formOf 10) 0 (1 + (m : Int)) = 0; unfold restE formOf; simp; omega)
  obtain ⟨T, hTT⟩ : ∃ T, textK 10 ⟨#[]⟩ false 65 0 = T := ⟨_, rfl⟩
  have hem : (T.toList == []) = false := by rw [← hTT]; decide +kernel
  have HTT := Lib.hid hTT
  have HCS := Lib.hid hcs
  clear hc hcs hTT hT hm63
  go_enter Tryd.func7, Tryd.ntmps7
  go_wp2_with fail
  refine (awake_any _ HT.out).mono ?_; rintro e w1 ⟨rfl, hb1⟩
  go_wp2_with fail
  refine (cut_any d _ 64 _ rfl).mono ?_; rintro e w2 ⟨rfl, rfl⟩
  rw [HC.out]
  go_wp2_with fail
  refine (check_any 10 ⟨#[]⟩ (1 + (m : Int)) _ ((HT.out.below hb1).below (by repeat (first | exact Below.refl _ _ | refine Below.alloc ?_ (by simp) _ | refine Below.setCell ?_ (by simp) _))).forms).mono ?_; rintro e w3 ⟨rfl, hb3⟩
  rw [HCH.out]
  have hgS := (hb3.block (w1.heap.size + 1) (by simp)).trans (heap_alloc2_new w1 (.cells #[.int .i64 10, .string ⟨#[]⟩, .int .i64 (1 + (m : Int))] 23) (.cells #[.int .i64 10, .string ⟨#[]⟩, .bool false, .int .u8 65, .int .i64 0] 31))
  have p0 := Go.Joins.cell_of_block hgS 0
  have p1 := Go.Joins.cell_of_block hgS 1
  have p2 := Go.Joins.cell_of_block hgS 2
  have p3 := Go.Joins.cell_of_block hgS 3
  have p4 := Go.Joins.cell_of_block hgS 4
  have hb4 : Below w.heap.size w w3 := (hb1.trans ((((Below.refl w1.heap.size w1).alloc (Nat.le_refl _) _).alloc (by simp) _).mono hb1.size)).trans (hb3.mono (by have := hb1.size; simp; omega))
  clear hb3 hgS
  go_wp2_with fail
  refine (text_any 10 ⟨#[]⟩ false 65 0 _ (HT.out.below hb4) (by decide) (by decide) (by decide) (by decide)).mono ?_; rintro e w4 ⟨rfl, hb5⟩
  rw [HTT.out]
  have hb6 := hb4.trans (hb5.mono hb4.size)
  clear hb5
  go_wp2_with fail
  all_goals first
    | (go_ret; exact ⟨rfl, hb6⟩)
    | (go_ret; refine ⟨?_, hb6⟩; simp_all)
    | (exfalso; omega)
    | (exfalso; simp_all; done)

set_option maxRecDepth 100000 in
theorem case11 (d : ByteArray) (w : World) (hT : Tabs w) :
    Calls Tryd.prog 7 #[.int .i64 11, .string d] w fun e w' => e = .returned (.bool true) ∧ Below w.heap.size w w' := by
  obtain ⟨c, hc⟩ : ∃ c, cutL d 64 = c := ⟨_, rfl⟩
  have hcs : c.size ≤ 64 := by rw [← hc]; exact (cutL_le d 64).1
  obtain ⟨m, hm, hm63⟩ := and63 c.size hcs
  have hm63' : (m : Int) ≤ 63 := by omega
  have HC := Lib.hid hc
  have HT := Lib.hid hT
  have HCH : Hid (checkE 11 (⟨#[]⟩ : ByteArray).size 0 = 0) := Lib.hid (by decide)
  obtain ⟨T, hTT⟩ : ∃ T, textK 11 ⟨#[]⟩ false 65 0 = T := ⟨_, rfl⟩
  have hem : (T.toList == []) = false := by rw [← hTT]; decide +kernel
  have HTT := Lib.hid hTT
  have HCS := Lib.hid hcs
  clear hc hcs hTT hT hm63
  go_enter Tryd.func7, Tryd.ntmps7
  go_wp2_with fail
  refine (awake_any _ HT.out).mono ?_; rintro e w1 ⟨rfl, hb1⟩
  go_wp2_with fail
  refine (cut_any d _ 64 _ rfl).mono ?_; rintro e w2 ⟨rfl, rfl⟩
  rw [HC.out]
  go_wp2_with fail
  refine (check_any 11 ⟨#[]⟩ 0 _ ((HT.out.below hb1).below (by repeat (first | exact Below.refl _ _ | refine Below.alloc ?_ (by simp) _ | refine Below.setCell ?_ (by simp) _))).forms).mono ?_; rintro e w3 ⟨rfl, hb3⟩
  rw [HCH.out]
  have hgS := (hb3.block (w1.heap.size + 1) (by simp)).trans (heap_alloc2_new w1 (.cells #[.int .i64 11, .string ⟨#[]⟩, .int .i64 0] 23) (.cells #[.int .i64 11, .string ⟨#[]⟩, .bool false, .int .u8 65, .int .i64 0] 31))
  have p0 := Go.Joins.cell_of_block hgS 0
  have p1 := Go.Joins.cell_of_block hgS 1
  have p2 := Go.Joins.cell_of_block hgS 2
  have p3 := Go.Joins.cell_of_block hgS 3
  have p4 := Go.Joins.cell_of_block hgS 4
  have hb4 : Below w.heap.size w w3 := (hb1.trans ((((Below.refl w1.heap.size w1).alloc (Nat.le_refl _) _).alloc (by simp) _).mono hb1.size)).trans (hb3.mono (by have := hb1.size; simp; omega))
  clear hb3 hgS
  go_wp2_with fail
  refine (text_any 11 ⟨#[]⟩ false 65 0 _ (HT.out.below hb4) (by decide) (by decide) (by decide) (by decide)).mono ?_; rintro e w4 ⟨rfl, hb5⟩
  rw [HTT.out]
  have hb6 := hb4.trans (hb5.mono hb4.size)
  clear hb5
  go_wp2_with fail
  all_goals first
    | (go_ret; exact ⟨rfl, hb6⟩)
    | (go_ret; refine ⟨?_, hb6⟩; simp_all)
    | (exfalso; omega)
    | (exfalso; simp_all; done)

set_option maxRecDepth 100000 in
theorem case12 (d : ByteArray) (w : World) (hT : Tabs w) :
    Calls Tryd.prog 7 #[.int .i64 12, .string d] w fun e w' => e = .returned (.bool true) ∧ Below w.heap.size w w' := by
  obtain ⟨c, hc⟩ : ∃ c, cutL d 64 = c := ⟨_, rfl⟩
  have hcs : c.size ≤ 64 := by rw [← hc]; exact (cutL_le d 64).1
  obtain ⟨m, hm, hm63⟩ := and63 c.size hcs
  have hm63' : (m : Int) ≤ 63 := by omega
  have HC := Lib.hid hc
  have HT := Lib.hid hT
  have HCH : Hid (checkE 12 (⟨#[]⟩ : ByteArray).size 0 = 10) := Lib.hid (by decide)
  obtain ⟨T, hTT⟩ : ∃ T, textK 12 ⟨#[]⟩ false 65 0 = T := ⟨_, rfl⟩
  have hem : (T.toList == []) = false := by rw [← hTT]; decide +kernel
  have HTT := Lib.hid hTT
  have HCS := Lib.hid hcs
  clear hc hcs hTT hT hm63
  go_enter Tryd.func7, Tryd.ntmps7
  go_wp2_with fail
  refine (awake_any _ HT.out).mono ?_; rintro e w1 ⟨rfl, hb1⟩
  go_wp2_with fail
  refine (cut_any d _ 64 _ rfl).mono ?_; rintro e w2 ⟨rfl, rfl⟩
  rw [HC.out]
  go_wp2_with fail
  refine (check_any 12 ⟨#[]⟩ 0 _ ((HT.out.below hb1).below (by repeat (first | exact Below.refl _ _ | refine Below.alloc ?_ (by simp) _ | refine Below.setCell ?_ (by simp) _))).forms).mono ?_; rintro e w3 ⟨rfl, hb3⟩
  rw [HCH.out]
  have hgS := (hb3.block (w1.heap.size + 1) (by simp)).trans (heap_alloc2_new w1 (.cells #[.int .i64 12, .string ⟨#[]⟩, .int .i64 0] 23) (.cells #[.int .i64 12, .string ⟨#[]⟩, .bool false, .int .u8 65, .int .i64 0] 31))
  have p0 := Go.Joins.cell_of_block hgS 0
  have p1 := Go.Joins.cell_of_block hgS 1
  have p2 := Go.Joins.cell_of_block hgS 2
  have p3 := Go.Joins.cell_of_block hgS 3
  have p4 := Go.Joins.cell_of_block hgS 4
  have hb4 : Below w.heap.size w w3 := (hb1.trans ((((Below.refl w1.heap.size w1).alloc (Nat.le_refl _) _).alloc (by simp) _).mono hb1.size)).trans (hb3.mono (by have := hb1.size; simp; omega))
  clear hb3 hgS
  go_wp2_with fail
  refine (text_any 12 ⟨#[]⟩ false 65 0 _ (HT.out.below hb4) (by decide) (by decide) (by decide) (by decide)).mono ?_; rintro e w4 ⟨rfl, hb5⟩
  rw [HTT.out]
  have hb6 := hb4.trans (hb5.mono hb4.size)
  clear hb5
  go_wp2_with fail
  all_goals first
    | (go_ret; exact ⟨rfl, hb6⟩)
    | (go_ret; refine ⟨?_, hb6⟩; simp_all)
    | (exfalso; omega)
    | (exfalso; simp_all; done)

set_option maxRecDepth 100000 in
theorem caseLow (k : Int) (d : ByteArray) (w : World) (hT : Tabs w) (hk : k < 1) :
    Calls Tryd.prog 7 #[.int .i64 k, .string d] w fun e w' => e = .returned (.bool true) ∧ Below w.heap.size w w' := by
  obtain ⟨c, hc⟩ : ∃ c, cutL d 64 = c := ⟨_, rfl⟩
  have hcs : c.size ≤ 64 := by rw [← hc]; exact (cutL_le d 64).1
  obtain ⟨m, hm, hm63⟩ := and63 c.size hcs
  have hm63' : (m : Int) ≤ 63 := by omega
  have HC := Lib.hid hc
  have HT := Lib.hid hT
  have HCH : Hid (checkE k (⟨#[]⟩ : ByteArray).size 0 = 10) := Lib.hid (by unfold checkE; rw [if_pos (Or.inl hk)])
  obtain ⟨T, hTT⟩ : ∃ T, textK k ⟨#[]⟩ false 65 0 = T := ⟨_, rfl⟩
  have hem : (T.toList == []) = true := by rw [← hTT]; unfold textK; rw [if_pos (Or.inl hk), toList_nil]; rfl
  have HTT := Lib.hid hTT
  have HCS := Lib.hid hcs
  clear hc hcs hTT hT hm63
  go_enter Tryd.func7, Tryd.ntmps7
  go_wp2_with fail
  refine (awake_any _ HT.out).mono ?_; rintro e w1 ⟨rfl, hb1⟩
  go_wp2_with fail
  refine (cut_any d _ 64 _ rfl).mono ?_; rintro e w2 ⟨rfl, rfl⟩
  rw [HC.out]
  go_wp2_with fail
  refine (check_any k ⟨#[]⟩ 0 _ ((HT.out.below hb1).below (by repeat (first | exact Below.refl _ _ | refine Below.alloc ?_ (by simp) _ | refine Below.setCell ?_ (by simp) _))).forms).mono ?_; rintro e w3 ⟨rfl, hb3⟩
  rw [HCH.out]
  have hgS := (hb3.block (w1.heap.size + 1) (by simp)).trans (heap_alloc2_new w1 (.cells #[.int .i64 k, .string ⟨#[]⟩, .int .i64 0] 23) (.cells #[.int .i64 k, .string ⟨#[]⟩, .bool false, .int .u8 65, .int .i64 0] 31))
  have p0 := Go.Joins.cell_of_block hgS 0
  have p1 := Go.Joins.cell_of_block hgS 1
  have p2 := Go.Joins.cell_of_block hgS 2
  have p3 := Go.Joins.cell_of_block hgS 3
  have p4 := Go.Joins.cell_of_block hgS 4
  have hb4 : Below w.heap.size w w3 := (hb1.trans ((((Below.refl w1.heap.size w1).alloc (Nat.le_refl _) _).alloc (by simp) _).mono hb1.size)).trans (hb3.mono (by have := hb1.size; simp; omega))
  clear hb3 hgS
  go_wp2_with fail
  refine (text_any k ⟨#[]⟩ false 65 0 _ (HT.out.below hb4) (by decide) (by decide) (by decide) (by decide)).mono ?_; rintro e w4 ⟨rfl, hb5⟩
  rw [HTT.out]
  have hb6 := hb4.trans (hb5.mono hb4.size)
  clear hb5
  go_wp2_with fail
  all_goals first
    | (go_ret; exact ⟨rfl, hb6⟩)
    | (go_ret; refine ⟨?_, hb6⟩; simp_all)
    | (exfalso; omega)
    | (exfalso; simp_all; done)

set_option maxRecDepth 100000 in
theorem caseHigh (k : Int) (d : ByteArray) (w : World) (hT : Tabs w) (hk : 12 < k) :
    Calls Tryd.prog 7 #[.int .i64 k, .string d] w fun e w' => e = .returned (.bool true) ∧ Below w.heap.size w w' := by
  obtain ⟨c, hc⟩ : ∃ c, cutL d 64 = c := ⟨_, rfl⟩
  have hcs : c.size ≤ 64 := by rw [← hc]; exact (cutL_le d 64).1
  obtain ⟨m, hm, hm63⟩ := and63 c.size hcs
  have hm63' : (m : Int) ≤ 63 := by omega
  have HC := Lib.hid hc
  have HT := Lib.hid hT
  have HCH : Hid (checkE k (⟨#[]⟩ : ByteArray).size 0 = 10) := Lib.hid (by unfold checkE; rw [if_pos (Or.inr (by omega))])
  obtain ⟨T, hTT⟩ : ∃ T, textK k ⟨#[]⟩ false 65 0 = T := ⟨_, rfl⟩
  have hem : (T.toList == []) = true := by rw [← hTT]; unfold textK; rw [if_pos (Or.inr hk), toList_nil]; rfl
  have HTT := Lib.hid hTT
  have HCS := Lib.hid hcs
  clear hc hcs hTT hT hm63
  go_enter Tryd.func7, Tryd.ntmps7
  go_wp2_with fail
  refine (awake_any _ HT.out).mono ?_; rintro e w1 ⟨rfl, hb1⟩
  go_wp2_with fail
  refine (cut_any d _ 64 _ rfl).mono ?_; rintro e w2 ⟨rfl, rfl⟩
  rw [HC.out]
  go_wp2_with fail
  refine (check_any k ⟨#[]⟩ 0 _ ((HT.out.below hb1).below (by repeat (first | exact Below.refl _ _ | refine Below.alloc ?_ (by simp) _ | refine Below.setCell ?_ (by simp) _))).forms).mono ?_; rintro e w3 ⟨rfl, hb3⟩
  rw [HCH.out]
  have hgS := (hb3.block (w1.heap.size + 1) (by simp)).trans (heap_alloc2_new w1 (.cells #[.int .i64 k, .string ⟨#[]⟩, .int .i64 0] 23) (.cells #[.int .i64 k, .string ⟨#[]⟩, .bool false, .int .u8 65, .int .i64 0] 31))
  have p0 := Go.Joins.cell_of_block hgS 0
  have p1 := Go.Joins.cell_of_block hgS 1
  have p2 := Go.Joins.cell_of_block hgS 2
  have p3 := Go.Joins.cell_of_block hgS 3
  have p4 := Go.Joins.cell_of_block hgS 4
  have hb4 : Below w.heap.size w w3 := (hb1.trans ((((Below.refl w1.heap.size w1).alloc (Nat.le_refl _) _).alloc (by simp) _).mono hb1.size)).trans (hb3.mono (by have := hb1.size; simp; omega))
  clear hb3 hgS
  go_wp2_with fail
  refine (text_any k ⟨#[]⟩ false 65 0 _ (HT.out.below hb4) (by decide) (by decide) (by decide) (by decide)).mono ?_; rintro e w4 ⟨rfl, hb5⟩
  rw [HTT.out]
  have hb6 := hb4.trans (hb5.mono hb4.size)
  clear hb5
  go_wp2_with fail
  all_goals first
    | (go_ret; exact ⟨rfl, hb6⟩)
    | (go_ret; refine ⟨?_, hb6⟩; simp_all)
    | (exfalso; omega)
    | (exfalso; simp_all; done)

theorem walk (w : World) (a0 : Int) (w0 : (Lit.int .i64 a0).wf = true) (a1 : ByteArray) (w1 : a1.size ≤ 140737488351232) (hL : laidMetH Tryd.prog Rows.eventKindsRow.laid w) :
    Calls Tryd.prog 7 #[.int .i64 a0, .string a1] w fun e w' => e = .returned (.bool true) ∧ Below w.heap.size w w' := by
  have hT := tabs_laid (by kernel_rfl) hL (by simp [Rows.eventKindsRow]) (by simp [Rows.eventKindsRow]) (by simp [Rows.eventKindsRow])
  by_cases hl : a0 < 1
  · exact caseLow a0 a1 w hT hl
  by_cases hh : 12 < a0
  · exact caseHigh a0 a1 w hT hh
  rcases (show a0 = 1 ∨ a0 = 2 ∨ a0 = 3 ∨ a0 = 4 ∨ a0 = 5 ∨ a0 = 6 ∨ a0 = 7 ∨ a0 = 8 ∨ a0 = 9 ∨ a0 = 10 ∨ a0 = 11 ∨ a0 = 12 by omega) with rfl | rfl | rfl | rfl | rfl | rfl | rfl | rfl | rfl | rfl | rfl | rfl
  · exact case1 a1 w hT
  · exact case2 a1 w hT
  · exact case3 a1 w hT
  · exact case4 a1 w hT
  · exact case5 a1 w hT
  · exact case6 a1 w hT
  · exact case7 a1 w hT
  · exact case8 a1 w hT
  · exact case9 a1 w hT
  · exact case10 a1 w hT
  · exact case11 a1 w hT
  · exact case12 a1 w hT

theorem own : ownKnob Tryd.prog.godebug = none := by kernel_rfl
theorem laidOut : laidOutB Tryd.prog = true := by kernel_rfl

set_option maxRecDepth 100000 in
theorem lifted (os : Os) (started : os.Started) (H : Type) (enc : TypeId × Value → H) :
    ReturnsInHanded {} Tryd.checked os 7 .any (fun w args => (Rows.eventKindsSpec.pre enc Tryd.prog Tryd.f7 Rows.eventKindsRow.domain false w args ∧ laidMetH Tryd.prog Rows.eventKindsRow.laid w) ∧ sizedMet enc Tryd.prog Tryd.f7 (OpenSpec.ofChange Rows.eventKindsSpec) false w args) (Rows.eventKindsSpec.post enc Tryd.prog Tryd.f7 false true false false) := by
  refine Base.law_laid (C := Tryd.checked) own started (by kernel_rfl) Tryd.func7 laidOut (by kernel_rfl) rfl Tryd.underlying4 rfl ?_
    (Base.laid_witness #[.int .i64 0, .string ⟨#[]⟩] (World.shaped_of_ZipB (by kernel_rfl) (by kernel_rfl)) (by kernel_rfl) (by kernel_rfl) (by kernel_rfl) (by rw [MakeChecks.laidMetH_plain _ _ _ (by kernel_rfl)]; exact laidMet_laidAll _ (by kernel_rfl) (by kernel_rfl))) ?_
  · intro ds h
    match ds, h with
    | [_d0, _d1], _ => exact ⟨rfl, rfl, rfl⟩
  · intro W base args ds before hval0 hA0 hlt hsz hL
    have hval : ∀ (j : Nat) t v, Tryd.f7.params[j]? = some t → args[j]? = some v → Value.okWide Tryd.prog W .any base t v := hval0
    have hA : DataW.TrodAll enc Tryd.prog W 0 (fun _ => true) true Tryd.f7.params.toList args.toList ds before := hA0
    clear hval0 hA0
    rw [Tryd.params7] at hA hval hsz
    obtain ⟨v0, vs0, d0, ds0, p0, q0, hargs, rfl, rfl, h0, r0⟩ := trodAll_cons hA
    obtain ⟨v1, vs1, d1, ds1, p1, q1, rfl, rfl, rfl, h1, r1⟩ := trodAll_cons r0
    obtain ⟨rfl, rfl, rfl⟩ := trodAll_nil r1
    obtain rfl : args = #[v0, v1] := by cases args; simp_all
    obtain ⟨a0, rfl, rfl, rfl, w0⟩ := open_int Tryd.underlying3 (hval 0 3 v0 rfl rfl) h0
    obtain ⟨a1, rfl, rfl, rfl, _⟩ := Go.ChangeMaps.open_string Tryd.underlying9 (hval 1 9 v1 rfl rfl) h1
    have w1 : a1.size ≤ 140737488351232 := by have := sized_string hsz (j := 1) rfl rfl; simpa [reachBytes] using this
    exact walk W a0 w0 a1 w1 hL

theorem over : Rows.eventKindsRow.holds Tryd.pinned (OpenSpec.ofChange Rows.eventKindsSpec) :=
  OpenClaim.holds_of_wide 7 Tryd.f7 rfl rfl rfl rfl rfl rfl rfl ⟨rfl, rfl, rfl, rfl, rfl⟩ rfl rfl rfl rfl rfl (by kernel_rfl) Tryd.func7 (by kernel_rfl)
    (of_decide_eq_true (by kernel_rfl)) (by unfold Func.isWrapper; first | (rw [if_pos (by decide +kernel)]; kernel_rfl) | (rw [if_neg (by decide +kernel)]; exact ⟨rfl, rfl⟩))
    (fun os started H enc _ => lifted os started H enc)

theorem proved : Rows.EventKindsCardSaid :=
  Claim7.holds_tied_plain_at .later [] [.data, .data, .data, .data, .data] true Rows.eventKindsCard.stood.harness false over (fun _ h => by cases h) (by kernel_rfl) (fun _ h => by cases h) eventKinds_row_tie rfl ⟨rfl, rfl⟩ (by kernel_rfl) rfl
    (fun f fn hf hfn => by
      obtain rfl : f = 7 := Option.some.inj ((show Tryd.prog.funcNamed Rows.eventKindsRow.func = some 7 by kernel_rfl).symm.trans hf) |>.symm
      obtain rfl : fn = Tryd.f7 := (Option.some.inj (Tryd.func7.symm.trans hfn)).symm
      exact ⟨by kernel_rfl, fun j t ht => by
        rw [Tryd.params7] at ht
        have hm : t ∈ [3, 9] := by simpa using Array.mem_of_getElem? ht
        have hall : ([3, 9].all fun u => !Tryd.prog.wantsStandIn u) = true := by kernel_rfl
        exact (show Tryd.prog.wantsStandIn t = false by simpa using List.all_eq_true.1 hall t hm)⟩)
    (by kernel_rfl)
#print axioms proved
end Go.Proofs.YtfionfbokoamlaaDoor.eventKinds
