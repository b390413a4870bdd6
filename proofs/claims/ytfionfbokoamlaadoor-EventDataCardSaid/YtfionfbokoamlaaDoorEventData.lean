/-
  EventData is proved: data may be as long as the kind lets them, and not longer; for every input the law returns true.
-/
import Derived.Test.YtfionfbokoamlaaDoorLaid
import Derived.Test.YtfionfbokoamlaaDoorCards
import Derived.Test.YtfionfbokoamlaaDoorEvLaw
namespace Go.Proofs.YtfionfbokoamlaaDoor.eventData
open Go.ChangeShapes Go.WideShapes Go.ChangeAt Go.RowKit
set_option linter.unusedVariables false      -- a walk need not use every bound of an argument

open Ev Own
theorem and255 (n : Int) : bits .and .i64 n 255 = n % 256 := by
  have h255 : (BitVec.ofInt 64 255).toNat = 2 ^ 8 - 1 := by decide
  have key : (BitVec.ofInt 64 n &&& BitVec.ofInt 64 255).toNat = (n % ((2 ^ 64 : Nat) : Int)).toNat % 2 ^ 8 := by
    rw [BitVec.toNat_and, BitVec.toNat_ofInt, h255, Nat.and_two_pow_sub_one_eq_mod]
  show IntKind.i64.wrap ((BitVec.ofInt 64 n &&& BitVec.ofInt 64 255).toNat : Nat) = n % 256
  rw [key, IntKind.wrap_i64]
  omega
/-- a row of bytes of nought, as a text -/
theorem noughts (m : Nat) (h : m ≤ 1000) (W : World) : ∃ cur : Array Value,
    (Instr.makeSlice 43 (.int .i64 (m : Int)) (.int .i64 (m : Int))).run Tryd.prog W = .ok (.slice (some ⟨W.heap.size, 0, none⟩) m m) (W.alloc (.cells cur 5)) ∧
    (convert 43 9 (.slice (some ⟨W.heap.size, 0, none⟩) m m)).run Tryd.prog (W.alloc (.cells cur 5)) = .ok (.string (strOfNums (List.replicate m 0))) (W.alloc (.cells cur 5)) := by
  obtain ⟨i0, hi, hx⟩ := Option.map_eq_some_iff.1 (show (Tryd.prog.info? 5).map (fun i => (i.zero, i.size, i.bytes)) = some (some (.int .u8 0), 1, 1) by kernel_rfl)
  simp only [Prod.mk.injEq] at hx
  obtain ⟨hz0, hz1, hz2⟩ := hx
  have hm := run_make (P := Tryd.prog) W 43 5 i0 (.int .u8 0) Tryd.underlying43 hi hz0 .i64 .i64 (m : Int) (m : Int) (by omega) (by omega) (by rw [hz2]; omega) (by omega)
  rw [hz1, Nat.mul_one, Int.toNat_natCast, show (Value.int .u8 0).cells = #[Value.int .u8 0] from rfl] at hm
  refine ⟨_, hm, ?_⟩
  refine run_convert_bytes_arg _ _ _ Tryd.underlying43 Tryd.underlying5 _ _ _ _ (List.replicate m 0) (by simp) ?_ _ Tryd.underlying9
  intro i hi'
  rw [Nat.zero_add, World.cell?_alloc_at _ _ _ _ rfl, ← Array.getElem?_toList, toList_madeCells_one]
  simp [List.getD, hi']
theorem noughts_size (m : Nat) : (strOfNums (List.replicate m 0)).size = m := by
  show ((List.replicate m (0 : Int)).map fun n => UInt8.ofNat n.toNat).length = m
  rw [List.length_map, List.length_replicate]

set_option maxRecDepth 100000 in
theorem case0 (a0 a1 : Int) (b m : Nat) (hb1 : bits .and .i64 a0 255 = (b : Int)) (hb2 : (b : Int).tmod 9 = 0) (hm : max 0 (min a1 300) = (m : Int)) (hm3 : (m : Int) ≤ 300) (w : World) (hT : Tabs w) :
    Calls Tryd.prog 8 #[.int .i64 a0, .int .i64 a1] w fun e w' => e = .returned (.bool true) ∧ Below w.heap.size w w' := by
  have hsz := noughts_size m
  obtain ⟨D, hD⟩ : ∃ D, strOfNums (List.replicate m 0) = D := ⟨_, rfl⟩
  rw [hD] at hsz
  have HD := Lib.hid hD
  have HT := Lib.hid hT
  have HM3 := Lib.hid hm3
  have HSZ := Lib.hid hsz
  have hC : checkE 1 D.size 0 = if m ≤ 64 then 0 else 6 := by
    rw [hsz]; show restE (formOf 1) m 0 = _; unfold restE formOf; simp only []
    by_cases h : m ≤ 64
    · rw [if_pos h]; first | (rw [if_neg (by omega), if_neg (by omega)]) | omega
    · rw [if_neg h]; first | (rw [if_pos (by omega)]) | (rw [if_neg (by omega), if_pos (by omega)])
  have HC := Lib.hid hC
  clear hT hD hC hsz
  go_enter Tryd.func8, Tryd.ntmps8
  go_wp2_with fail
  refine (awake_any _ HT.out).mono ?_; rintro e w1 ⟨rfl, hb1'⟩
  obtain ⟨cur, hr1, hr2⟩ := noughts m (by have := HM3.out; omega) w1
  rw [HD.out] at hr2
  go_wp2_with fail
  refine (check_any 1 D 0 _ ((HT.out.below hb1').below (by repeat (first | exact Below.refl _ _ | refine Below.alloc ?_ (by simp <;> omega) _ | refine Below.setCell ?_ (by simp) _))).forms).mono ?_; rintro e w3 ⟨rfl, hb3⟩
  rw [HC.out]
  have hb4 : Below w.heap.size w w3 := (hb1'.trans (((((Below.refl w1.heap.size w1).alloc (Nat.le_refl _) (.cells cur 5)).alloc (by simp) (.cells #[.int .i64 1, .string D, .int .i64 0] 23)).alloc (by simp <;> omega) (.cells #[.int .i64 64, .int .i64 0, .int .i64 64, .int .i64 64, .int .i64 0, .int .i64 0, .int .i64 200, .int .i64 200, .int .i64 200] 3)).mono hb1'.size)).trans (hb3.mono (by have := hb1'.size; simp; omega))
  clear hb3 hr1 hr2 hb1'
  by_cases hml : m ≤ 64
  · rw [if_pos hml]
    have hml2 : (m : Int) ≤ 64 := by omega
    clear hml
    go_wp2_with fail
    all_goals first
      | (go_ret; exact ⟨rfl, hb4⟩)
      | (go_ret; refine ⟨ret_bool ?_, hb4⟩; simp; omega)
      | (go_ret; refine ⟨ret_bool ?_, hb4⟩; simp_all; done)
      | (exfalso; omega)
  · rw [if_neg hml]
    have hml2 : 64 < (m : Int) := by omega
    clear hml
    go_wp2_with fail
    all_goals first
      | (go_ret; exact ⟨rfl, hb4⟩)
      | (go_ret; refine ⟨ret_bool ?_, hb4⟩; simp; omega)
      | (go_ret; refine ⟨ret_bool ?_, hb4⟩; simp_all; done)
      | (exfalso; omega)

set_option maxRecDepth 100000 in
theorem case1 (a0 a1 : Int) (b m : Nat) (hb1 : bits .and .i64 a0 255 = (b : Int)) (hb2 : (b : Int).tmod 9 = 1) (hm : max 0 (min a1 300) = (m : Int)) (hm3 : (m : Int) ≤ 300) (w : World) (hT : Tabs w) :
    Calls Tryd.prog 8 #[.int .i64 a0, .int .i64 a1] w fun e w' => e = .returned (.bool true) ∧ Below w.heap.size w w' := by
  have hsz := noughts_size m
  obtain ⟨D, hD⟩ : ∃ D, strOfNums (List.replicate m 0) = D := ⟨_, rfl⟩
  rw [hD] at hsz
  have HD := Lib.hid hD
  have HT := Lib.hid hT
  have HM3 := Lib.hid hm3
  have HSZ := Lib.hid hsz
  have hC : checkE 2 D.size 0 = if m ≤ 0 then 0 else 1 := by
    rw [hsz]; show restE (formOf 2) m 0 = _; unfold restE formOf; simp only []
    by_cases h : m ≤ 0
    · rw [if_pos h]; first | (rw [if_neg (by omega), if_neg (by omega)]) | omega
    · rw [if_neg h]; first | (rw [if_pos (by omega)]) | (rw [if_neg (by omega), if_pos (by omega)])
  have HC := Lib.hid hC
  clear hT hD hC hsz
  go_enter Tryd.func8, Tryd.ntmps8
  go_wp2_with fail
  refine (awake_any _ HT.out).mono ?_; rintro e w1 ⟨rfl, hb1'⟩
  obtain ⟨cur, hr1, hr2⟩ := noughts m (by have := HM3.out; omega) w1
  rw [HD.out] at hr2
  go_wp2_with fail
  refine (check_any 2 D 0 _ ((HT.out.below hb1').below (by repeat (first | exact Below.refl _ _ | refine Below.alloc ?_ (by simp <;> omega) _ | refine Below.setCell ?_ (by simp) _))).forms).mono ?_; rintro e w3 ⟨rfl, hb3⟩
  rw [HC.out]
  have hb4 : Below w.heap.size w w3 := (hb1'.trans (((((Below.refl w1.heap.size w1).alloc (Nat.le_refl _) (.cells cur 5)).alloc (by simp) (.cells #[.int .i64 2, .string D, .int .i64 0] 23)).alloc (by simp <;> omega) (.cells #[.int .i64 64, .int .i64 0, .int .i64 64, .int .i64 64, .int .i64 0, .int .i64 0, .int .i64 200, .int .i64 200, .int .i64 200] 3)).mono hb1'.size)).trans (hb3.mono (by have := hb1'.size; simp; omega))
  clear hb3 hr1 hr2 hb1'
  by_cases hml : m ≤ 0
  · rw [if_pos hml]
    have hml2 : (m : Int) ≤ 0 := by omega
    clear hml
    go_wp2_with fail
    all_goals first
      | (go_ret; exact ⟨rfl, hb4⟩)
      | (go_ret; refine ⟨ret_bool ?_, hb4⟩; simp; omega)
      | (go_ret; refine ⟨ret_bool ?_, hb4⟩; simp_all; done)
      | (exfalso; omega)
  · rw [if_neg hml]
    have hml2 : 0 < (m : Int) := by omega
    clear hml
    go_wp2_with fail
    all_goals first
      | (go_ret; exact ⟨rfl, hb4⟩)
      | (go_ret; refine ⟨ret_bool ?_, hb4⟩; simp; omega)
      | (go_ret; refine ⟨ret_bool ?_, hb4⟩; simp_all; done)
      | (exfalso; omega)

set_option maxRecDepth 100000 in
theorem case2 (a0 a1 : Int) (b m : Nat) (hb1 : bits .and .i64 a0 255 = (b : Int)) (hb2 : (b : Int).tmod 9 = 2) (hm : max 0 (min a1 300) = (m : Int)) (hm3 : (m : Int) ≤ 300) (w : World) (hT : Tabs w) :
    Calls Tryd.prog 8 #[.int .i64 a0, .int .i64 a1] w fun e w' => e = .returned (.bool true) ∧ Below w.heap.size w w' := by
  have hsz := noughts_size m
  obtain ⟨D, hD⟩ : ∃ D, strOfNums (List.replicate m 0) = D := ⟨_, rfl⟩
  rw [hD] at hsz
  have HD := Lib.hid hD
  have HT := Lib.hid hT
  have HM3 := Lib.hid hm3
  have HSZ := Lib.hid hsz
  have hC : checkE 3 D.size 0 = if m ≤ 64 then 0 else 6 := by
    rw [hsz]; show restE (formOf 3) m 0 = _; unfold restE formOf; simp only []
    by_cases h : m ≤ 64
    · rw [if_pos h]; first | (rw [if_neg (by omega), if_neg (by omega)]) | omega
    · rw [if_neg h]; first | (rw [if_pos (by omega)]) | (rw [if_neg (by omega), if_pos (by omega)])
  have HC := Lib.hid hC
  clear hT hD hC hsz
  go_enter Tryd.func8, Tryd.ntmps8
  go_wp2_with fail
  refine (awake_any _ HT.out).mono ?_; rintro e w1 ⟨rfl, hb1'⟩
  obtain ⟨cur, hr1, hr2⟩ := noughts m (by have := HM3.out; omega) w1
  rw [HD.out] at hr2
  go_wp2_with fail
  refine (check_any 3 D 0 _ ((HT.out.below hb1').below (by repeat (first | exact Below.refl _ _ | refine Below.alloc ?_ (by simp <;> omega) _ | refine Below.setCell ?_ (by simp) _))).forms).mono ?_; rintro e w3 ⟨rfl, hb3⟩
  rw [HC.out]
  have hb4 : Below w.heap.size w w3 := (hb1'.trans (((((Below.refl w1.heap.size w1).alloc (Nat.le_refl _) (.cells cur 5)).alloc (by simp) (.cells #[.int .i64 3, .string D, .int .i64 0] 23)).alloc (by simp <;> omega) (.cells #[.int .i64 64, .int .i64 0, .int .i64 64, .int .i64 64, .int .i64 0, .int .i64 0, .int .i64 200, .int .i64 200, .int .i64 200] 3)).mono hb1'.size)).trans (hb3.mono (by have := hb1'.size; simp; omega))
  clear hb3 hr1 hr2 hb1'
  by_cases hml : m ≤ 64
  · rw [if_pos hml]
    have hml2 : (m : Int) ≤ 64 := by omega
    clear hml
    go_wp2_with fail
    all_goals first
      | (go_ret; exact ⟨rfl, hb4⟩)
      | (go_ret; refine ⟨ret_bool ?_, hb4⟩; simp; omega)
      | (go_ret; refine ⟨ret_bool ?_, hb4⟩; simp_all; done)
      | (exfalso; omega)
  · rw [if_neg hml]
    have hml2 : 64 < (m : Int) := by omega
    clear hml
    go_wp2_with fail
    all_goals first
      | (go_ret; exact ⟨rfl, hb4⟩)
      | (go_ret; refine ⟨ret_bool ?_, hb4⟩; simp; omega)
      | (go_ret; refine ⟨ret_bool ?_, hb4⟩; simp_all; done)
      | (exfalso; omega)

set_option maxRecDepth 100000 in
theorem case3 (a0 a1 : Int) (b m : Nat) (hb1 : bits .and .i64 a0 255 = (b : Int)) (hb2 : (b : Int).tmod 9 = 3) (hm : max 0 (min a1 300) = (m : Int)) (hm3 : (m : Int) ≤ 300) (w : World) (hT : Tabs w) :
    Calls Tryd.prog 8 #[.int .i64 a0, .int .i64 a1] w fun e w' => e = .returned (.bool true) ∧ Below w.heap.size w w' := by
  have hsz := noughts_size m
  obtain ⟨D, hD⟩ : ∃ D, strOfNums (List.replicate m 0) = D := ⟨_, rfl⟩
  rw [hD] at hsz
  have HD := Lib.hid hD
  have HT := Lib.hid hT
  have HM3 := Lib.hid hm3
  have HSZ := Lib.hid hsz
  have hC : checkE 4 D.size 0 = if m ≤ 64 then 0 else 6 := by
    rw [hsz]; show restE (formOf 4) m 0 = _; unfold restE formOf; simp only []
    by_cases h : m ≤ 64
    · rw [if_pos h]; first | (rw [if_neg (by omega), if_neg (by omega)]) | omega
    · rw [if_neg h]; first | (rw [if_pos (by omega)]) | (rw [if_neg (by omega), if_pos (by omega)])
  have HC := Lib.hid hC
  clear hT hD hC hsz
  go_enter Tryd.func8, Tryd.ntmps8
  go_wp2_with fail
  refine (awake_any _ HT.out).mono ?_; rintro e w1 ⟨rfl, hb1'⟩
  obtain ⟨cur, hr1, hr2⟩ := noughts m (by have := HM3.out; omega) w1
  rw [HD.out] at hr2
  go_wp2_with fail
  refine (check_any 4 D 0 _ ((HT.out.below hb1').below (by repeat (first | exact Below.refl _ _ | refine Below.alloc ?_ (by simp <;> omega) _ | refine Below.setCell ?_ (by simp) _))).forms).mono ?_; rintro e w3 ⟨rfl, hb3⟩
  rw [HC.out]
  have hb4 : Below w.heap.size w w3 := (hb1'.trans (((((Below.refl w1.heap.size w1).alloc (Nat.le_refl _) (.cells cur 5)).alloc (by simp) (.cells #[.int .i64 4, .string D, .int .i64 0] 23)).alloc (by simp <;> omega) (.cells #[.int .i64 64, .int .i64 0, .int .i64 64, .int .i64 64, .int .i64 0, .int .i64 0, .int .i64 200, .int .i64 200, .int .i64 200] 3)).mono hb1'.size)).trans (hb3.mono (by have := hb1'.size; simp; omega))
  clear hb3 hr1 hr2 hb1'
  by_cases hml : m ≤ 64
  · rw [if_pos hml]
    have hml2 : (m : Int) ≤ 64 := by omega
    clear hml
    go_wp2_with fail
    all_goals first
      | (go_ret; exact ⟨rfl, hb4⟩)
      | (go_ret; refine ⟨ret_bool ?_, hb4⟩; simp; omega)
      | (go_ret; refine ⟨ret_bool ?_, hb4⟩; simp_all; done)
      | (exfalso; omega)
  · rw [if_neg hml]
    have hml2 : 64 < (m : Int) := by omega
    clear hml
    go_wp2_with fail
    all_goals first
      | (go_ret; exact ⟨rfl, hb4⟩)
      | (go_ret; refine ⟨ret_bool ?_, hb4⟩; simp; omega)
      | (go_ret; refine ⟨ret_bool ?_, hb4⟩; simp_all; done)
      | (exfalso; omega)

set_option maxRecDepth 100000 in
theorem case4 (a0 a1 : Int) (b m : Nat) (hb1 : bits .and .i64 a0 255 = (b : Int)) (hb2 : (b : Int).tmod 9 = 4) (hm : max 0 (min a1 300) = (m : Int)) (hm3 : (m : Int) ≤ 300) (w : World) (hT : Tabs w) :
    Calls Tryd.prog 8 #[.int .i64 a0, .int .i64 a1] w fun e w' => e = .returned (.bool true) ∧ Below w.heap.size w w' := by
  have hsz := noughts_size m
  obtain ⟨D, hD⟩ : ∃ D, strOfNums (List.replicate m 0) = D := ⟨_, rfl⟩
  rw [hD] at hsz
  have HD := Lib.hid hD
  have HT := Lib.hid hT
  have HM3 := Lib.hid hm3
  have HSZ := Lib.hid hsz
  have hC : checkE 5 D.size 0 = if m ≤ 0 then 0 else 1 := by
    rw [hsz]; show restE (formOf 5) m 0 = _; unfold restE formOf; simp only []
    by_cases h : m ≤ 0
    · rw [if_pos h]; first | (rw [if_neg (by omega), if_neg (by omega)]) | omega
    · rw [if_neg h]; first | (rw [if_pos (by omega)]) | (rw [if_neg (by omega), if_pos (by omega)])
  have HC := Lib.hid hC
  clear hT hD hC hsz
  go_enter Tryd.func8, Tryd.ntmps8
  go_wp2_with fail
  refine (awake_any _ HT.out).mono ?_; rintro e w1 ⟨rfl, hb1'⟩
  obtain ⟨cur, hr1, hr2⟩ := noughts m (by have := HM3.out; omega) w1
  rw [HD.out] at hr2
  go_wp2_with fail
  refine (check_any 5 D 0 _ ((HT.out.below hb1').below (by repeat (first | exact Below.refl _ _ | refine Below.alloc ?_ (by simp <;> omega) _ | refine Below.setCell ?_ (by simp) _))).forms).mono ?_; rintro e w3 ⟨rfl, hb3⟩
  rw [HC.out]
  have hb4 : Below w.heap.size w w3 := (hb1'.trans (((((Below.refl w1.heap.size w1).alloc (Nat.le_refl _) (.cells cur 5)).alloc (by simp) (.cells #[.int .i64 5, .string D, .int .i64 0] 23)).alloc (by simp <;> omega) (.cells #[.int .i64 64, .int .i64 0, .int .i64 64, .int .i64 64, .int .i64 0, .int .i64 0, .int .i64 200, .int .i64 200, .int .i64 200] 3)).mono hb1'.size)).trans (hb3.mono (by have := hb1'.size; simp; omega))
  clear hb3 hr1 hr2 hb1'
  by_cases hml : m ≤ 0
  · rw [if_pos hml]
    have hml2 : (m : Int) ≤ 0 := by omega
    clear hml
    go_wp2_with fail
    all_goals first
      | (go_ret; exact ⟨rfl, hb4⟩)
      | (go_ret; refine ⟨ret_bool ?_, hb4⟩; simp; omega)
      | (go_ret; refine ⟨ret_bool ?_, hb4⟩; simp_all; done)
      | (exfalso; omega)
  · rw [if_neg hml]
    have hml2 : 0 < (m : Int) := by omega
    clear hml
    go_wp2_with fail
    all_goals first
      | (go_ret; exact ⟨rfl, hb4⟩)
      | (go_ret; refine ⟨ret_bool ?_, hb4⟩; simp; omega)
      | (go_ret; refine ⟨ret_bool ?_, hb4⟩; simp_all; done)
      | (exfalso; omega)

set_option maxRecDepth 100000 in
theorem case5 (a0 a1 : Int) (b m : Nat) (hb1 : bits .and .i64 a0 255 = (b : Int)) (hb2 : (b : Int).tmod 9 = 5) (hm : max 0 (min a1 300) = (m : Int)) (hm3 : (m : Int) ≤ 300) (w : World) (hT : Tabs w) :
    Calls Tryd.prog 8 #[.int .i64 a0, .int .i64 a1] w fun e w' => e = .returned (.bool true) ∧ Below w.heap.size w w' := by
  have hsz := noughts_size m
  obtain ⟨D, hD⟩ : ∃ D, strOfNums (List.replicate m 0) = D := ⟨_, rfl⟩
  rw [hD] at hsz
  have HD := Lib.hid hD
  have HT := Lib.hid hT
  have HM3 := Lib.hid hm3
  have HSZ := Lib.hid hsz
  have hC : checkE 6 D.size 0 = if m ≤ 0 then 0 else 1 := by
    rw [hsz]; show restE (formOf 6) m 0 = _; unfold restE formOf; simp only []
    by_cases h : m ≤ 0
    · rw [if_pos h]; first | (rw [if_neg (by omega), if_neg (by omega)]) | omega
    · rw [if_neg h]; first | (rw [if_pos (by omega)]) | (rw [if_neg (by omega), if_pos (by omega)])
  have HC := Lib.hid hC
  clear hT hD hC hsz
  go_enter Tryd.func8, Tryd.ntmps8
  go_wp2_with fail
  refine (awake_any _ HT.out).mono ?_; rintro e w1 ⟨rfl, hb1'⟩
  obtain ⟨cur, hr1, hr2⟩ := noughts m (by have := HM3.out; omega) w1
  rw [HD.out] at hr2
  go_wp2_with fail
  refine (check_any 6 D 0 _ ((HT.out.below hb1').below (by repeat (first | exact Below.refl _ _ | refine Below.alloc ?_ (by simp <;> omega) _ | refine Below.setCell ?_ (by simp) _))).forms).mono ?_; rintro e w3 ⟨rfl, hb3⟩
  rw [HC.out]
  have hb4 : Below w.heap.size w w3 := (hb1'.trans (((((Below.refl w1.heap.size w1).alloc (Nat.le_refl _) (.cells cur 5)).alloc (by simp) (.cells #[.int .i64 6, .string D, .int .i64 0] 23)).alloc (by simp <;> omega) (.cells #[.int .i64 64, .int .i64 0, .int .i64 64, .int .i64 64, .int .i64 0, .int .i64 0, .int .i64 200, .int .i64 200, .int .i64 200] 3)).mono hb1'.size)).trans (hb3.mono (by have := hb1'.size; simp; omega))
  clear hb3 hr1 hr2 hb1'
  by_cases hml : m ≤ 0
  · rw [if_pos hml]
    have hml2 : (m : Int) ≤ 0 := by omega
    clear hml
    go_wp2_with fail
    all_goals first
      | (go_ret; exact ⟨rfl, hb4⟩)
      | (go_ret; refine ⟨ret_bool ?_, hb4⟩; simp; omega)
      | (go_ret; refine ⟨ret_bool ?_, hb4⟩; simp_all; done)
      | (exfalso; omega)
  · rw [if_neg hml]
    have hml2 : 0 < (m : Int) := by omega
    clear hml
    go_wp2_with fail
    all_goals first
      | (go_ret; exact ⟨rfl, hb4⟩)
      | (go_ret; refine ⟨ret_bool ?_, hb4⟩; simp; omega)
      | (go_ret; refine ⟨ret_bool ?_, hb4⟩; simp_all; done)
      | (exfalso; omega)

set_option maxRecDepth 100000 in
theorem case6 (a0 a1 : Int) (b m : Nat) (hb1 : bits .and .i64 a0 255 = (b : Int)) (hb2 : (b : Int).tmod 9 = 6) (hm : max 0 (min a1 300) = (m : Int)) (hm3 : (m : Int) ≤ 300) (w : World) (hT : Tabs w) :
    Calls Tryd.prog 8 #[.int .i64 a0, .int .i64 a1] w fun e w' => e = .returned (.bool true) ∧ Below w.heap.size w w' := by
  have hsz := noughts_size m
  obtain ⟨D, hD⟩ : ∃ D, strOfNums (List.replicate m 0) = D := ⟨_, rfl⟩
  rw [hD] at hsz
  have HD := Lib.hid hD
  have HT := Lib.hid hT
  have HM3 := Lib.hid hm3
  have HSZ := Lib.hid hsz
  have hC : checkE 7 D.size 0 = if m ≤ 200 then 0 else 6 := by
    rw [hsz]; show restE (formOf 7) m 0 = _; unfold restE formOf; simp only []
    by_cases h : m ≤ 200
    · rw [if_pos h]; first | (rw [if_neg (by omega), if_neg (by omega)]) | omega
    · rw [if_neg h]; first | (rw [if_pos (by omega)]) | (rw [if_neg (by omega), if_pos (by omega)])
  have HC := Lib.hid hC
  clear hT hD hC hsz
  go_enter Tryd.func8, Tryd.ntmps8
  go_wp2_with fail
  refine (awake_any _ HT.out).mono ?_; rintro e w1 ⟨rfl, hb1'⟩
  obtain ⟨cur, hr1, hr2⟩ := noughts m (by have := HM3.out; omega) w1
  rw [HD.out] at hr2
  go_wp2_with fail
  refine (check_any 7 D 0 _ ((HT.out.below hb1').below (by repeat (first | exact Below.refl _ _ | refine Below.alloc ?_ (by simp <;> omega) _ | refine Below.setCell ?_ (by simp) _))).forms).mono ?_; rintro e w3 ⟨rfl, hb3⟩
  rw [HC.out]
  have hb4 : Below w.heap.size w w3 := (hb1'.trans (((((Below.refl w1.heap.size w1).alloc (Nat.le_refl _) (.cells cur 5)).alloc (by simp) (.cells #[.int .i64 7, .string D, .int .i64 0] 23)).alloc (by simp <;> omega) (.cells #[.int .i64 64, .int .i64 0, .int .i64 64, .int .i64 64, .int .i64 0, .int .i64 0, .int .i64 200, .int .i64 200, .int .i64 200] 3)).mono hb1'.size)).trans (hb3.mono (by have := hb1'.size; simp; omega))
  clear hb3 hr1 hr2 hb1'
  by_cases hml : m ≤ 200
  · rw [if_pos hml]
    have hml2 : (m : Int) ≤ 200 := by omega
    clear hml
    go_wp2_with fail
    all_goals first
      | (go_ret; exact ⟨rfl, hb4⟩)
      | (go_ret; refine ⟨ret_bool ?_, hb4⟩; simp; omega)
      | (go_ret; refine ⟨ret_bool ?_, hb4⟩; simp_all; done)
      | (exfalso; omega)
  · rw [if_neg hml]
    have hml2 : 200 < (m : Int) := by omega
    clear hml
    go_wp2_with fail
    all_goals first
      | (go_ret; exact ⟨rfl, hb4⟩)
      | (go_ret; refine ⟨ret_bool ?_, hb4⟩; simp; omega)
      | (go_ret; refine ⟨ret_bool ?_, hb4⟩; simp_all; done)
      | (exfalso; omega)

set_option maxRecDepth 100000 in
theorem case7 (a0 a1 : Int) (b m : Nat) (hb1 : bits .and .i64 a0 255 = (b : Int)) (hb2 : (b : Int).tmod 9 = 7) (hm : max 0 (min a1 300) = (m : Int)) (hm3 : (m : Int) ≤ 300) (w : World) (hT : Tabs w) :
    Calls Tryd.prog 8 #[.int .i64 a0, .int .i64 a1] w fun e w' => e = .returned (.bool true) ∧ Below w.heap.size w w' := by
  have hsz := noughts_size m
  obtain ⟨D, hD⟩ : ∃ D, strOfNums (List.replicate m 0) = D := ⟨_, rfl⟩
  rw [hD] at hsz
  have HD := Lib.hid hD
  have HT := Lib.hid hT
  have HM3 := Lib.hid hm3
  have HSZ := Lib.hid hsz
  have hC : checkE 8 D.size 0 = if m ≤ 200 then 0 else 6 := by
    rw [hsz]; show restE (formOf 8) m 0 = _; unfold restE formOf; simp only []
    by_cases h : m ≤ 200
    · rw [if_pos h]; first | (rw [if_neg (by omega), if_neg (by omega)]) | omega
    · rw [if_neg h]; first | (rw [if_pos (by omega)]) | (rw [if_neg (by omega), if_pos (by omega)])
  have HC := Lib.hid hC
  clear hT hD hC hsz
  go_enter Tryd.func8, Tryd.ntmps8
  go_wp2_with fail
  refine (awake_any _ HT.out).mono ?_; rintro e w1 ⟨rfl, hb1'⟩
  obtain ⟨cur, hr1, hr2⟩ := noughts m (by have := HM3.out; omega) w1
  rw [HD.out] at hr2
  go_wp2_with fail
  refine (check_any 8 D 0 _ ((HT.out.below hb1').below (by repeat (first | exact Below.refl _ _ | refine Below.alloc ?_ (by simp <;> omega) _ | refine Below.setCell ?_ (by simp) _))).forms).mono ?_; rintro e w3 ⟨rfl, hb3⟩
  rw [HC.out]
  have hb4 : Below w.heap.size w w3 := (hb1'.trans (((((Below.refl w1.heap.size w1).alloc (Nat.le_refl _) (.cells cur 5)).alloc (by simp) (.cells #[.int .i64 8, .string D, .int .i64 0] 23)).alloc (by simp <;> omega) (.cells #[.int .i64 64, .int .i64 0, .int .i64 64, .int .i64 64, .int .i64 0, .int .i64 0, .int .i64 200, .int .i64 200, .int .i64 200] 3)).mono hb1'.size)).trans (hb3.mono (by have := hb1'.size; simp; omega))
  clear hb3 hr1 hr2 hb1'
  by_cases hml : m ≤ 200
  · rw [if_pos hml]
    have hml2 : (m : Int) ≤ 200 := by omega
    clear hml
    go_wp2_with fail
    all_goals first
      | (go_ret; exact ⟨rfl, hb4⟩)
      | (go_ret; refine ⟨ret_bool ?_, hb4⟩; simp; omega)
      | (go_ret; refine ⟨ret_bool ?_, hb4⟩; simp_all; done)
      | (exfalso; omega)
  · rw [if_neg hml]
    have hml2 : 200 < (m : Int) := by omega
    clear hml
    go_wp2_with fail
    all_goals first
      | (go_ret; exact ⟨rfl, hb4⟩)
      | (go_ret; refine ⟨ret_bool ?_, hb4⟩; simp; omega)
      | (go_ret; refine ⟨ret_bool ?_, hb4⟩; simp_all; done)
      | (exfalso; omega)

set_option maxRecDepth 100000 in
theorem case8 (a0 a1 : Int) (b m : Nat) (hb1 : bits .and .i64 a0 255 = (b : Int)) (hb2 : (b : Int).tmod 9 = 8) (hm : max 0 (min a1 300) = (m : Int)) (hm3 : (m : Int) ≤ 300) (w : World) (hT : Tabs w) :
    Calls Tryd.prog 8 #[.int .i64 a0, .int .i64 a1] w fun e w' => e = .returned (.bool true) ∧ Below w.heap.size w w' := by
  have hsz := noughts_size m
  obtain ⟨D, hD⟩ : ∃ D, strOfNums (List.replicate m 0) = D := ⟨_, rfl⟩
  rw [hD] at hsz
  have HD := Lib.hid hD
  have HT := Lib.hid hT
  have HM3 := Lib.hid hm3
  have HSZ := Lib.hid hsz
  have hC : checkE 9 D.size 0 = if m ≤ 200 then 0 else 6 := by
    rw [hsz]; show restE (formOf 9) m 0 = _; unfold restE formOf; simp only []
    by_cases h : m ≤ 200
    · rw [if_pos h]; first | (rw [if_neg (by omega), if_neg (by omega)]) | omega
    · rw [if_neg h]; first | (rw [if_pos (by omega)]) | (rw [if_neg (by omega), if_pos (by omega)])
  have HC := Lib.hid hC
  clear hT hD hC hsz
  go_enter Tryd.func8, Tryd.ntmps8
  go_wp2_with fail
  refine (awake_any _ HT.out).mono ?_; rintro e w1 ⟨rfl, hb1'⟩
  obtain ⟨cur, hr1, hr2⟩ := noughts m (by have := HM3.out; omega) w1
  rw [HD.out] at hr2
  go_wp2_with fail
  refine (check_any 9 D 0 _ ((HT.out.below hb1').below (by repeat (first | exact Below.refl _ _ | refine Below.alloc ?_ (by simp <;> omega) _ | refine Below.setCell ?_ (by simp) _))).forms).mono ?_; rintro e w3 ⟨rfl, hb3⟩
  rw [HC.out]
  have hb4 : Below w.heap.size w w3 := (hb1'.trans (((((Below.refl w1.heap.size w1).alloc (Nat.le_refl _) (.cells cur 5)).alloc (by simp) (.cells #[.int .i64 9, .string D, .int .i64 0] 23)).alloc (by simp <;> omega) (.cells #[.int .i64 64, .int .i64 0, .int .i64 64, .int .i64 64, .int .i64 0, .int .i64 0, .int .i64 200, .int .i64 200, .int .i64 200] 3)).mono hb1'.size)).trans (hb3.mono (by have := hb1'.size; simp; omega))
  clear hb3 hr1 hr2 hb1'
  by_cases hml : m ≤ 200
  · rw [if_pos hml]
    have hml2 : (m : Int) ≤ 200 := by omega
    clear hml
    go_wp2_with fail
    all_goals first
      | (go_ret; exact ⟨rfl, hb4⟩)
      | (go_ret; refine ⟨ret_bool ?_, hb4⟩; simp; omega)
      | (go_ret; refine ⟨ret_bool ?_, hb4⟩; simp_all; done)
      | (exfalso; omega)
  · rw [if_neg hml]
    have hml2 : 200 < (m : Int) := by omega
    clear hml
    go_wp2_with fail
    all_goals first
      | (go_ret; exact ⟨rfl, hb4⟩)
      | (go_ret; refine ⟨ret_bool ?_, hb4⟩; simp; omega)
      | (go_ret; refine ⟨ret_bool ?_, hb4⟩; simp_all; done)
      | (exfalso; omega)

theorem walk (w : World) (a0 : Int) (w0 : (Lit.int .i64 a0).wf = true) (a1 : Int) (w1 : (Lit.int .i64 a1).wf = true) (hL : laidMetH Tryd.prog Rows.eventDataRow.laid w) :
    Calls Tryd.prog 8 #[.int .i64 a0, .int .i64 a1] w fun e w' => e = .returned (.bool true) ∧ Below w.heap.size w w' := by
  have hT := tabs_laid (by kernel_rfl) hL (by simp [Rows.eventDataRow]) (by simp [Rows.eventDataRow]) (by simp [Rows.eventDataRow])
  obtain ⟨b, hb, hb3⟩ : ∃ b : Nat, bits .and .i64 a0 255 = (b : Int) ∧ b ≤ 255 := ⟨(a0 % 256).toNat, by rw [and255]; omega, by omega⟩
  obtain ⟨m, hm, hm3⟩ : ∃ m : Nat, max 0 (min a1 300) = (m : Int) ∧ (m : Int) ≤ 300 := ⟨(max 0 (min a1 300)).toNat, by omega, by omega⟩
  have ht : (b : Int).tmod 9 = (b : Int) % 9 := Int.tmod_eq_emod_of_nonneg (by omega)
  rcases (show (b : Int) % 9 = 0 ∨ (b : Int) % 9 = 1 ∨ (b : Int) % 9 = 2 ∨ (b : Int) % 9 = 3 ∨ (b : Int) % 9 = 4 ∨ (b : Int) % 9 = 5 ∨ (b : Int) % 9 = 6 ∨ (b : Int) % 9 = 7 ∨ (b : Int) % 9 = 8 by omega) with h | h | h | h | h | h | h | h | h
  · exact case0 a0 a1 b m hb (ht.trans h) hm hm3 w hT
  · exact case1 a0 a1 b m hb (ht.trans h) hm hm3 w hT
  · exact case2 a0 a1 b m hb (ht.trans h) hm hm3 w hT
  · exact case3 a0 a1 b m hb (ht.trans h) hm hm3 w hT
  · exact case4 a0 a1 b m hb (ht.trans h) hm hm3 w hT
  · exact case5 a0 a1 b m hb (ht.trans h) hm hm3 w hT
  · exact case6 a0 a1 b m hb (ht.trans h) hm hm3 w hT
  · exact case7 a0 a1 b m hb (ht.trans h) hm hm3 w hT
  · exact case8 a0 a1 b m hb (ht.trans h) hm hm3 w hT

theorem own : ownKnob Tryd.prog.godebug = none := by kernel_rfl
theorem laidOut : laidOutB Tryd.prog = true := by kernel_rfl

set_option maxRecDepth 100000 in
theorem lifted (os : Os) (started : os.Started) (H : Type) (enc : TypeId × Value → H) :
    ReturnsInHanded {} Tryd.checked os 8 .any (fun w args => (Rows.eventDataSpec.pre enc Tryd.prog Tryd.f8 Rows.eventDataRow.domain false w args ∧ laidMetH Tryd.prog Rows.eventDataRow.laid w) ∧ sizedMet enc Tryd.prog Tryd.f8 (OpenSpec.ofChange Rows.eventDataSpec) false w args) (Rows.eventDataSpec.post enc Tryd.prog Tryd.f8 false true false false) := by
  refine Base.law_laid (C := Tryd.checked) own started (by kernel_rfl) Tryd.func8 laidOut (by kernel_rfl) rfl Tryd.underlying4 rfl ?_
    (Base.laid_witness #[.int .i64 0, .int .i64 0] (World.shaped_of_ZipB (by kernel_rfl) (by kernel_rfl)) (by kernel_rfl) (by kernel_rfl) (by kernel_rfl) (by rw [MakeChecks.laidMetH_plain _ _ _ (by kernel_rfl)]; exact laidMet_laidAll _ (by kernel_rfl) (by kernel_rfl))) ?_
  · intro ds h
    match ds, h with
    | [_d0, _d1], _ => exact ⟨rfl, rfl, rfl⟩
  · intro W base args ds before hval0 hA0 hlt hsz hL
    have hval : ∀ (j : Nat) t v, Tryd.f8.params[j]? = some t → args[j]? = some v → Value.okWide Tryd.prog W .any base t v := hval0
    have hA : DataW.TrodAll enc Tryd.prog W 0 (fun _ => true) true Tryd.f8.params.toList args.toList ds before := hA0
    clear hval0 hA0
    rw [Tryd.params8] at hA hval hsz
    obtain ⟨v0, vs0, d0, ds0, p0, q0, hargs, rfl, rfl, h0, r0⟩ := trodAll_cons hA
    obtain ⟨v1, vs1, d1, ds1, p1, q1, rfl, rfl, rfl, h1, r1⟩ := trodAll_cons r0
    obtain ⟨rfl, rfl, rfl⟩ := trodAll_nil r1
    obtain rfl : args = #[v0, v1] := by cases args; simp_all
    obtain ⟨a0, rfl, rfl, rfl, w0⟩ := open_int Tryd.underlying3 (hval 0 3 v0 rfl rfl) h0
    obtain ⟨a1, rfl, rfl, rfl, w1⟩ := open_int Tryd.underlying3 (hval 1 3 v1 rfl rfl) h1
    exact walk W a0 w0 a1 w1 hL

theorem over : Rows.eventDataRow.holds Tryd.pinned (OpenSpec.ofChange Rows.eventDataSpec) :=
  OpenClaim.holds_of_wide 8 Tryd.f8 rfl rfl rfl rfl rfl rfl rfl ⟨rfl, rfl, rfl, rfl, rfl⟩ rfl rfl rfl rfl rfl (by kernel_rfl) Tryd.func8 (by kernel_rfl)
    (of_decide_eq_true (by kernel_rfl)) (by unfold Func.isWrapper; first | (rw [if_pos (by decide +kernel)]; kernel_rfl) | (rw [if_neg (by decide +kernel)]; exact ⟨rfl, rfl⟩))
    (fun os started H enc _ => lifted os started H enc)

theorem proved : Rows.EventDataCardSaid :=
  Claim7.holds_tied_plain_at .later [] [.data, .data, .data, .data, .data] true Rows.eventDataCard.stood.harness false over (fun _ h => by cases h) (by kernel_rfl) (fun _ h => by cases h) eventData_row_tie rfl ⟨rfl, rfl⟩ (by kernel_rfl) rfl
    (fun f fn hf hfn => by
      obtain rfl : f = 8 := Option.some.inj ((show Tryd.prog.funcNamed Rows.eventDataRow.func = some 8 by kernel_rfl).symm.trans hf) |>.symm
      obtain rfl : fn = Tryd.f8 := (Option.some.inj (Tryd.func8.symm.trans hfn)).symm
      exact ⟨by kernel_rfl, fun j t ht => by
        rw [Tryd.params8] at ht
        have hm : t ∈ [3, 3] := by simpa using Array.mem_of_getElem? ht
        have hall : ([3, 3].all fun u => !Tryd.prog.wantsStandIn u) = true := by kernel_rfl
        exact (show Tryd.prog.wantsStandIn t = false by simpa using List.all_eq_true.1 hall t hm)⟩)
    (by kernel_rfl)
#print axioms proved
end Go.Proofs.YtfionfbokoamlaaDoor.eventData
