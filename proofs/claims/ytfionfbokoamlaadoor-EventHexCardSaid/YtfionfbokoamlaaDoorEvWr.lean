/-
  Events: is a word written as bytes are?
-/
import Derived.Test.YtfionfbokoamlaaDoorEvUn2
import Derived.Test.YtfionfbokoamlaaDoorOwnB
namespace Go.Proofs.YtfionfbokoamlaaDoor.Ev
open Go.ChangeShapes Go.WideShapes Go.RowKit Own

def wrS (s : ByteArray) : Bool := decide (s = ⟨#[45]⟩) || (s.data.toList.all isDig && (decide (s.size ≠ 0) && decide (s.size % 2 = 0)))
theorem wr_none (s : ByteArray) (h : unS s = none) : wrS s = false := by
  unfold unS at h
  unfold wrS
  split at h
  · cases h
  · rename_i hq
    rw [decide_eq_false hq, Bool.false_or]
    split at h
    · rename_i h0
      by_cases h1 : s.size = 0
      · simp [h1]
      · have : s.size % 2 ≠ 0 := by omega
        simp [this]
    · rename_i h0
      have hl : s.data.toList.length = s.size := rfl
      rw [un_none s.data.toList (by omega) h, Bool.false_and]
theorem conv_run (w : World) (s : ByteArray) : (convert 9 43 (.string s)).run Tryd.prog w = .ok (.slice (some ⟨w.heap.size, 0, none⟩) s.size (grownCap w s.size 0 5)) (w.drew.alloc (.cells (bytesRow s (grownCap w s.size 0 5)) 5 ((bytesRow s (grownCap w s.size 0 5)).size, (bytesRow s (grownCap w s.size 0 5)).size + 1))) :=
  run_bytes_of_string w _ _ _ s Tryd.underlying9 Tryd.underlying43 Tryd.underlying5
theorem isDig_int (b : UInt8) : isDig b = ((decide (48 ≤ (b.toNat : Int)) && decide ((b.toNat : Int) ≤ 57)) || (decide (97 ≤ (b.toNat : Int)) && decide ((b.toNat : Int) ≤ 102))) := by
  unfold isDig
  rw [Bool.eq_iff_iff]
  simp only [Bool.or_eq_true, Bool.and_eq_true, decide_eq_true_eq]
  omega
theorem all_snoc (s : ByteArray) (k : Nat) (h : k < s.size) : (s.data.toList.take (k + 1)).all isDig = ((s.data.toList.take k).all isDig && isDig s[k]) := by
  rw [List.take_succ_eq_append_getElem (by simpa using h), List.all_append]
  simp
  rfl
theorem all_take (s : ByteArray) (k : Nat) (h : (s.data.toList.take k).all isDig = false) : s.data.toList.all isDig = false := by
  rw [← List.take_append_drop k s.data.toList, List.all_append, h, Bool.false_and]

theorem wr_any (s : ByteArray) (w : World) (hs : s.size ≤ 10000) :
    Calls Tryd.prog 19 #[.string s] w fun e w' => e = .returned (.bool (wrS s)) ∧ Below w.heap.size w w' := by
  have hd0 := toList_dash s
  have hd1 := toList_nil s
  by_cases hq : s = ⟨#[45]⟩
  · rw [decide_eq_true hq] at hd0
    unfold wrS
    rw [decide_eq_true hq, Bool.true_or]
    clear hq hd1
    go_enter Tryd.func19, Tryd.ntmps19
    go_wp2_with fail
    go_ret
    exact ⟨rfl, Below.refl _ _⟩
  rw [decide_eq_false hq] at hd0
  have HW : Hid (wrS s = (s.data.toList.all isDig && (decide (s.size ≠ 0) && decide (s.size % 2 = 0)))) := Lib.hid (by unfold wrS; rw [decide_eq_false hq, Bool.false_or])
  have hcv := conv_run w s
  have hown := ownB_conv w s w.heap.size (Nat.le_refl _) (by unfold maxLen; omega)
  have hbl : Below w.heap.size w (w.drew.alloc (.cells (bytesRow s (grownCap w s.size 0 5)) 5 ((bytesRow s (grownCap w s.size 0 5)).size, (bytesRow s (grownCap w s.size 0 5)).size + 1))) := ((Below.refl _ _).drew).alloc (by simp) _
  obtain ⟨a, cap, e, _, hr⟩ := hown.form
  have hl : (s.data.toList.map fun b => (b.toNat : Int)).length = s.size := by rw [List.length_map]; rfl
  have hcell : ∀ (k : Nat) (h : k < s.size), (w.drew.alloc (.cells (bytesRow s (grownCap w s.size 0 5)) 5 ((bytesRow s (grownCap w s.size 0 5)).size, (bytesRow s (grownCap w s.size 0 5)).size + 1))).cell? ⟨w.heap.size, k, none⟩ = some (.int .u8 ((s[k]'h).toNat : Int)) := by
    intro k h
    simp only [Value.slice.injEq] at e
    obtain ⟨rfl, _, _⟩ := e
    rw [hl] at hr
    obtain ⟨b, off, e2, _, hc⟩ := hr.at_ h
    cases e2
    have h3 : (s.data.toList.map fun b => (b.toNat : Int)).getD k 0 = ((s[k]'h).toNat : Int) := by
      have h4 : k < s.data.toList.length := h
      simp only [List.getD, List.getElem?_map, List.getElem?_eq_getElem h4, Option.map_some, Option.getD_some]
      rfl
    rw [h3, Nat.zero_add] at hc
    exact hc
  clear hown hr e
  generalize grownCap w s.size 0 5 = C at *
  generalize w.drew.alloc (.cells (bytesRow s C) 5 ((bytesRow s C).size, (bytesRow s C).size + 1)) = W at *
  have HCELL := Lib.hid hcell
  have HQ := Lib.hid hq
  clear hcell hl hq
  go_enter Tryd.func19, Tryd.ntmps19
  go_wp2_with fail
  go_loop [4, 10] (fun _ i => ∃ k : Nat, k ≤ s.size ∧ i = .int .i64 k ∧ Hid ((s.data.toList.take k).all isDig = true)) (fun _ i => s.size - (intOf i).toNat)
  case atStart => exact ⟨0, by omega, rfl, Lib.hid rfl⟩
  case round =>
    obtain ⟨k, hk, rfl, HA⟩ := hrel
    by_cases hlt : k < s.size
    · have hc := HCELL.out k hlt
      have hall := all_snoc s k hlt
      obtain ⟨x, hx⟩ : ∃ x, s[k]'hlt = x := ⟨_, rfl⟩
      rw [hx] at hc hall
      rw [HA.out, Bool.true_and, isDig_int] at hall
      have HALL := Lib.hid hall
      have HLT := Lib.hid hlt
      clear hall hx hk
      go_wp2_with fail
      all_goals first
        | (go_ret
           refine ⟨ret_bool ?_, hbl⟩
           rw [HW.out, all_take s (k + 1) (by rw [HALL.out]; simp; omega), Bool.false_and])
        | (go_round
           case rel => exact ⟨k + 1, HLT.out, by go_num, Lib.hid (by rw [HALL.out]; simp; omega)⟩
           case measure => simp [intOf]; have := HLT.out; omega)
    · obtain rfl : k = s.size := by omega
      have hall := HA.out
      rw [List.take_of_length_le (show s.data.toList.length ≤ s.size from Nat.le_refl _)] at hall
      have HALL := Lib.hid hall
      clear hall hk hlt
      by_cases h0 : s.size = 0
      · rw [decide_eq_true h0] at hd1
        have hw0 : wrS s = false := by rw [HW.out]; simp [h0]
        have HW0 := Lib.hid hw0
        clear hw0 h0
        go_wp2_with fail
        all_goals first
          | (go_ret; exact ⟨ret_bool (by first | exact HW0.out.symm | decide), hbl⟩)
          | (exfalso; simp_all; done)
      · rw [decide_eq_false h0] at hd1
        have ht : (s.size : Int).tmod 2 = ((s.size % 2 : Nat) : Int) := by rw [Int.tmod_eq_emod_of_nonneg (by omega)]; omega
        have hw0 : wrS s = decide (s.size % 2 = 0) := by rw [HW.out, HALL.out]; simp [h0]
        have HW0 := Lib.hid hw0
        have hm2 : s.size % 2 = 0 ∨ s.size % 2 = 1 := by omega
        clear hw0 h0
        rcases hm2 with h2 | h2
        all_goals
          rw [h2] at ht
          have H2 := Lib.hid h2
          clear h2
          go_wp2_with fail
          all_goals go_ret
          all_goals exact ⟨ret_bool (by rw [HW0.out, H2.out]; first | rfl | (have := H2.out; simp; omega)), hbl⟩
end Go.Proofs.YtfionfbokoamlaaDoor.Ev
