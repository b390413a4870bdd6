/-
  The document's own words on units: bytes are read: the walk.
-/
import Derived.Test.YthigcaakkjfghaaDoorPduPR1
import Derived.Test.YthigcaakkjfghaaDoorPduRAt
import Derived.Deep.DeepCutAuto
import Derived.Deep.CutBlock
import Derived.Test.YthigcaakkjfghaaDoorPduRef3
import Derived.Test.YthigcaakkjfghaaDoorPduRef5
import Derived.Test.YthigcaakkjfghaaDoorPduFew
namespace Go.Proofs.YthigcaakkjfghaaDoor.Pdu
open Go.ChangeShapes Go.WideShapes Go.RowKit Own

abbrev zeroR : Array Value := aggR 0 0 0 0 0 (.slice none 0 0) false ⟨#[]⟩
theorem info_refp : (Tryd.prog.info? 24).map (·.size) = some 8 := by kernel_rfl
theorem infoInt : Info .i64 3 8 := (by kernel_rfl : (Tryd.prog.info? 3).map (fun i => (i.zero, i.size, i.bytes)) = some (some (.int .i64 0), 1, 8))
/-- the three boxes of a reading: the answer's, the one of nothing, the unit's -/
structure PR (w0 w : World) (g : Nat) (cs : Array Value) : Prop where
  b0 : w.heap[g]? = some (.cells zeroR 24 (0, 0))
  b1 : w.heap[g + 1]? = some (.cells zeroR 24 (0, 0))
  b2 : w.heap[g + 2]? = some (.cells cs 24 (0, 0))
  bel : Below g w0 w
section
variable {w0 w w' : World} {g : Nat} {cs : Array Value}
theorem PR.lt (h : PR w0 w g cs) : g + 2 < w.heap.size := (Array.getElem?_eq_some_iff.1 h.b2).1
theorem PR.below (h : PR w0 w g cs) (hb : Below w.heap.size w w') : PR w0 w' g cs := by
  have hl := h.lt
  exact ⟨(hb.block g (by omega)).trans h.b0, (hb.block _ (by omega)).trans h.b1, (hb.block _ hl).trans h.b2, h.bel.trans (hb.mono (by omega))⟩
theorem PR.drewN (h : PR w0 w g cs) (n : Nat) : PR w0 (w.drewN n) g cs := h.below (below_drewN (Below.refl _ _) n)
theorem PR.above (h : PR w0 w g cs) (hb : Below (g + 3) w w') : PR w0 w' g cs :=
  ⟨(hb.block g (by omega)).trans h.b0, (hb.block _ (by omega)).trans h.b1, (hb.block _ (by omega)).trans h.b2, h.bel.trans (hb.mono (by omega))⟩
theorem PR.set (h : PR w0 w g cs) (i : Nat) (v : Value) : PR w0 (w.setCell ⟨g + 2, i, none⟩ v) g (cs.setIfInBounds i v) :=
  ⟨(heap_setCell_other _ _ _ _ (show g ≠ g + 2 by omega)).trans h.b0, (heap_setCell_other _ _ _ _ (show g + 1 ≠ g + 2 by omega)).trans h.b1, heap_setCell_same _ _ _ _ _ _ h.b2, h.bel.setCell (show g ≤ g + 2 by omega) _⟩
theorem PR.free (h : PR w0 w g cs) (i : Nat) : w.frozen? ⟨g + 2, i, none⟩ = false := frozen_of_row _ _ _ _ _ h.b2
end
section
variable {w0 w : World} {g : Nat} {k sq n ps mr : Int} {lv : Value} {sf : Bool} {d : ByteArray}
theorem PR.set1 (h : PR w0 w g (aggR k sq n ps mr lv sf d)) (x : Int) : PR w0 (w.setCell ⟨g + 2, 1, none⟩ (.int .i64 x)) g (aggR k x n ps mr lv sf d) := by have := h.set 1 (.int .i64 x); simpa using this
theorem PR.set3 (h : PR w0 w g (aggR k sq n ps mr lv sf d)) (x : Int) : PR w0 (w.setCell ⟨g + 2, 3, none⟩ (.int .i64 x)) g (aggR k sq n x mr lv sf d) := by have := h.set 3 (.int .i64 x); simpa using this
theorem PR.set4 (h : PR w0 w g (aggR k sq n ps mr lv sf d)) (x : Int) : PR w0 (w.setCell ⟨g + 2, 4, none⟩ (.int .i64 x)) g (aggR k sq n ps x lv sf d) := by have := h.set 4 (.int .i64 x); simpa using this
theorem PR.set5 (h : PR w0 w g (aggR k sq n ps mr lv sf d)) (v : Value) : PR w0 (w.setCell ⟨g + 2, 5, none⟩ v) g (aggR k sq n ps mr v sf d) := by have := h.set 5 v; simpa using this
theorem PR.set7 (h : PR w0 w g (aggR k sq n ps mr lv sf d)) (s : ByteArray) : PR w0 (w.setCell ⟨g + 2, 7, none⟩ (.string s)) g (aggR k sq n ps mr lv sf s) := by have := h.set 7 (.string s); simpa using this
end
theorem ownI_lit2 {τ : TypeId} {base : Nat} (w : World) (x y : Int) (hb : base ≤ w.heap.size) : OwnI .i64 τ (w.alloc (.cells #[.int .i64 x, .int .i64 y] τ)) base (.slice (some ⟨w.heap.size, 0, none⟩) 2 2) [x, y] :=
  ⟨rfl, .inr ⟨w.heap.size, 2, _, rfl, hb, heap_alloc_new w _, Nat.le_refl _, by simp [maxLen], rfl, rfl⟩⟩
theorem wd_pos (s : ByteArray) (j : Nat) : 0 ≤ wd s j := by unfold wd; omega
theorem ps_pos (s : ByteArray) (k : Nat) : 0 ≤ psR s k := by
  have := wd_pos s 1; have := wd_pos s 2
  unfold psR; split <;> (try split) <;> omega
theorem mr_pos (s : ByteArray) (k : Nat) : 0 ≤ mrR s k := by
  have := wd_pos s 1
  unfold mrR; split <;> omega
theorem lst_pos (s : ByteArray) (k : Nat) : ∀ z ∈ lstR s k, 0 ≤ z := by
  intro z hz
  unfold lstR at hz
  split at hz
  · unfold listR at hz
    obtain ⟨i, _, rfl⟩ := List.mem_map.1 hz
    exact wd_pos _ _
  · split at hz
    · simp at hz
      rcases hz with rfl | rfl <;> exact wd_pos _ _
    · simp at hz
theorem lst_len (s : ByteArray) (k : Nat) (h : s.size ≤ 100000) : (lstR s k).length ≤ 100000 := by
  unfold lstR; split
  · rw [listR_len]; omega
  · split <;> simp
theorem check_three (u : U) (k : Nat) (hk : u.kind = (k : Int)) (h1 : 1 ≤ k) (h2 : k ≤ 15) : checkU u = 0 ∨ checkU u = 1 ∨ checkU u = 6 := by
  have hkn : knownB u.kind = true := by rw [hk]; exact decide_eq_true ⟨by omega, by omega⟩
  unfold checkU
  rw [if_neg (by rw [hkn]; simp)]
  split
  · exact .inr (.inr rfl)
  · split
    · exact .inl rfl
    · exact .inr (.inl rfl)
theorem at_wd (s : ByteArray) (z : Int) (k : Nat) (w : World) (hz : z = (k : Int)) (hs : 4 * (k + 1) ≤ s.size) (hm : s.size ≤ 100000) :
    Calls Tryd.prog 59 #[.string s, .int .i64 z] w fun e w' => e = .returned (.int .i64 (wd s k)) ∧ ∃ n, w' = w.drewN n := by
  subst hz; exact at_any s k (s.size - 4 - 4 * k) w (by omega) hm

set_option maxRecDepth 100000 in
theorem rparse_short (s : ByteArray) (w : World) (h : s.size = 0 ∨ s.size % 4 ≠ 0) :
    Calls Tryd.prog 43 #[.string s] w fun e w' => e = .returned (told (.agg zeroR) 5) ∧ Below w.heap.size w w' := by
  by_cases h0 : s.size = 0
  · obtain rfl := empty_of h0
    go_enter Tryd.func43, Tryd.ntmps43
    go_wp2
    refine bodyPost_ret (results_row_tmp rfl _ _ w.heap.size 24 _ (0, 0) _ rfl (heap_alloc2_old w _ _) Tryd.underlying24 rfl info_refp) rfl ⟨rfl, ((Below.refl _ _).alloc (Nat.le_refl _) _).alloc (by simp) _⟩
  · have he := isEmpty_no h0
    have hm : ((s.size : Int) % 4 != 0) = true := by
      rw [bne_iff_ne]; omega
    clear h
    go_enter Tryd.func43, Tryd.ntmps43
    go_wp2
    refine bodyPost_ret (results_row_tmp rfl _ _ w.heap.size 24 _ (0, 0) _ rfl (heap_alloc2_old w _ _) Tryd.underlying24 rfl info_refp) rfl ⟨rfl, ((Below.refl _ _).alloc (Nat.le_refl _) _).alloc (by simp) _⟩


set_option maxRecDepth 100000 in
set_option maxHeartbeats 40000000 in
theorem rparse_zero (s : ByteArray) (w : World) (h0 : s.size ≠ 0) (h1 : s.size % 4 = 0) (hm : s.size ≤ 100000) (hkind : kindP s = 0) :
    Calls Tryd.prog 43 #[.string s] w fun e w' => Below w.heap.size w w' ∧ ((codeP s ≠ 0 ∧ e = .returned (told (.agg zeroR) (codeP s))) ∨ (codeP s = 0 ∧ ∃ lv, e = .returned (told ((unitP s).val .i64 lv) 0) ∧ OwnI .i64 3 w' w.heap.size lv (unitP s).list)) := by
  have he := isEmpty_no h0
  have hmz : ((s.size : Int) % 4 != 0) = false := by
    rw [bne_eq_false_iff_eq]; omega
  have h04 : 4 ≤ s.size := by omega
  have HC : Hid (1 ≤ kindP s → codeP s = if s.size / 4 < needN (kindP s) then 5 else if restN s (kindP s) < padP s then 5 else
    if checkU (unitR s (kindP s) (selfP s) (padP s)) = 6 then 6 else if bytesU (unitR s (kindP s) (selfP s) (padP s)) ≠ s then 3 else 0) := Lib.hid (code_R s h1 h04)
  have HUR : Hid (1 ≤ kindP s → needN (kindP s) ≤ s.size / 4 → unitP s = unitR s (kindP s) (selfP s) (padP s)) := Lib.hid (fun a b => unit_R s h1 h04 a b)
  have HC0 : Hid (kindP s = 0 → codeP s = 10) := Lib.hid (fun h => by unfold codeP; rw [if_neg (by omega), if_pos h])
  have HM := Lib.hid hm
  obtain ⟨f1, f2, f3, f4, f5, f6⟩ := word_facts s
  have hlw : wd s 0 = lastW s := by unfold lastW; rw [last_at s h04]
  have hn : nP s = lastW s % 16777216 := rfl
  have hsf : selfP s = (lastW s / 536870912 % 2 == 1) := rfl
  obtain ⟨b, hb⟩ : ∃ b : Nat, lastW s / 536870912 % 2 = (b : Int) := ⟨(lastW s / 536870912 % 2).toNat, by omega⟩
  rw [hb] at hsf
  obtain ⟨X, hX⟩ : ∃ X, lastW s = X := ⟨_, rfl⟩
  rw [hX] at f1 f2 f3 f5 hn hb hlw
  obtain ⟨k, hk⟩ : ∃ k, kindP s = k := ⟨_, rfl⟩
  obtain ⟨pd, hpd⟩ : ∃ pd, padP s = pd := ⟨_, rfl⟩
  obtain ⟨sf, hsf2⟩ : ∃ sf, selfP s = sf := ⟨_, rfl⟩
  obtain ⟨N0, hn0⟩ : ∃ N0, nP s = N0 := ⟨_, rfl⟩
  obtain ⟨m, hm4⟩ : ∃ m, s.size / 4 = m := ⟨_, rfl⟩
  have HSZ : Hid (s.size = 4 * m) := Lib.hid (by omega)
  rw [hk] at f3 f4 HC HUR HC0
  rw [hpd] at f5 f6 HC HUR
  rw [hsf2] at hsf HC HUR
  rw [hn0] at hn
  rw [hm4] at HC HUR
  have hszm : (s.size : Int) / 4 = (m : Int) := by omega
  have hmb : (m : Int) ≤ 25000 := by omega
  have HN := Lib.hid hn
  have HN0 := Lib.hid hn0
  have HSF := Lib.hid hsf
  have HSF2 := Lib.hid hsf2
  have HK := Lib.hid hk
  have HPD := Lib.hid hpd
  have HLW := Lib.hid hlw
  have HK16 := Lib.hid f3
  have HPDX := Lib.hid f5
  have HB2 := Lib.hid hb
  have e1 : X / 16777216 % 16 = (k : Int) := f3.symm
  have e2 : X % 16777216 = N0 := hn.symm
  have e3 : X / 536870912 % 2 = (b : Int) := hb
  have e4 : X / 1073741824 = (pd : Int) := f5.symm
  have HM4 := Lib.hid hm4
  rw [hk] at hkind
  have HKIND := Lib.hid hkind
  clear hkind hm h0 h1 hn hn0 hsf hsf2 hk hpd hX hlw f3 f5 hb hm4
  go_enter Tryd.func43, Tryd.ntmps43
  go_upto_region 7 with (go_at_call 59; refine (at_wd s _ 0 _ rfl h04 HM.out).mono ?_; rintro e w' ⟨rfl, nw, rfl⟩; rw [HLW.out])
  rw [e4, ← HSF.out]
  have HP0 : Hid (PR w ((((w.alloc (.cells zeroR 24)).alloc (.cells zeroR 24)).drewN nw).alloc (.cells (aggR (k : Int) 0 N0 0 0 (.slice none 0 0) sf ⟨#[]⟩) 24)) w.heap.size (aggR (k : Int) 0 N0 0 0 (.slice none 0 0) sf ⟨#[]⟩)) := Lib.hid (by
    have hs : (((w.alloc (.cells zeroR 24)).alloc (.cells zeroR 24)).drewN nw).heap.size = w.heap.size + 2 := by
      show ((w.alloc _).alloc _).heap.size = _; simp
    have hb : Below (w.heap.size + 2) ((w.alloc (.cells zeroR 24)).alloc (.cells zeroR 24)) ((((w.alloc (.cells zeroR 24)).alloc (.cells zeroR 24)).drewN nw).alloc (.cells (aggR (k : Int) 0 N0 0 0 (.slice none 0 0) sf ⟨#[]⟩) 24)) :=
      (below_drewN (Below.refl _ _) nw).alloc (by rw [hs]; exact Nat.le_refl _) _
    refine ⟨(hb.block _ (by omega)).trans (heap_alloc2_old w _ _), (hb.block _ (by omega)).trans (heap_alloc2_new w _ _), ?_, (((Below.refl _ _).alloc (Nat.le_refl _) _).alloc (by simp) _).trans (hb.mono (by omega))⟩
    rw [← hs]; exact heap_alloc_new _ _)
  generalize ((((w.alloc (.cells zeroR 24)).alloc (.cells zeroR 24)).drewN nw).alloc (.cells (aggR (k : Int) 0 N0 0 0 (.slice none 0 0) sf ⟨#[]⟩) 24)) = W0 at *
  generalize hgg : w.heap.size = g at *
  have HG := Lib.hid hgg
  clear hgg e1 e2 e3 e4 f1 f2 nw
  have hg2 : g + 1 + 1 = g + 2 := rfl
  rw [hg2]
  clear hg2
  have k0 : W0.cell? ⟨g + 2, 0, none⟩ = some (.int .i64 (k : Int)) := Go.Joins.cell_of_block HP0.out.b2 0
  have hkind := HKIND.out
  clear HKIND
  subst hkind
  have HCO := Lib.hid (HC0.out rfl)
  clear HC HC0 HUR
  go_wp2_with (first | (refine wpList_load_row rfl 24 _ rfl (g + 1) rfl 24 zeroR (0, 0) _ HP0.out.b1 Tryd.underlying24 rfl info_refp ?_) | (refine wpList_store_row rfl 24 _ _ rfl g zeroR rfl rfl 24 _ HP0.out.b0 info_refp rfl (by simp [Value.oneCell']) ?_))
  refine bodyPost_ret (results_row_tmp rfl _ _ g 24 _ (0, 0) _ rfl (setRow_heap _ _ _ _ 24 (0, 0) HP0.out.b0) Tryd.underlying24 rfl info_refp) rfl ⟨by rw [HG.out]; exact below_setRow HP0.out.bel (Nat.le_refl _) _, .inl ⟨by rw [HCO.out]; decide, by rw [HCO.out]; rfl⟩⟩

end Go.Proofs.YthigcaakkjfghaaDoor.Pdu
