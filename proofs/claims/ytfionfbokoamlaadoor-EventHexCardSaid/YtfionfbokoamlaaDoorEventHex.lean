/-
  EventHex is proved: bytes are written as the document says, and read back, and no other word is any; for every input the law returns true.
-/
import Derived.Test.YtfionfbokoamlaaDoorLaid
import Derived.Test.YtfionfbokoamlaaDoorCards
import Derived.Test.YtfionfbokoamlaaDoorEvWr
namespace Go.Proofs.YtfionfbokoamlaaDoor.eventHex
open Go.ChangeShapes Go.WideShapes Go.ChangeAt Go.RowKit
set_option linter.unusedVariables false      -- a walk need not use every bound of an argument

open Ev
theorem un_hexS (s : ByteArray) : unS (hexS s) = some s.data.toList := by
  by_cases h : s.size = 0
  · have hl : s.data.toList = [] := List.eq_nil_of_length_eq_zero h
    unfold hexS
    rw [if_pos h, hl]
    rfl
  · have hpos : 0 < s.size := by omega
    have hl : s.data.toList.length = s.size := rfl
    have hL : (hexL s.data.toList).length = 2 * s.size := by rw [hexL_length, hl]
    unfold hexS
    rw [if_neg h]
    unfold unS
    rw [if_neg (by
      intro e
      have h1 := congrArg ByteArray.size e
      have h2 : (⟨(hexL s.data.toList).toArray⟩ : ByteArray).size = 2 * s.size := hL
      rw [h2] at h1
      have h3 : (⟨#[45]⟩ : ByteArray).size = 1 := rfl
      omega), if_neg (by
      have h2 : (⟨(hexL s.data.toList).toArray⟩ : ByteArray).size = 2 * s.size := hL
      rw [h2]; omega)]
    exact un_hex _
theorem back_eq (s : ByteArray) : unV (hexS s) = s ∧ unB (hexS s) = true := by
  unfold unV unB
  rw [un_hexS]
  exact ⟨rfl, rfl⟩
theorem word_some (w : ByteArray) (h : unB w = true) : hexS (unV w) = w := by
  unfold unB at h
  unfold unV
  obtain ⟨t, ht⟩ := Option.isSome_iff_exists.1 h
  rw [ht]
  unfold unS at ht
  split at ht
  · rename_i hq; cases ht; rw [hq]; rfl
  · split at ht
    · cases ht
    · rename_i hq h0
      have h1 := hex_un _ _ ht
      have hl : w.data.toList.length = w.size := rfl
      have hL := hexL_length t
      rw [h1, hl] at hL
      show hexS ⟨t.toArray⟩ = w
      unfold hexS
      rw [if_neg (show ¬ (⟨t.toArray⟩ : ByteArray).size = 0 from show ¬ t.length = 0 by omega)]
      show (⟨(hexL t).toArray⟩ : ByteArray) = w
      rw [h1]
theorem word_size (w : ByteArray) (h : unB w = true) : (unV w).size ≤ w.size := by
  have e := word_some w h
  have e2 := congrArg ByteArray.size e
  unfold hexS at e2
  split at e2
  · omega
  · have h2 : (⟨(hexL (unV w).data.toList).toArray⟩ : ByteArray).size = 2 * (unV w).size := hexL_length _
    omega
theorem word_none (w : ByteArray) (h : unB w = false) : unV w = ⟨#[]⟩ ∧ wrS w = false := by
  unfold unB at h
  have hn : unS w = none := by cases hu : unS w <;> simp_all
  exact ⟨by unfold unV; rw [hn]; rfl, wr_none w hn⟩
set_option maxRecDepth 100000 in
theorem walk (w : World) (a0 : ByteArray) (w0 : a0.size ≤ 140737488351232) (a1 : ByteArray) (w1 : a1.size ≤ 140737488351232) (hL : laidMetH Tryd.prog Rows.eventHexRow.laid w) :
    Calls Tryd.prog 6 #[.string a0, .string a1] w fun e w' => e = .returned (.bool true) ∧ Below w.heap.size w w' := by
  have HT := Lib.hid (tabs_laid (by kernel_rfl) hL (by simp [Rows.eventHexRow]) (by simp [Rows.eventHexRow]) (by simp [Rows.eventHexRow]))
  clear hL w0 w1
  obtain ⟨s, hs⟩ : ∃ s, cutL a0 100 = s := ⟨_, rfl⟩
  obtain ⟨d, hd⟩ : ∃ d, cutL a1 100 = d := ⟨_, rfl⟩
  have HSZ : Hid (s.size ≤ 10000) := Lib.hid (by rw [← hs]; exact Nat.le_trans (cutL_le a0 100).1 (by decide))
  have HDZ : Hid (d.size ≤ 10000) := Lib.hid (by rw [← hd]; exact Nat.le_trans (cutL_le a1 100).1 (by decide))
  have HS := Lib.hid hs
  have HD := Lib.hid hd
  clear hs hd
  go_enter Tryd.func6, Tryd.ntmps6
  go_wp2_with fail
  refine (awake_any _ HT.out).mono ?_; rintro e w1 ⟨rfl, hb1⟩
  go_wp2_with fail
  refine (cut_any a0 _ 100 _ rfl).mono ?_; rintro e w2 ⟨rfl, rfl⟩
  rw [HS.out]
  go_wp2_with fail
  refine (cut_any a1 _ 100 _ rfl).mono ?_; rintro e w2 ⟨rfl, rfl⟩
  rw [HD.out]
  have hs1 := hb1.size
  go_wp2_with fail
  refine (hex_any s _ HSZ.out).mono ?_; rintro e w2 ⟨rfl, hb2⟩
  have hbA := hb1.trans (hb2.mono hs1)
  have hsA := hbA.size
  obtain ⟨H, hH⟩ : ∃ H, hexS s = H := ⟨_, rfl⟩
  have HH := Lib.hid hH
  rw [hH]
  have hHs : H.size ≤ 10000 := by
    have h1 := HSZ.out
    have h2 : s.size ≤ 100 := by rw [← HS.out]; exact (cutL_le a0 100).1
    rw [← hH]
    unfold hexS
    split
    · decide
    · show (hexL s.data.toList).length ≤ 10000
      rw [hexL_length]
      have : s.data.toList.length = s.size := rfl
      omega
  have HHS := Lib.hid hHs
  have hbk := back_eq s
  rw [hH] at hbk
  have HBK := Lib.hid hbk
  clear hb1 hb2 hs1 hH hHs hbk
  go_wp2_with fail
  refine (un_any H _ HHS.out).mono ?_; rintro e w3 ⟨rfl, hb3⟩
  rw [HBK.out.1, HBK.out.2]
  have hbB := hbA.trans (hb3.mono hsA)
  have hsB := hbB.size
  clear hbA hb3 hsA
  go_wp2_with fail
  refine (un_any d _ HDZ.out).mono ?_; rintro e w4 ⟨rfl, hb4⟩
  have hbC := hbB.trans (hb4.mono hsB)
  have hsC := hbC.size
  clear hbB hb4 hsB
  obtain ⟨t, ht⟩ : ∃ t, unV d = t := ⟨_, rfl⟩
  obtain ⟨b, hb⟩ : ∃ b, unB d = b := ⟨_, rfl⟩
  rw [ht, hb]
  have HTV := Lib.hid ht
  have HBV := Lib.hid hb
  clear ht hb
  go_wp2_with fail
  refine (hex_any s _ HSZ.out).mono ?_; rintro e w5 ⟨rfl, hb5⟩
  rw [HH.out]
  have hbD := hbC.trans (hb5.mono hsC)
  have hsD := hbD.size
  clear hbC hb5 hsC
  go_wp2_with fail
  refine (rhex_any s _ HSZ.out).mono ?_; rintro e w6 ⟨rfl, hb6⟩
  rw [HH.out]
  have hbE := hbD.trans (hb6.mono hsD)
  have hsE := hbE.size
  clear hbD hb6 hsD
  have e1 : (H.toList == H.toList) = true := beq_self_eq_true _
  have e2 : (s.toList == s.toList) = true := beq_self_eq_true _
  have e3 : (d.toList == d.toList) = true := beq_self_eq_true _
  cases b
  · have hn := word_none d HBV.out
    rw [HTV.out] at hn
    have HN2 := Lib.hid hn.2
    obtain rfl := hn.1
    have e4 : ((⟨#[]⟩ : ByteArray).toList == []) = true := by rw [toList_nil]; rfl
    clear hn
    go_wp2_with fail
    refine (wr_any d _ HDZ.out).mono ?_; rintro e w7 ⟨rfl, hb7⟩
    rw [HN2.out]
    have hbF := hbE.trans (hb7.mono hsE)
    clear hbE hb7
    go_wp2_with fail
    go_ret
    exact ⟨rfl, hbF⟩
  · have hn := word_some d HBV.out
    have hz := word_size d HBV.out
    rw [HTV.out] at hn hz
    have HN := Lib.hid hn
    have HZ : Hid (t.size ≤ 10000) := Lib.hid (by have := HDZ.out; omega)
    clear hn hz
    go_wp2_with fail
    refine (hex_any t _ HZ.out).mono ?_; rintro e w7 ⟨rfl, hb7⟩
    rw [HN.out]
    have hbF := hbE.trans (hb7.mono hsE)
    clear hbE hb7
    go_wp2_with fail
    go_ret
    exact ⟨rfl, hbF⟩

theorem own : ownKnob Tryd.prog.godebug = none := by kernel_rfl
theorem laidOut : laidOutB Tryd.prog = true := by kernel_rfl

set_option maxRecDepth 100000 in
theorem lifted (os : Os) (started : os.Started) (H : Type) (enc : TypeId × Value → H) :
    ReturnsInHanded {} Tryd.checked os 6 .any (fun w args => (Rows.eventHexSpec.pre enc Tryd.prog Tryd.f6 Rows.eventHexRow.domain false w args ∧ laidMetH Tryd.prog Rows.eventHexRow.laid w) ∧ sizedMet enc Tryd.prog Tryd.f6 (OpenSpec.ofChange Rows.eventHexSpec) false w args) (Rows.eventHexSpec.post enc Tryd.prog Tryd.f6 false true false false) := by
  refine Base.law_laid (C := Tryd.checked) own started (by kernel_rfl) Tryd.func6 laidOut (by kernel_rfl) rfl Tryd.underlying4 rfl ?_
    (Base.laid_witness #[.string ⟨#[]⟩, .string ⟨#[]⟩] (World.shaped_of_ZipB (by kernel_rfl) (by kernel_rfl)) (by kernel_rfl) (by kernel_rfl) (by kernel_rfl) (by rw [MakeChecks.laidMetH_plain _ _ _ (by kernel_rfl)]; exact laidMet_laidAll _ (by kernel_rfl) (by kernel_rfl))) ?_
  · intro ds h
    match ds, h with
    | [_d0, _d1], _ => exact ⟨rfl, rfl, rfl⟩
  · intro W base args ds before hval0 hA0 hlt hsz hL
    have hval : ∀ (j : Nat) t v, Tryd.f6.params[j]? = some t → args[j]? = some v → Value.okWide Tryd.prog W .any base t v := hval0
    have hA : DataW.TrodAll enc Tryd.prog W 0 (fun _ => true) true Tryd.f6.params.toList args.toList ds before := hA0
    clear hval0 hA0
    rw [Tryd.params6] at hA hval hsz
    obtain ⟨v0, vs0, d0, ds0, p0, q0, hargs, rfl, rfl, h0, r0⟩ := trodAll_cons hA
    obtain ⟨v1, vs1, d1, ds1, p1, q1, rfl, rfl, rfl, h1, r1⟩ := trodAll_cons r0
    obtain ⟨rfl, rfl, rfl⟩ := trodAll_nil r1
    obtain rfl : args = #[v0, v1] := by cases args; simp_all
    obtain ⟨a0, rfl, rfl, rfl, _⟩ := Go.ChangeMaps.open_string Tryd.underlying9 (hval 0 9 v0 rfl rfl) h0
    have w0 : a0.size ≤ 140737488351232 := by have := sized_string hsz (j := 0) rfl rfl; simpa [reachBytes] using this
    obtain ⟨a1, rfl, rfl, rfl, _⟩ := Go.ChangeMaps.open_string Tryd.underlying9 (hval 1 9 v1 rfl rfl) h1
    have w1 : a1.size ≤ 140737488351232 := by have := sized_string hsz (j := 1) rfl rfl; simpa [reachBytes] using this
    exact walk W a0 w0 a1 w1 hL

theorem over : Rows.eventHexRow.holds Tryd.pinned (OpenSpec.ofChange Rows.eventHexSpec) :=
  OpenClaim.holds_of_wide 6 Tryd.f6 rfl rfl rfl rfl rfl rfl rfl ⟨rfl, rfl, rfl, rfl, rfl⟩ rfl rfl rfl rfl rfl (by kernel_rfl) Tryd.func6 (by kernel_rfl)
    (of_decide_eq_true (by kernel_rfl)) (by unfold Func.isWrapper; first | (rw [if_pos (by decide +kernel)]; kernel_rfl) | (rw [if_neg (by decide +kernel)]; exact ⟨rfl, rfl⟩))
    (fun os started H enc _ => lifted os started H enc)

theorem proved : Rows.EventHexCardSaid :=
  Claim7.holds_tied_plain_at .later [] [.data, .data, .data, .data, .data] true Rows.eventHexCard.stood.harness false over (fun _ h => by cases h) (by kernel_rfl) (fun _ h => by cases h) eventHex_row_tie rfl ⟨rfl, rfl⟩ (by kernel_rfl) rfl
    (fun f fn hf hfn => by
      obtain rfl : f = 6 := Option.some.inj ((show Tryd.prog.funcNamed Rows.eventHexRow.func = some 6 by kernel_rfl).symm.trans hf) |>.symm
      obtain rfl : fn = Tryd.f6 := (Option.some.inj (Tryd.func6.symm.trans hfn)).symm
      exact ⟨by kernel_rfl, fun j t ht => by
        rw [Tryd.params6] at ht
        have hm : t ∈ [9, 9] := by simpa using Array.mem_of_getElem? ht
        have hall : ([9, 9].all fun u => !Tryd.prog.wantsStandIn u) = true := by kernel_rfl
        exact (show Tryd.prog.wantsStandIn t = false by simpa using List.all_eq_true.1 hall t hm)⟩)
    (by kernel_rfl)
#print axioms proved
end Go.Proofs.YtfionfbokoamlaaDoor.eventHex
