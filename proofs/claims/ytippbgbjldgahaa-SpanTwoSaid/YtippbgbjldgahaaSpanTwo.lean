/-
  SpanTwo is proved: what is in both of two sets, and whether they are the same, is as the document says; for every input the law returns true.
-/
import Derived.Test.YtippbgbjldgahaaBase
import Derived.Test.YtippbgbjldgahaaLaw03Kit
import Derived.Test.YtippbgbjldgahaaSpanSame
import Derived.Test.YtippbgbjldgahaaSpanBoth
namespace Go.Proofs.Ytippbgbjldgahaa.spanTwo
open Go.ChangeShapes Go.WideShapes Go.ChangeAt Go.RowKit
set_option linter.unusedVariables false      -- a walk need not use every bound of an argument

open SpanMath View SpanCalls Law03 Ref

set_option maxHeartbeats 2000000 in
theorem walk (w : World) (v0 : Value) (D : List (Int × Int)) (w0 : Base.Pairs w v0 D) (v1 : Value) (E : List (Int × Int)) (w1 : Base.Pairs w v1 E) :
    Calls Try.prog 5 #[v0, v1] w fun e w' => e = .returned (.bool true) ∧ Below w.heap.size w w' := by
  obtain ⟨a, n, cap, rfl, hf, hr⟩ := rd_pairs w0
  obtain ⟨a', n', cap', rfl, hf', hr'⟩ := rd_pairs w1
  obtain ⟨S, hS, hsm⟩ := few_set D
  obtain ⟨T, hT, htm⟩ := few_set E
  have HS := Lib.hid hS
  have HSM := Lib.hid hsm
  have HT := Lib.hid hT
  have HTM := Lib.hid htm
  have HD1 := Lib.hid (hr)
  have HE2 := Lib.hid (hr')
  have HB3 : Hid (Below w.heap.size w w) := Lib.hid (Below.refl _ _)
  clear w0 w1 hr hr' hf hf' hS hsm hT htm
  go_enter Try.func5, Try.ntmps5
  go_wp2_with fail
  refine (awake_any _).mono ?_; rintro e x1 ⟨rfl, hb1⟩
  have HD4 := Lib.hid (HD1.out.below hb1)
  clear HD1
  have HE5 := Lib.hid (HE2.out.below hb1)
  clear HE2
  have HB6 := Lib.hid (HB3.out.trans (hb1.mono HB3.out.size))
  clear HB3
  go_wp2_with fail
  refine (few_any _ _ _ D _ HD4.out).mono ?_; rintro e x2 ⟨vp, up, Ap, rfl, hop, hup, hjp, hb2⟩
  have HJp := Lib.hid hjp
  have HLTp : Hid (∀ k, Value.ownBlock vp = some k → k < x2.heap.size) := Lib.hid (fun k hk => (hop.lt k hk).2)
  obtain ⟨aps, nps, cps, rfl, hfps, hrps⟩ := hop.form
  obtain ⟨api, npi, cpi, rfl, hfpi, hrpi⟩ := hup.form
  have hnps : nps ≤ 12 := by rw [hrps.1]; exact fewL_len D
  have hnpi : npi ≤ 200 := by rw [hrpi.1]; exact just_len hjp (fun z hz => inSp_few D z hz)
  have HFps := Lib.hid hfps
  have HFpi := Lib.hid hfpi
  clear hfps hfpi hjp
  have HD7 := Lib.hid (HD4.out.below hb2)
  clear HD4
  have HE8 := Lib.hid (HE5.out.below hb2)
  clear HE5
  have HB9 := Lib.hid (HB6.out.trans (hb2.mono HB6.out.size))
  clear HB6
  have HRps11 := Lib.hid (hrps)
  have HRpi12 := Lib.hid (hrpi)
  have HUp13 := Lib.hid (hup)
  clear hrps hrpi hup hop
  go_wp2_with fail
  refine (few_any _ _ _ E _ HE8.out).mono ?_; rintro e x3 ⟨vq, uq, Aq, rfl, hoq, huq, hjq, hb3⟩
  have HJq := Lib.hid hjq
  have HLTq : Hid (∀ k, Value.ownBlock vq = some k → k < x3.heap.size) := Lib.hid (fun k hk => (hoq.lt k hk).2)
  obtain ⟨aqs, nqs, cqs, rfl, hfqs, hrqs⟩ := hoq.form
  obtain ⟨aqi, nqi, cqi, rfl, hfqi, hrqi⟩ := huq.form
  have hnqs : nqs ≤ 12 := by rw [hrqs.1]; exact fewL_len E
  have hnqi : nqi ≤ 200 := by rw [hrqi.1]; exact just_len hjq (fun z hz => inSp_few E z hz)
  have HFqs := Lib.hid hfqs
  have HFqi := Lib.hid hfqi
  clear hfqs hfqi hjq
  have HD14 := Lib.hid (HD7.out.below hb3)
  clear HD7
  have HE15 := Lib.hid (HE8.out.below hb3)
  clear HE8
  have HRps16 := Lib.hid (HRps11.out.below hb3)
  clear HRps11
  have HRpi17 := Lib.hid (HRpi12.out.below hb3)
  clear HRpi12
  have HUp18 := Lib.hid (HUp13.out.below hb3)
  clear HUp13
  have HB19 := Lib.hid (HB9.out.trans (hb3.mono HB9.out.size))
  clear HB9
  have HRqs21 := Lib.hid (hrqs)
  have HRqi22 := Lib.hid (hrqi)
  have HUq23 := Lib.hid (huq)
  clear hrqs hrqi huq hoq
  have HA : Hid (nums S = Ap) := Lib.hid (just_nums HS.out HJp.out)
  have HB : Hid (nums T = Aq) := Lib.hid (just_nums HT.out HJq.out)
  clear HD14
  clear HE15
  go_wp2_with fail
  refine (of_any aps nps cps (fewL D) S _ HRps16.out HFps.out (few_near D) HS.out).mono ?_; rintro e x4 ⟨vg1, rfl, hog1, hb4⟩
  obtain ⟨ag1, ng1, cg1, rfl, hfg1, hrg1⟩ := hog1.form
  have hng1 : ng1 ≤ 1000 := by rw [hrg1.1]; exact HSM.out.1
  have HFg1 := Lib.hid hfg1
  clear hfg1
  have HRps24 := Lib.hid (HRps16.out.below hb4)
  clear HRps16
  have HRpi25 := Lib.hid (HRpi17.out.below hb4)
  clear HRpi17
  have HUp26 := Lib.hid (HUp18.out.below hb4)
  clear HUp18
  have HRqs27 := Lib.hid (HRqs21.out.below hb4)
  clear HRqs21
  have HRqi28 := Lib.hid (HRqi22.out.below hb4)
  clear HRqi22
  have HUq29 := Lib.hid (HUq23.out.below hb4)
  clear HUq23
  have HB30 := Lib.hid (HB19.out.trans (hb4.mono HB19.out.size))
  clear HB19
  have HRg131 := Lib.hid (hrg1)
  clear hrg1 hog1
  go_wp2_with fail
  refine (of_any aqs nqs cqs (fewL E) T _ HRqs27.out HFqs.out (few_near E) HT.out).mono ?_; rintro e x5 ⟨vg2, rfl, hog2, hb5⟩
  obtain ⟨ag2, ng2, cg2, rfl, hfg2, hrg2⟩ := hog2.form
  have hng2 : ng2 ≤ 1000 := by rw [hrg2.1]; exact HTM.out.1
  have HFg2 := Lib.hid hfg2
  clear hfg2
  have HRps32 := Lib.hid (HRps24.out.below hb5)
  clear HRps24
  have HRpi33 := Lib.hid (HRpi25.out.below hb5)
  clear HRpi25
  have HUp34 := Lib.hid (HUp26.out.below hb5)
  clear HUp26
  have HRqs35 := Lib.hid (HRqs27.out.below hb5)
  clear HRqs27
  have HRqi36 := Lib.hid (HRqi28.out.below hb5)
  clear HRqi28
  have HUq37 := Lib.hid (HUq29.out.below hb5)
  clear HUq29
  have HRg138 := Lib.hid (HRg131.out.below hb5)
  clear HRg131
  have HB39 := Lib.hid (HB30.out.trans (hb5.mono HB30.out.size))
  clear HB30
  have HRg240 := Lib.hid (hrg2)
  clear hrg2 hog2
  clear HRps32
  clear HRqs35
  clear HUp34
  clear HUq37
  go_wp2_with fail
  go_loopw [11, 32] (fun v i wr => ∃ k : Nat, k ≤ npi ∧ i = .int .i64 k ∧ OwnI wr x5.heap.size v ((Ap.take k).filter (inL Aq)) ∧ Below x5.heap.size x5 wr) (fun _ i _ => npi - (intOf i).toNat)
  case atStart => exact ⟨0, Nat.zero_le _, rfl, OwnI.nil, Below.refl _ _⟩
  case round =>
    obtain ⟨k, hk, rfl, hown, hb⟩ := hrel
    by_cases hlt : k < npi
    · obtain ⟨b, off, rfl, _, hc⟩ := (HRpi33.out.below hb).at_ hlt
      have hl : k < Ap.length := by have := HRpi33.out.1; omega
      obtain ⟨y, hy⟩ : ∃ y, Ap.getD k 0 = y := ⟨_, rfl⟩
      rw [hy] at hc
      have HFL := Lib.hid (filter_take (q := inL Aq) hl hy)
      have hlen := filter_len (A := Ap) (q := inL Aq) (k := k)
      have hpl : Ap.length ≤ 200 := by have := HRpi33.out.1; omega
      clear hy
      have HQR := Lib.hid (HRqi36.out.below hb)
      have hsz := hb.size
      by_cases hq : y ∈ Aq
      · have hqt : inL Aq y = true := decide_eq_true hq
        have HQT := Lib.hid hqt
        have HQ := Lib.hid hq
        clear hq hqt
        go_wp2_with fail
        refine (rhas_any aqi nqi cqi Aq y _ HQR.out (by omega)).mono ?_; rintro e w' ⟨rfl, rfl⟩
        rw [decide_eq_true HQ.out]
        go_wp2_with (at_builtin; refine wpList_appI rfl (.tmp 39) (.tmp 41) 24 rfl Try.underlying24 x5.heap.size _ _ rfl (hown.below ((Below.refl _ _).alloc (Nat.le_refl _) _)) _ 1 1 [y] rfl (rdI_lit1 _ y) (fun h => by cases h) (by omega) (by simp; omega) ?_)
        intro v' w1 hown' hgrow
        have hb2 : Below x5.heap.size x5 w1 := own_grown (hb.alloc hsz _) (by simp; omega) hgrow (own_below hown ((Below.refl _ _).alloc (Nat.le_refl _) _))
        have hown2 : OwnI w1 x5.heap.size v' ((Ap.take (k + 1)).filter (inL Aq)) := by rw [HFL.out, HQT.out]; simpa using hown'
        clear hgrow hown hown' hb hc
        go_wp2_with fail
        go_roundw
        case rel => exact ⟨k + 1, by omega, by go_num, hown2, hb2⟩
        case measure => simp [intOf]; omega
      · have hqt : inL Aq y = false := decide_eq_false hq
        have HQT := Lib.hid hqt
        have HQ := Lib.hid hq
        clear hq hqt
        go_wp2_with fail
        refine (rhas_any aqi nqi cqi Aq y _ HQR.out (by omega)).mono ?_; rintro e w' ⟨rfl, rfl⟩
        rw [decide_eq_false HQ.out]
        go_wp2_with fail
        go_roundw
        case rel => exact ⟨k + 1, by omega, by go_num, by rw [HFL.out, HQT.out]; simpa using hown, hb⟩
        case measure => simp [intOf]; omega
    · have hfin : (Ap.take k).filter (inL Aq) = Ap.filter (inL Aq) := by rw [List.take_of_length_le (by have := HRpi33.out.1; omega)]
      rw [hfin] at hown
      clear hfin
      obtain ⟨R, hR, hRL⟩ := exists_of (just_filter HJp.out (inL Aq))
      have hR1 : IsSet R fun z => z ∈ nums S ∧ z ∈ nums T := ⟨hR.1, fun z => by
        rw [hR.2, HA.out, HB.out]
        show (inSp (fewL D) z ∧ inL Aq z = true) ↔ (z ∈ Ap ∧ z ∈ Aq)
        rw [HJp.out.2, show inL Aq z = true ↔ z ∈ Aq from decide_eq_true_iff]⟩
      have hR2 : IsSet R fun z => z ∈ nums T ∧ z ∈ nums S := ⟨hR.1, fun z => by rw [hR1.2]; exact and_comm⟩
      have HR1 := Lib.hid hR1
      have HR2 := Lib.hid hR2
      have HRL := Lib.hid hRL
      have HRS : Hid (Small R) := Lib.hid (small_just hR hRL (fun z hz => just_bd HJp.out z (List.mem_filter.1 hz).1))
      have hST : decide (S = T) = decide (Ap = Aq) := by
        rw [decide_eq_decide, ← HA.out, ← HB.out]
        exact ⟨fun h => by rw [h], fun h => norm_ext HS.out.1 HT.out.1 (fun z => by rw [h])⟩
      have HST := Lib.hid hST
      clear hR hR1 hR2 hRL hST
      obtain ⟨ab, nb, cb, rfl, _, hrb⟩ := hown.form
      have HRpi1001 := Lib.hid (HRpi33.out.below hb)
      clear HRpi33
      have HRqi1002 := Lib.hid (HRqi36.out.below hb)
      clear HRqi36
      have HRg11003 := Lib.hid (HRg138.out.below hb)
      clear HRg138
      have HRg21004 := Lib.hid (HRg240.out.below hb)
      clear HRg240
      have HB1005 := Lib.hid (HB39.out.trans (hb.mono HB39.out.size))
      clear HB39
      have HRb1006 := Lib.hid (hrb)
      clear hb hown hrb
      go_wp2_with fail
      refine (both_any ag1 ng1 cg1 S ag2 ng2 cg2 T R _ HRg11003.out HRg21004.out HFg1.out HFg2.out (by omega) (by omega) HS.out.1 HT.out.1 HR1.out).mono ?_; rintro e x1001 ⟨vh1, rfl, hoh1, hb1001⟩
      obtain ⟨ah1, nh1, ch1, rfl, hfh1, hrh1⟩ := hoh1.form
      have hnh1 : nh1 ≤ 1000 := by rw [hrh1.1]; exact HRS.out.1
      have HFh1 := Lib.hid hfh1
      clear hfh1
      have HRpi1007 := Lib.hid (HRpi1001.out.below hb1001)
      clear HRpi1001
      have HRqi1008 := Lib.hid (HRqi1002.out.below hb1001)
      clear HRqi1002
      have HRg11009 := Lib.hid (HRg11003.out.below hb1001)
      clear HRg11003
      have HRg21010 := Lib.hid (HRg21004.out.below hb1001)
      clear HRg21004
      have HRb1011 := Lib.hid (HRb1006.out.below hb1001)
      clear HRb1006
      have HB1012 := Lib.hid (HB1005.out.trans (hb1001.mono HB1005.out.size))
      clear HB1005
      have HRh11013 := Lib.hid (hrh1)
      clear hrh1 hoh1
      go_wp2_with fail
      refine (is_any ah1 nh1 ch1 R ab nb cb _ _ HRh11013.out HRS.out HR1.out.1 HRb1011.out HRL.out).mono ?_; rintro e x1002 ⟨rfl, hb1002⟩
      have HRpi1014 := Lib.hid (HRpi1007.out.below hb1002)
      clear HRpi1007
      have HRqi1015 := Lib.hid (HRqi1008.out.below hb1002)
      clear HRqi1008
      have HRg11016 := Lib.hid (HRg11009.out.below hb1002)
      clear HRg11009
      have HRg21017 := Lib.hid (HRg21010.out.below hb1002)
      clear HRg21010
      have HRb1018 := Lib.hid (HRb1011.out.below hb1002)
      clear HRb1011
      have HRh11019 := Lib.hid (HRh11013.out.below hb1002)
      clear HRh11013
      have HB1020 := Lib.hid (HB1012.out.trans (hb1002.mono HB1012.out.size))
      clear HB1012
      go_wp2_with fail
      refine (both_any ag2 ng2 cg2 T ag1 ng1 cg1 S R _ HRg21017.out HRg11016.out HFg2.out HFg1.out (by omega) (by omega) HT.out.1 HS.out.1 HR2.out).mono ?_; rintro e x1003 ⟨vh2, rfl, hoh2, hb1003⟩
      obtain ⟨ah2, nh2, ch2, rfl, hfh2, hrh2⟩ := hoh2.form
      have hnh2 : nh2 ≤ 1000 := by rw [hrh2.1]; exact HRS.out.1
      have HFh2 := Lib.hid hfh2
      clear hfh2
      have HRpi1021 := Lib.hid (HRpi1014.out.below hb1003)
      clear HRpi1014
      have HRqi1022 := Lib.hid (HRqi1015.out.below hb1003)
      clear HRqi1015
      have HRg11023 := Lib.hid (HRg11016.out.below hb1003)
      clear HRg11016
      have HRg21024 := Lib.hid (HRg21017.out.below hb1003)
      clear HRg21017
      have HRb1025 := Lib.hid (HRb1018.out.below hb1003)
      clear HRb1018
      have HRh11026 := Lib.hid (HRh11019.out.below hb1003)
      clear HRh11019
      have HB1027 := Lib.hid (HB1020.out.trans (hb1003.mono HB1020.out.size))
      clear HB1020
      have HRh21028 := Lib.hid (hrh2)
      clear hrh2 hoh2
      go_wp2_with fail
      refine (is_any ah2 nh2 ch2 R ab nb cb _ _ HRh21028.out HRS.out HR1.out.1 HRb1025.out HRL.out).mono ?_; rintro e x1004 ⟨rfl, hb1004⟩
      have HRpi1029 := Lib.hid (HRpi1021.out.below hb1004)
      clear HRpi1021
      have HRqi1030 := Lib.hid (HRqi1022.out.below hb1004)
      clear HRqi1022
      have HRg11031 := Lib.hid (HRg11023.out.below hb1004)
      clear HRg11023
      have HRg21032 := Lib.hid (HRg21024.out.below hb1004)
      clear HRg21024
      have HRb1033 := Lib.hid (HRb1025.out.below hb1004)
      clear HRb1025
      have HRh11034 := Lib.hid (HRh11026.out.below hb1004)
      clear HRh11026
      have HRh21035 := Lib.hid (HRh21028.out.below hb1004)
      clear HRh21028
      have HB1036 := Lib.hid (HB1027.out.trans (hb1004.mono HB1027.out.size))
      clear HB1027
      go_wp2_with fail
      refine (same_any ag1 ng1 cg1 S ag2 ng2 cg2 T _ HRg11031.out HRg21032.out (by omega) (by omega)).mono ?_; rintro e x1005 ⟨rfl, hb1005⟩
      rw [HST.out]
      have HRpi1037 := Lib.hid (HRpi1029.out.below hb1005)
      clear HRpi1029
      have HRqi1038 := Lib.hid (HRqi1030.out.below hb1005)
      clear HRqi1030
      have HRg11039 := Lib.hid (HRg11031.out.below hb1005)
      clear HRg11031
      have HRg21040 := Lib.hid (HRg21032.out.below hb1005)
      clear HRg21032
      have HRb1041 := Lib.hid (HRb1033.out.below hb1005)
      clear HRb1033
      have HRh11042 := Lib.hid (HRh11034.out.below hb1005)
      clear HRh11034
      have HRh21043 := Lib.hid (HRh21035.out.below hb1005)
      clear HRh21035
      have HB1044 := Lib.hid (HB1036.out.trans (hb1005.mono HB1036.out.size))
      clear HB1036
      go_wp2_with fail
      refine (rsame_any api npi cpi Ap aqi nqi cqi Aq _ HRpi1037.out HRqi1038.out (by omega) (by omega)).mono ?_; rintro e x1006 ⟨rfl, hb1006⟩
      have HRpi1045 := Lib.hid (HRpi1037.out.below hb1006)
      clear HRpi1037
      have HRqi1046 := Lib.hid (HRqi1038.out.below hb1006)
      clear HRqi1038
      have HRg11047 := Lib.hid (HRg11039.out.below hb1006)
      clear HRg11039
      have HRg21048 := Lib.hid (HRg21040.out.below hb1006)
      clear HRg21040
      have HRb1049 := Lib.hid (HRb1041.out.below hb1006)
      clear HRb1041
      have HRh11050 := Lib.hid (HRh11042.out.below hb1006)
      clear HRh11042
      have HRh21051 := Lib.hid (HRh21043.out.below hb1006)
      clear HRh21043
      have HB1052 := Lib.hid (HB1044.out.trans (hb1006.mono HB1044.out.size))
      clear HB1044
      go_wp2_with fail
      go_ret
      exact ⟨rfl, HB1052.out⟩

theorem own : ownKnob Try.prog.godebug = none := by kernel_rfl
theorem laidOut : laidOutB Try.prog = true := by kernel_rfl

set_option maxRecDepth 100000 in
theorem lifted (os : Os) (started : os.Started) (H : Type) (enc : TypeId × Value → H) :
    ReturnsInHanded {} Try.checked os 5 .any (Rows.spanTwoSpec.pre6 enc Try.prog Try.f5 Rows.spanTwoRow.domain false) (Rows.spanTwoSpec.post enc Try.prog Try.f5 false true false false) := by
  refine Base.law_lifted (C := Try.checked) own started (by kernel_rfl) Try.func5 laidOut (by kernel_rfl) rfl Try.underlying4 rfl ?_
    (ChangeSpec.witness6 (enc := enc) (C := Try.checked) false ⟨#[], #[.slice none 0 0, .slice none 0 0], []⟩ 8 (by kernel_rfl) (by kernel_rfl) (by kernel_rfl) (by kernel_rfl)) ?_
  · intro ds h
    match ds, h with
    | [_d0, _d1], _ => exact ⟨rfl, rfl, rfl⟩
  · intro W base args ds before hval0 hA0 hlt hsz
    have hval : ∀ (j : Nat) t v, Try.f5.params[j]? = some t → args[j]? = some v → Value.okWide Try.prog W .any base t v := hval0
    have hA : DataW.TrodAll enc Try.prog W 0 (fun _ => true) true Try.f5.params.toList args.toList ds before := hA0
    clear hval0 hA0
    rw [Try.params5] at hA hval hsz
    obtain ⟨v0, vs0, d0, ds0, p0, q0, hargs, rfl, rfl, h0, r0⟩ := trodAll_cons hA
    obtain ⟨v1, vs1, d1, ds1, p1, q1, rfl, rfl, rfl, h1, r1⟩ := trodAll_cons r0
    obtain ⟨rfl, rfl, rfl⟩ := trodAll_nil r1
    obtain rfl : args = #[v0, v1] := by cases args; simp_all
    obtain ⟨a0, w0⟩ := Base.open_pairs Try.underlying22 Try.underlying35 (by kernel_rfl) rfl rfl rfl rfl Try.underlying3 (by kernel_rfl) (hval 0 22 v0 rfl rfl) h0 (fun x hx => hlt x (by simp [hx]))
    obtain ⟨a1, w1⟩ := Base.open_pairs Try.underlying22 Try.underlying35 (by kernel_rfl) rfl rfl rfl rfl Try.underlying3 (by kernel_rfl) (hval 1 22 v1 rfl rfl) h1 (fun x hx => hlt x (by simp [hx]))
    exact walk W v0 a0 w0 v1 a1 w1

theorem over : Rows.spanTwoRow.holds Try.pinned (OpenSpec.ofChange Rows.spanTwoSpec) :=
  OpenClaim.holds_of_wide 5 Try.f5 rfl rfl rfl rfl rfl rfl rfl ⟨rfl, rfl, rfl, rfl, rfl⟩ rfl rfl rfl rfl rfl (by kernel_rfl) Try.func5 (by kernel_rfl)
    (of_decide_eq_true (by kernel_rfl)) (by unfold Func.isWrapper; first | (rw [if_pos (by decide +kernel)]; kernel_rfl) | (rw [if_neg (by decide +kernel)]; exact ⟨rfl, rfl⟩))
    (fun os started H enc _ => lifted os started H enc)

theorem proved : Rows.SpanTwoSaid :=
  over
#print axioms proved
end Go.Proofs.Ytippbgbjldgahaa.spanTwo
