/-
  SpanChanges is proved: with a span, without one, and what isn't there of one, is as the document says, and the set stays; for every input the law returns true.
-/
import Derived.Test.YtippbgbjldgahaaBase
import Derived.Test.YtippbgbjldgahaaLaw03Kit
import Derived.Test.YtippbgbjldgahaaSpanDrop
namespace Go.Proofs.Ytippbgbjldgahaa.spanChanges
open Go.ChangeShapes Go.WideShapes Go.ChangeAt Go.RowKit
set_option linter.unusedVariables false      -- a walk need not use every bound of an argument

open SpanMath View SpanCalls Law03 Ref

set_option maxHeartbeats 4000000 in
theorem walk (w : World) (v0 : Value) (D : List (Int × Int)) (w0 : Base.Pairs w v0 D) (p1 p2 : Int) (w1 : (Lit.int .i64 p1).wf = true) (w2 : (Lit.int .i64 p2).wf = true) :
    Calls Try.prog 4 #[v0, .agg #[.int .i64 p1, .int .i64 p2]] w fun e w' => e = .returned (.bool true) ∧ Below w.heap.size w w' := by
  obtain ⟨a, n, cap, rfl, hf, hr⟩ := rd_pairs w0
  obtain ⟨S, hS, hsm⟩ := few_set D
  have HS := Lib.hid hS
  have HSM := Lib.hid hsm
  obtain ⟨c1, c2, hcl⟩ : ∃ c1 c2, clip (p1, p2) = (c1, c2) := ⟨_, _, rfl⟩
  have hcb := clip_bd (p1, p2)
  rw [hcl] at hcb
  obtain ⟨hb1, hb2, hb3, hb4, _⟩ := hcb
  have HF1 : Hid (fewL [(p1, p2)] = [(c1, c2)]) := Lib.hid (by simp [fewL, hcl])
  change -100 ≤ c1 at hb1
  change c1 ≤ 100 at hb2
  change -100 ≤ c2 at hb3
  change c2 ≤ 100 at hb4
  have HD1 := Lib.hid (hr.alloc (.cells #[.int .i64 p1, .int .i64 p2] 35))
  have HX2 := Lib.hid (Box.new w p1 p2)
  have HB3 : Hid (Below w.heap.size w (w.alloc (.cells #[.int .i64 p1, .int .i64 p2] 35))) := Lib.hid ((Below.refl _ w).alloc (Nat.le_refl _) _)
  clear w0 w1 w2 hr hf hS hsm hcl
  go_enter Try.func4, Try.ntmps4
  go_wp2_with fail
  refine (awake_any _).mono ?_; rintro e x1 ⟨rfl, hb1⟩
  have HD4 := Lib.hid (HD1.out.below hb1)
  clear HD1
  have HX5 := Lib.hid (HX2.out.below hb1)
  clear HX2
  have HB6 := Lib.hid (HB3.out.trans (hb1.mono HB3.out.size))
  clear HB3
  go_wp2_with fail
  refine (few_any _ _ _ D _ HD4.out).mono ?_; rintro e x2 ⟨vp, up, Ap, rfl, hop, hup, hjp, hb2⟩
  have HJp := Lib.hid hjp
  have HLTp : Hid (∀ k, Value.ownBlock vp = some k → k < x2.heap.size) := Lib.hid (fun k hk => (hop.lt k hk).2)
  obtain ⟨aps, nps, cps, rfl, hfps, hrps⟩ := hop.form
  obtain ⟨api, npi, cpi, rfl, hfpi, hrpi⟩ := hup.form
  have hnps : nps ≤ 12 := by rw [hrps.1]; exact fewL_len D
  have hnpi : npi ≤ 200 := by rw [hrpi.1]; exact just_len hjp (fun z hz => inSp_few D z hz)
  have HFps := Lib.hid hfps
  have HFpi := Lib.hid hfpi
  clear hfps hfpi hjp
  have HD7 := Lib.hid (HD4.out.below hb2)
  clear HD4
  have HX8 := Lib.hid (HX5.out.below hb2)
  clear HX5
  have HB9 := Lib.hid (HB6.out.trans (hb2.mono HB6.out.size))
  clear HB6
  have HRps11 := Lib.hid (hrps)
  have HRpi12 := Lib.hid (hrpi)
  have HUp13 := Lib.hid (hup)
  clear hrps hrpi hup hop
  have HA : Hid (nums S = Ap) := Lib.hid (just_nums HS.out HJp.out)
  clear HD7
  have hxl := HX8.out.lt
  obtain ⟨hx1, hx2⟩ := HX8.out.cells
  go_wp2_with fail
  have hlit := rdS_lit1 x2 p1 p2
  refine (few_any _ _ _ [(p1, p2)] _ hlit).mono ?_; rintro e x3 ⟨vq, uq, Aq, rfl, hoq, huq, hjq, hbq⟩
  have hbq2 : Below x2.heap.size x2 x3 := ((Below.refl _ x2).alloc (Nat.le_refl _) _).trans (hbq.mono (by simp))
  rw [HF1.out] at hoq hjq
  have HJq := Lib.hid hjq
  obtain ⟨aqs, nqs, cqs, rfl, hfqs, hrqs⟩ := hoq.form
  obtain ⟨aqi, nqi, cqi, rfl, hfqi, hrqi⟩ := huq.form
  have hnqs : nqs = 1 := hrqs.1
  subst hnqs
  have hnqi : nqi ≤ 200 := by rw [hrqi.1]; exact just_len hjq (fun z hz => by rw [inSp_one] at hz; have e1 : c1 ≤ z := hz.1; have e2 : z < c2 := hz.2; omega)
  obtain ⟨bq, oq, rfl, _, _⟩ := hrqs.at_ (k := 0) (by omega)
  clear hfqs hfqi hjq hlit hbq hx1 hx2 hxl
  clear HX8
  have HRps14 := Lib.hid (HRps11.out.below hbq2)
  clear HRps11
  have HRpi15 := Lib.hid (HRpi12.out.below hbq2)
  clear HRpi12
  have HUp16 := Lib.hid (HUp13.out.below hbq2)
  clear HUp13
  have HB17 := Lib.hid (HB9.out.trans (hbq2.mono HB9.out.size))
  clear HB9
  have HRqs18 := Lib.hid (hrqs)
  have HRqi19 := Lib.hid (hrqi)
  have HUq20 := Lib.hid (huq)
  clear hrqs hrqi hoq huq hbq2
  go_wp2_with fail
  refine (of_any aps nps cps (fewL D) S _ HRps14.out HFps.out (few_near D) HS.out).mono ?_; rintro e x4 ⟨vg1, rfl, hog1, hb4⟩
  obtain ⟨ag1, ng1, cg1, rfl, hfg1, hrg1⟩ := hog1.form
  have hng1 : ng1 ≤ 1000 := by rw [hrg1.1]; exact HSM.out.1
  have HFg1 := Lib.hid hfg1
  clear hfg1
  have HRps21 := Lib.hid (HRps14.out.below hb4)
  clear HRps14
  have HRpi22 := Lib.hid (HRpi15.out.below hb4)
  clear HRpi15
  have HUp23 := Lib.hid (HUp16.out.below hb4)
  clear HUp16
  have HRqs24 := Lib.hid (HRqs18.out.below hb4)
  clear HRqs18
  have HRqi25 := Lib.hid (HRqi19.out.below hb4)
  clear HRqi19
  have HUq26 := Lib.hid (HUq20.out.below hb4)
  clear HUq20
  have HB27 := Lib.hid (HB17.out.trans (hb4.mono HB17.out.size))
  clear HB17
  have HRg128 := Lib.hid (hrg1)
  clear hrg1 hog1
  clear HRps21
  go_wp2_with fail
  have hU0 := HUp23.out
  go_loopw [10, 12, 35] (fun u v i wr => ∃ (k : Nat) (W : List Int), k ≤ nqi ∧ i = .int .i64 k ∧ OwnI wr 0 u W ∧ Hid (Just W fun z => z ∈ Ap ∨ z ∈ Aq.take k) ∧ OwnI wr x4.heap.size v ((Aq.take k).filter (outL Ap)) ∧ Hid (u.ownBlock = none ∨ u.ownBlock ≠ v.ownBlock) ∧ Hid (v.ownBlock = none ∨ v.ownBlock ≠ u.ownBlock) ∧ Below x4.heap.size x4 wr) (fun _ _ i _ => nqi - (intOf i).toNat)
  case atStart => exact ⟨0, Ap, Nat.zero_le _, rfl, hU0, Lib.hid (just_imp HJp.out (fun z => by rw [HJp.out.2]; simp)), OwnI.nil, Lib.hid (by cases aps2 : Value.ownBlock (.slice api npi cpi) <;> simp [Value.ownBlock]), Lib.hid (.inl rfl), Below.refl _ _⟩
  case round =>
    obtain ⟨k, W, hk, rfl, hu, hju, hown, hap, hap2, hb⟩ := hrel
    by_cases hlt : k < nqi
    · obtain ⟨b, off, rfl, _, hc⟩ := (HRqi25.out.below hb).at_ hlt
      have hl : k < Aq.length := by have := HRqi25.out.1; omega
      obtain ⟨y, hy⟩ : ∃ y, Aq.getD k 0 = y := ⟨_, rfl⟩
      rw [hy] at hc
      have HFL := Lib.hid (filter_take (q := outL Ap) hl hy)
      have hlen := filter_len (A := Aq) (q := outL Ap) (k := k)
      have hpl : Aq.length ≤ 200 := by have := HRqi25.out.1; omega
      have HTK : Hid (∀ z, z ∈ Aq.take (k + 1) ↔ z ∈ Aq.take k ∨ z = y) := Lib.hid (fun z => by rw [take_succ' Aq 0 k hl, hy]; simp)
      clear hy
      obtain ⟨au, nu, cu, rfl, _, hru⟩ := hu.form
      have hnu : nu ≤ 400 := by
        rw [hru.1]
        have h1 := rising_len W (-100) 100 hju.out.1 (fun z hz => by
          rcases (hju.out.2 z).1 hz with h | h
          · exact just_bd HJp.out z h
          · have h2 := (HJq.out.2 z).1 (List.mem_of_mem_take h)
            rw [inSp_one] at h2
            have e1 : c1 ≤ z := h2.1
            have e2 : z < c2 := h2.2
            omega)
        omega
      have HRP := Lib.hid (HRpi22.out.below hb)
      have HUL : Hid (∀ j, Value.ownBlock u12 = some j → j < wr.heap.size) := Lib.hid (fun j hj => (hown.lt j hj).2)
      have hsz := hb.size
      have HU := Lib.hid hu
      clear hru hu
      go_wp2_with fail
      refine (put_any au nu cu W y _ HU.out (by omega)).mono ?_; rintro e w6 ⟨v6, rfl, hu6, hor6, hb6⟩
      have hbi6 := hb.trans (hb6.mono hsz)
      have hsz6 := hbi6.size
      have hown6 := hown.below hb6
      have hap6 : v6.ownBlock = none ∨ v6.ownBlock ≠ Value.ownBlock u12 := by
        rcases hor6 with rfl | ho
        · exact hap.out
        · rcases hv6 : v6.ownBlock with _ | j
          · exact .inl rfl
          · refine .inr fun e => ?_
            have h1 := (ho.lt j hv6).1
            have h2 := HUL.out j e.symm
            omega
      have HAP6 := Lib.hid hap6
      have HRP6 := Lib.hid (HRP.out.below hb6)
      have HJ6 : Hid (Just (putL W y) fun z => z ∈ Ap ∨ z ∈ Aq.take (k + 1)) := Lib.hid (just_imp (just_put hju.out y) (fun z => by rw [HTK.out]; exact or_assoc))
      clear hb hb6 hor6 hap6 hown hc
      by_cases hq : y ∈ Ap
      · have hqt : outL Ap y = false := by simp [outL, hq]
        have HQT := Lib.hid hqt
        have HQ := Lib.hid hq
        clear hq hqt
        go_wp2_with fail
        refine (rhas_any api npi cpi Ap y _ HRP6.out (by omega)).mono ?_; rintro e w' ⟨rfl, rfl⟩
        rw [decide_eq_true HQ.out]
        go_wp2_with fail
        go_roundw
        case rel => exact ⟨k + 1, _, by omega, by go_num, hu6, HJ6, by rw [HFL.out, HQT.out]; simpa using hown6, HAP6, Lib.hid (by rcases HAP6.out with h | h; (cases hv : Value.ownBlock u12 with | none => exact .inl rfl | some j => exact .inr (by rw [h]; simp)); exact .inr (Ne.symm h)), hbi6⟩
        case measure => simp [intOf]; omega
      · have hqt : outL Ap y = true := by simp [outL, hq]
        have HQT := Lib.hid hqt
        have HQ := Lib.hid hq
        clear hq hqt
        go_wp2_with fail
        refine (rhas_any api npi cpi Ap y _ HRP6.out (by omega)).mono ?_; rintro e w' ⟨rfl, rfl⟩
        rw [decide_eq_false HQ.out]
        have hu60 := hu6.below ((Below.refl _ w6).alloc (Nat.le_refl _) (.cells #[.int .i64 y] 3))
        go_wp2_with (at_builtin; refine wpList_appI_at rfl (.tmp 46) (.tmp 48) rfl x4.heap.size _ _ rfl (hown6.below ((Below.refl _ _).alloc (Nat.le_refl _) _)) _ _ 1 y rfl (rdI_lit1 _ y) (by omega) (by simp; omega) ?_)
        intro v7 w7 hown7 hgrow hat
        have hb7 : Below x4.heap.size x4 w7 := own_grown (hbi6.alloc hsz6 _) (by simp; omega) hgrow (own_below hown6 ((Below.refl _ _).alloc (Nat.le_refl _) _))
        have hu7 := own_kept hu60 hgrow HAP6.out
        have hown8 : OwnI w7 x4.heap.size v7 ((Aq.take (k + 1)).filter (outL Ap)) := by rw [HFL.out, HQT.out]; simpa using hown7
        have HAP7 : Hid (v6.ownBlock = none ∨ v6.ownBlock ≠ v7.ownBlock) := Lib.hid (by
          rcases hv6 : v6.ownBlock with _ | j
          · exact .inl rfl
          · refine .inr fun e => ?_
            rcases hat with h | h
            · rcases HAP6.out with h2 | h2
              · rw [hv6] at h2; cases h2
              · exact h2 (by rw [hv6, e, h])
            · rw [h] at e
              injection e with e
              have := (hu60.lt j hv6).2
              have h3 := (hu6.lt j hv6).2
              omega)
        clear hgrow hown6 hown7 hu60 hat
        go_wp2_with fail
        go_roundw
        case rel => exact ⟨k + 1, _, by omega, by go_num, hu7, HJ6, hown8, HAP7, Lib.hid (by rcases HAP7.out with h | h; (cases hv : v7.ownBlock with | none => exact .inl rfl | some j => exact .inr (by rw [h]; simp)); exact .inr (Ne.symm h)), hb7⟩
        case measure => simp [intOf]; omega
    · have hkn : k = nqi := by omega
      have hfin : Aq.take k = Aq := List.take_of_length_le (by have := HRqi25.out.1; omega)
      rw [hfin] at hju hown
      have HJW := hju
      clear hfin hkn hju
      obtain ⟨aw, nw, cw, rfl, _, hrw⟩ := hu.form
      obtain ⟨av, nv, cv, rfl, _, hrv⟩ := hown.form
      have HRpi1001 := Lib.hid (HRpi22.out.below hb)
      clear HRpi22
      have HUp1002 := Lib.hid (HUp23.out.below hb)
      clear HUp23
      have HRqs1003 := Lib.hid (HRqs24.out.below hb)
      clear HRqs24
      have HRqi1004 := Lib.hid (HRqi25.out.below hb)
      clear HRqi25
      have HUq1005 := Lib.hid (HUq26.out.below hb)
      clear HUq26
      have HRg11006 := Lib.hid (HRg128.out.below hb)
      clear HRg128
      have HB1007 := Lib.hid (HB27.out.trans (hb.mono HB27.out.size))
      clear HB27
      have HRw1008 := Lib.hid (hrw)
      have HRv1009 := Lib.hid (hrv)
      clear hb hu hown hrw hrv hap hap2
      obtain ⟨wq, rfl⟩ : ∃ wq : World, wq = wr := ⟨_, rfl⟩
      go_wp2_with fail
      go_loopw [11, 53] (fun v i wr => ∃ k : Nat, k ≤ npi ∧ i = .int .i64 k ∧ OwnI wr wq.heap.size v ((Ap.take k).filter (outL Aq)) ∧ Below wq.heap.size wq wr) (fun _ i _ => npi - (intOf i).toNat)
      case atStart => exact ⟨0, Nat.zero_le _, rfl, OwnI.nil, Below.refl _ _⟩
      case round =>
        obtain ⟨k, hk, rfl, hown, hb⟩ := hrel
        by_cases hlt : k < npi
        · obtain ⟨b, off, rfl, _, hc⟩ := (HRpi1001.out.below hb).at_ hlt
          have hl : k < Ap.length := by have := HRpi1001.out.1; omega
          obtain ⟨y, hy⟩ : ∃ y, Ap.getD k 0 = y := ⟨_, rfl⟩
          rw [hy] at hc
          have HFL := Lib.hid (filter_take (q := outL Aq) hl hy)
          have hlen := filter_len (A := Ap) (q := outL Aq) (k := k)
          have hpl : Ap.length ≤ 200 := by have := HRpi1001.out.1; omega
          clear hy
          have HQR := Lib.hid (HRqi1004.out.below hb)
          have hsz := hb.size
          by_cases hq : y ∈ Aq
          · have hqt : outL Aq y = false := by simp [outL, hq]
            have HQT := Lib.hid hqt
            have HQ := Lib.hid hq
            clear hq hqt
            go_wp2_with fail
            refine (rhas_any aqi nqi cqi Aq y _ HQR.out (by omega)).mono ?_; rintro e w' ⟨rfl, rfl⟩
            rw [decide_eq_true HQ.out]
            go_wp2_with fail
            go_roundw
            case rel => exact ⟨k + 1, by omega, by go_num, by rw [HFL.out, HQT.out]; simpa using hown, hb⟩
            case measure => simp [intOf]; omega
          · have hqt : outL Aq y = true := by simp [outL, hq]
            have HQT := Lib.hid hqt
            have HQ := Lib.hid hq
            clear hq hqt
            go_wp2_with fail
            refine (rhas_any aqi nqi cqi Aq y _ HQR.out (by omega)).mono ?_; rintro e w' ⟨rfl, rfl⟩
            rw [decide_eq_false HQ.out]
            go_wp2_with (at_builtin; refine wpList_appI rfl (.tmp 61) (.tmp 63) 24 rfl Try.underlying24 wq.heap.size _ _ rfl (hown.below ((Below.refl _ _).alloc (Nat.le_refl _) _)) _ 1 1 [y] rfl (rdI_lit1 _ y) (fun h => by cases h) (by omega) (by simp; omega) ?_)
            intro v' w1 hown' hgrow
            have hb2 : Below wq.heap.size wq w1 := own_grown (hb.alloc hsz _) (by simp; omega) hgrow (own_below hown ((Below.refl _ _).alloc (Nat.le_refl _) _))
            have hown2 : OwnI w1 wq.heap.size v' ((Ap.take (k + 1)).filter (outL Aq)) := by rw [HFL.out, HQT.out]; simpa using hown'
            clear hgrow hown hown' hb hc
            go_wp2_with fail
            go_roundw
            case rel => exact ⟨k + 1, by omega, by go_num, hown2, hb2⟩
            case measure => simp [intOf]; omega
        · have hfin : (Ap.take k).filter (outL Aq) = Ap.filter (outL Aq) := by rw [List.take_of_length_le (by have := HRpi1001.out.1; omega)]
          rw [hfin] at hown
          clear hfin
          obtain ⟨au, nu, cu, rfl, _, hru⟩ := hown.form
          have HRpi2001 := Lib.hid (HRpi1001.out.below hb)
          clear HRpi1001
          have HUp2002 := Lib.hid (HUp1002.out.below hb)
          clear HUp1002
          have HRqs2003 := Lib.hid (HRqs1003.out.below hb)
          clear HRqs1003
          have HRqi2004 := Lib.hid (HRqi1004.out.below hb)
          clear HRqi1004
          have HUq2005 := Lib.hid (HUq1005.out.below hb)
          clear HUq1005
          have HRg12006 := Lib.hid (HRg11006.out.below hb)
          clear HRg11006
          have HRw2007 := Lib.hid (HRw1008.out.below hb)
          clear HRw1008
          have HRv2008 := Lib.hid (HRv1009.out.below hb)
          clear HRv1009
          have HB2009 := Lib.hid (HB1007.out.trans (hb.mono HB1007.out.size))
          clear HB1007
          have HRu2010 := Lib.hid (hru)
          clear hb hown hru
          have hone : ∀ z, inSp [(c1, c2)] z ↔ (c1 ≤ z ∧ z < c2) := fun z => inSp_one (c1, c2) z
          have hoq : ∀ z, z ∈ Aq ↔ (c1 ≤ z ∧ z < c2) := fun z => by rw [HJq.out.2, hone]
          have hin : ∀ z ∈ Ap, -100 ≤ z ∧ z < 100 := just_bd HJp.out
          obtain ⟨R1, hR1, hL1⟩ := exists_of (p := fun z => z ∈ nums S ∨ (c1 ≤ z ∧ z < c2)) (just_imp HJW.out (fun z => by rw [HA.out, hoq]))
          obtain ⟨R2, hR2, hL2⟩ := exists_of (p := fun z => z ∈ nums S ∧ ¬ (c1 ≤ z ∧ z < c2)) (just_imp (just_filter HJp.out (outL Aq)) (fun z => by
            rw [HA.out, ← hoq, ← HJp.out.2]
            simp [outL]))
          obtain ⟨R3, hR3, hL3⟩ := exists_of (p := fun z => (c1 ≤ z ∧ z < c2) ∧ z ∉ nums S) (just_imp (just_filter (p := inSp [(c1, c2)]) HJq.out (outL Ap)) (fun z => by
            rw [HA.out, hone]
            simp [outL]))
          have hS1 : Small R1 := small_of hR1.1 (fun z hz => by
            rcases (hR1.2 z).1 hz with h | h
            · rw [HA.out] at h; have := hin z h; omega
            · omega)
          have hS2 : Small R2 := small_of hR2.1 (fun z hz => by
            have h := ((hR2.2 z).1 hz).1
            rw [HA.out] at h; have := hin z h; omega)
          have hS3 : Small R3 := small_of hR3.1 (fun z hz => by have h := ((hR3.2 z).1 hz).1; omega)
          have HR1 := Lib.hid hR1
          have HR2 := Lib.hid hR2
          have HR3 := Lib.hid hR3
          have HL1 := Lib.hid hL1
          have HL2 := Lib.hid hL2
          have HL3 := Lib.hid hL3
          have HS1 := Lib.hid hS1
          have HS2 := Lib.hid hS2
          have HS3 := Lib.hid hS3
          clear hone hoq hin hR1 hR2 hR3 hL1 hL2 hL3 hS1 hS2 hS3
          obtain ⟨bz, oz, ez, hlz, hz1, hz2⟩ := HRqs2003.out.at_ (k := 0) (by omega)
          cases ez
          simp only [Nat.zero_mul, Nat.add_zero, List.getD_cons_zero] at hz1 hz2
          go_wp2_with fail
          refine (add_any ag1 ng1 cg1 S c1 c2 R1 _ HRg12006.out HFg1.out HSM.out (by omega) (by omega) (by omega) (by omega) HR1.out).mono ?_; rintro e x2002 ⟨vh1, rfl, hoh1, hb2002⟩
          obtain ⟨ah1, nh1, ch1, rfl, hfh1, hrh1⟩ := hoh1.form
          have hnh1 : nh1 ≤ 1000 := by rw [hrh1.1]; exact HS1.out.1
          have HFh1 := Lib.hid hfh1
          clear hfh1
          have HRpi2011 := Lib.hid (HRpi2001.out.below hb2002)
          clear HRpi2001
          have HUp2012 := Lib.hid (HUp2002.out.below hb2002)
          clear HUp2002
          have HRqs2013 := Lib.hid (HRqs2003.out.below hb2002)
          clear HRqs2003
          have HRqi2014 := Lib.hid (HRqi2004.out.below hb2002)
          clear HRqi2004
          have HUq2015 := Lib.hid (HUq2005.out.below hb2002)
          clear HUq2005
          have HRg12016 := Lib.hid (HRg12006.out.below hb2002)
          clear HRg12006
          have HRw2017 := Lib.hid (HRw2007.out.below hb2002)
          clear HRw2007
          have HRv2018 := Lib.hid (HRv2008.out.below hb2002)
          clear HRv2008
          have HRu2019 := Lib.hid (HRu2010.out.below hb2002)
          clear HRu2010
          have HB2020 := Lib.hid (HB2009.out.trans (hb2002.mono HB2009.out.size))
          clear HB2009
          have HRh12021 := Lib.hid (hrh1)
          clear hrh1 hoh1
          clear hz1 hz2 hlz
          go_wp2_with fail
          refine (is_any ah1 nh1 ch1 R1 aw nw cw _ _ HRh12021.out HS1.out HR1.out.1 HRw2017.out HL1.out).mono ?_; rintro e x2003 ⟨rfl, hb2003⟩
          have HRpi2022 := Lib.hid (HRpi2011.out.below hb2003)
          clear HRpi2011
          have HUp2023 := Lib.hid (HUp2012.out.below hb2003)
          clear HUp2012
          have HRqs2024 := Lib.hid (HRqs2013.out.below hb2003)
          clear HRqs2013
          have HRqi2025 := Lib.hid (HRqi2014.out.below hb2003)
          clear HRqi2014
          have HUq2026 := Lib.hid (HUq2015.out.below hb2003)
          clear HUq2015
          have HRg12027 := Lib.hid (HRg12016.out.below hb2003)
          clear HRg12016
          have HRw2028 := Lib.hid (HRw2017.out.below hb2003)
          clear HRw2017
          have HRv2029 := Lib.hid (HRv2018.out.below hb2003)
          clear HRv2018
          have HRu2030 := Lib.hid (HRu2019.out.below hb2003)
          clear HRu2019
          have HRh12031 := Lib.hid (HRh12021.out.below hb2003)
          clear HRh12021
          have HB2032 := Lib.hid (HB2020.out.trans (hb2003.mono HB2020.out.size))
          clear HB2020
          obtain ⟨bz, oz, ez, hlz, hz1, hz2⟩ := HRqs2024.out.at_ (k := 0) (by omega)
          cases ez
          simp only [Nat.zero_mul, Nat.add_zero, List.getD_cons_zero] at hz1 hz2
          go_wp2_with fail
          refine (drop_any ag1 ng1 cg1 S c1 c2 R2 _ HRg12027.out HFg1.out HSM.out HS.out.1 (by omega) (by omega) (by omega) (by omega) HR2.out).mono ?_; rintro e x2004 ⟨vh2, rfl, hoh2, hb2004⟩
          obtain ⟨ah2, nh2, ch2, rfl, hfh2, hrh2⟩ := hoh2.form
          have hnh2 : nh2 ≤ 1000 := by rw [hrh2.1]; exact HS2.out.1
          have HFh2 := Lib.hid hfh2
          clear hfh2
          have HRpi2033 := Lib.hid (HRpi2022.out.below hb2004)
          clear HRpi2022
          have HUp2034 := Lib.hid (HUp2023.out.below hb2004)
          clear HUp2023
          have HRqs2035 := Lib.hid (HRqs2024.out.below hb2004)
          clear HRqs2024
          have HRqi2036 := Lib.hid (HRqi2025.out.below hb2004)
          clear HRqi2025
          have HUq2037 := Lib.hid (HUq2026.out.below hb2004)
          clear HUq2026
          have HRg12038 := Lib.hid (HRg12027.out.below hb2004)
          clear HRg12027
          have HRw2039 := Lib.hid (HRw2028.out.below hb2004)
          clear HRw2028
          have HRv2040 := Lib.hid (HRv2029.out.below hb2004)
          clear HRv2029
          have HRu2041 := Lib.hid (HRu2030.out.below hb2004)
          clear HRu2030
          have HRh12042 := Lib.hid (HRh12031.out.below hb2004)
          clear HRh12031
          have HB2043 := Lib.hid (HB2032.out.trans (hb2004.mono HB2032.out.size))
          clear HB2032
          have HRh22044 := Lib.hid (hrh2)
          clear hrh2 hoh2
          clear hz1 hz2 hlz
          go_wp2_with fail
          refine (is_any ah2 nh2 ch2 R2 au nu cu _ _ HRh22044.out HS2.out HR2.out.1 HRu2041.out HL2.out).mono ?_; rintro e x2005 ⟨rfl, hb2005⟩
          have HRpi2045 := Lib.hid (HRpi2033.out.below hb2005)
          clear HRpi2033
          have HUp2046 := Lib.hid (HUp2034.out.below hb2005)
          clear HUp2034
          have HRqs2047 := Lib.hid (HRqs2035.out.below hb2005)
          clear HRqs2035
          have HRqi2048 := Lib.hid (HRqi2036.out.below hb2005)
          clear HRqi2036
          have HUq2049 := Lib.hid (HUq2037.out.below hb2005)
          clear HUq2037
          have HRg12050 := Lib.hid (HRg12038.out.below hb2005)
          clear HRg12038
          have HRw2051 := Lib.hid (HRw2039.out.below hb2005)
          clear HRw2039
          have HRv2052 := Lib.hid (HRv2040.out.below hb2005)
          clear HRv2040
          have HRu2053 := Lib.hid (HRu2041.out.below hb2005)
          clear HRu2041
          have HRh12054 := Lib.hid (HRh12042.out.below hb2005)
          clear HRh12042
          have HRh22055 := Lib.hid (HRh22044.out.below hb2005)
          clear HRh22044
          have HB2056 := Lib.hid (HB2043.out.trans (hb2005.mono HB2043.out.size))
          clear HB2043
          obtain ⟨bz, oz, ez, hlz, hz1, hz2⟩ := HRqs2047.out.at_ (k := 0) (by omega)
          cases ez
          simp only [Nat.zero_mul, Nat.add_zero, List.getD_cons_zero] at hz1 hz2
          go_wp2_with fail
          refine (gaps_any ag1 ng1 cg1 S c1 c2 R3 _ HRg12050.out HSM.out HS.out.1 (by omega) (by omega) (by omega) (by omega) HR3.out).mono ?_; rintro e x2006 ⟨vh3, rfl, hoh3, hb2006⟩
          obtain ⟨ah3, nh3, ch3, rfl, hfh3, hrh3⟩ := hoh3.form
          have hnh3 : nh3 ≤ 1000 := by rw [hrh3.1]; exact HS3.out.1
          have HFh3 := Lib.hid hfh3
          clear hfh3
          have HRpi2057 := Lib.hid (HRpi2045.out.below hb2006)
          clear HRpi2045
          have HUp2058 := Lib.hid (HUp2046.out.below hb2006)
          clear HUp2046
          have HRqs2059 := Lib.hid (HRqs2047.out.below hb2006)
          clear HRqs2047
          have HRqi2060 := Lib.hid (HRqi2048.out.below hb2006)
          clear HRqi2048
          have HUq2061 := Lib.hid (HUq2049.out.below hb2006)
          clear HUq2049
          have HRg12062 := Lib.hid (HRg12050.out.below hb2006)
          clear HRg12050
          have HRw2063 := Lib.hid (HRw2051.out.below hb2006)
          clear HRw2051
          have HRv2064 := Lib.hid (HRv2052.out.below hb2006)
          clear HRv2052
          have HRu2065 := Lib.hid (HRu2053.out.below hb2006)
          clear HRu2053
          have HRh12066 := Lib.hid (HRh12054.out.below hb2006)
          clear HRh12054
          have HRh22067 := Lib.hid (HRh22055.out.below hb2006)
          clear HRh22055
          have HB2068 := Lib.hid (HB2056.out.trans (hb2006.mono HB2056.out.size))
          clear HB2056
          have HRh32069 := Lib.hid (hrh3)
          clear hrh3 hoh3
          clear hz1 hz2 hlz
          go_wp2_with fail
          refine (is_any ah3 nh3 ch3 R3 av nv cv _ _ HRh32069.out HS3.out HR3.out.1 HRv2064.out HL3.out).mono ?_; rintro e x2007 ⟨rfl, hb2007⟩
          have HRpi2070 := Lib.hid (HRpi2057.out.below hb2007)
          clear HRpi2057
          have HUp2071 := Lib.hid (HUp2058.out.below hb2007)
          clear HUp2058
          have HRqs2072 := Lib.hid (HRqs2059.out.below hb2007)
          clear HRqs2059
          have HRqi2073 := Lib.hid (HRqi2060.out.below hb2007)
          clear HRqi2060
          have HUq2074 := Lib.hid (HUq2061.out.below hb2007)
          clear HUq2061
          have HRg12075 := Lib.hid (HRg12062.out.below hb2007)
          clear HRg12062
          have HRw2076 := Lib.hid (HRw2063.out.below hb2007)
          clear HRw2063
          have HRv2077 := Lib.hid (HRv2064.out.below hb2007)
          clear HRv2064
          have HRu2078 := Lib.hid (HRu2065.out.below hb2007)
          clear HRu2065
          have HRh12079 := Lib.hid (HRh12066.out.below hb2007)
          clear HRh12066
          have HRh22080 := Lib.hid (HRh22067.out.below hb2007)
          clear HRh22067
          have HRh32081 := Lib.hid (HRh32069.out.below hb2007)
          clear HRh32069
          have HB2082 := Lib.hid (HB2068.out.trans (hb2007.mono HB2068.out.size))
          clear HB2068
          go_wp2_with fail
          refine (is_any ag1 ng1 cg1 S api npi cpi Ap _ HRg12075.out HSM.out HS.out.1 HRpi2070.out HA.out).mono ?_; rintro e x2008 ⟨rfl, hb2008⟩
          have HRpi2083 := Lib.hid (HRpi2070.out.below hb2008)
          clear HRpi2070
          have HUp2084 := Lib.hid (HUp2071.out.below hb2008)
          clear HUp2071
          have HRqs2085 := Lib.hid (HRqs2072.out.below hb2008)
          clear HRqs2072
          have HRqi2086 := Lib.hid (HRqi2073.out.below hb2008)
          clear HRqi2073
          have HUq2087 := Lib.hid (HUq2074.out.below hb2008)
          clear HUq2074
          have HRg12088 := Lib.hid (HRg12075.out.below hb2008)
          clear HRg12075
          have HRw2089 := Lib.hid (HRw2076.out.below hb2008)
          clear HRw2076
          have HRv2090 := Lib.hid (HRv2077.out.below hb2008)
          clear HRv2077
          have HRu2091 := Lib.hid (HRu2078.out.below hb2008)
          clear HRu2078
          have HRh12092 := Lib.hid (HRh12079.out.below hb2008)
          clear HRh12079
          have HRh22093 := Lib.hid (HRh22080.out.below hb2008)
          clear HRh22080
          have HRh32094 := Lib.hid (HRh32081.out.below hb2008)
          clear HRh32081
          have HB2095 := Lib.hid (HB2082.out.trans (hb2008.mono HB2082.out.size))
          clear HB2082
          go_wp2_with fail
          go_ret
          exact ⟨rfl, HB2095.out⟩

theorem own : ownKnob Try.prog.godebug = none := by kernel_rfl
theorem laidOut : laidOutB Try.prog = true := by kernel_rfl

set_option maxRecDepth 100000 in
theorem lifted (os : Os) (started : os.Started) (H : Type) (enc : TypeId × Value → H) :
    ReturnsInHanded {} Try.checked os 4 .any (Rows.spanChangesSpec.pre6 enc Try.prog Try.f4 Rows.spanChangesRow.domain false) (Rows.spanChangesSpec.post enc Try.prog Try.f4 false true false false) := by
  refine Base.law_lifted (C := Try.checked) own started (by kernel_rfl) Try.func4 laidOut (by kernel_rfl) rfl Try.underlying4 rfl ?_
    (ChangeSpec.witness6 (enc := enc) (C := Try.checked) false ⟨#[], #[.slice none 0 0, .agg #[.int .i64 0, .int .i64 0]], []⟩ 8 (by kernel_rfl) (by kernel_rfl) (by kernel_rfl) (by kernel_rfl)) ?_
  · intro ds h
    match ds, h with
    | [_d0, _d1], _ => exact ⟨rfl, rfl, rfl⟩
  · intro W base args ds before hval0 hA0 hlt hsz
    have hval : ∀ (j : Nat) t v, Try.f4.params[j]? = some t → args[j]? = some v → Value.okWide Try.prog W .any base t v := hval0
    have hA : DataW.TrodAll enc Try.prog W 0 (fun _ => true) true Try.f4.params.toList args.toList ds before := hA0
    clear hval0 hA0
    rw [Try.params4] at hA hval hsz
    obtain ⟨v0, vs0, d0, ds0, p0, q0, hargs, rfl, rfl, h0, r0⟩ := trodAll_cons hA
    obtain ⟨v1, vs1, d1, ds1, p1, q1, rfl, rfl, rfl, h1, r1⟩ := trodAll_cons r0
    obtain ⟨rfl, rfl, rfl⟩ := trodAll_nil r1
    obtain rfl : args = #[v0, v1] := by cases args; simp_all
    obtain ⟨a0, w0⟩ := Base.open_pairs Try.underlying22 Try.underlying35 (by kernel_rfl) rfl rfl rfl rfl Try.underlying3 (by kernel_rfl) (hval 0 22 v0 rfl rfl) h0 (fun x hx => hlt x (by simp [hx]))
    obtain ⟨a1, b1, rfl, w1, u1⟩ := Base.open_pair Try.underlying35 (by kernel_rfl) (by kernel_rfl) rfl rfl Try.underlying3 (hval 1 35 v1 rfl rfl) h1
    exact walk W v0 a0 w0 a1 b1 w1 u1

theorem over : Rows.spanChangesRow.holds Try.pinned (OpenSpec.ofChange Rows.spanChangesSpec) :=
  OpenClaim.holds_of_wide 4 Try.f4 rfl rfl rfl rfl rfl rfl rfl ⟨rfl, rfl, rfl, rfl, rfl⟩ rfl rfl rfl rfl rfl (by kernel_rfl) Try.func4 (by kernel_rfl)
    (of_decide_eq_true (by kernel_rfl)) (by unfold Func.isWrapper; first | (rw [if_pos (by decide +kernel)]; kernel_rfl) | (rw [if_neg (by decide +kernel)]; exact ⟨rfl, rfl⟩))
    (fun os started H enc _ => lifted os started H enc)

theorem proved : Rows.SpanChangesSaid :=
  over
#print axioms proved
end Go.Proofs.Ytippbgbjldgahaa.spanChanges
