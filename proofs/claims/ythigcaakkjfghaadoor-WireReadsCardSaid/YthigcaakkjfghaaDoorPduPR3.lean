/-
  Bytes are read by the document's words: a kind with an SQ, and one that has nothing.
-/
import Derived.Test.YthigcaakkjfghaaDoorPduPR2
namespace Go.Proofs.YthigcaakkjfghaaDoor.Pdu
open Go.ChangeShapes Go.WideShapes Go.RowKit Own

set_option maxRecDepth 100000 in
set_option maxHeartbeats 40000000 in
theorem rparse_S (s : ByteArray) (w : World) (h0 : s.size ≠ 0) (h1 : s.size % 4 = 0) (hm : s.size ≤ 100000) (hkind : hasSQ (kindP s : Int) = true) :
    Calls Tryd.prog 43 #[.string s] w fun e w' => Below w.heap.size w w' ∧ ((codeP s ≠ 0 ∧ e = .returned (told (.agg zeroR) (codeP s))) ∨ (codeP s = 0 ∧ ∃ lv, e = .returned (told ((unitP s).val .i64 lv) 0) ∧ OwnI .i64 3 w' w.heap.size lv (unitP s).list)) := by
  have he := isEmpty_no h0
  have hmz : ((s.size : Int) % 4 != 0) = false := by
    rw [bne_eq_false_iff_eq]; omega
  have h04 : 4 ≤ s.size := by omega
  have HC : Hid (1 ≤ kindP s → codeP s = if s.size / 4 < needN (kindP s) then 5 else if restN s (kindP s) < padP s then 5 else
    if checkU (unitR s (kindP s) (selfP s) (padP s)) = 6 then 6 else if bytesU (unitR s (kindP s) (selfP s) (padP s)) ≠ s then 3 else 0) := Lib.hid (code_R s h1 h04)
  have HUR : Hid (1 ≤ kindP s → needN (kindP s) ≤ s.size / 4 → unitP s = unitR s (kindP s) (selfP s) (padP s)) := Lib.hid (fun a b => unit_R s h1 h04 a b)
  have HC0 : Hid (kindP s = 0 → codeP s = 10) := Lib.hid (fun h => by unfold codeP; rw [if_neg (by omega), if_pos h])
  have HM := Lib.hid hm
  obtain ⟨f1, f2, f3, f4, f5, f6⟩ := word_facts s
  have hlw : wd s 0 = lastW s := by unfold lastW; rw [last_at s h04]
  have hn : nP s = lastW s % 16777216 := rfl
  have hsf : selfP s = (lastW s / 536870912 % 2 == 1) := rfl
  obtain ⟨b, hb⟩ : ∃ b : Nat, lastW s / 536870912 % 2 = (b : Int) := ⟨(lastW s / 536870912 % 2).toNat, by omega⟩
  rw [hb] at hsf
  obtain ⟨X, hX⟩ : ∃ X, lastW s = X := ⟨_, rfl⟩
  rw [hX] at f1 f2 f3 f5 hn hb hlw
  obtain ⟨k, hk⟩ : ∃ k, kindP s = k := ⟨_, rfl⟩
  obtain ⟨pd, hpd⟩ : ∃ pd, padP s = pd := ⟨_, rfl⟩
  obtain ⟨sf, hsf2⟩ : ∃ sf, selfP s = sf := ⟨_, rfl⟩
  obtain ⟨N0, hn0⟩ : ∃ N0, nP s = N0 := ⟨_, rfl⟩
  obtain ⟨m, hm4⟩ : ∃ m, s.size / 4 = m := ⟨_, rfl⟩
  have HSZ : Hid (s.size = 4 * m) := Lib.hid (by omega)
  rw [hk] at f3 f4 HC HUR HC0
  rw [hpd] at f5 f6 HC HUR
  rw [hsf2] at hsf HC HUR
  rw [hn0] at hn
  rw [hm4] at HC HUR
  have hszm : (s.size : Int) / 4 = (m : Int) := by omega
  have hmb : (m : Int) ≤ 25000 := by omega
  have HN := Lib.hid hn
  have HN0 := Lib.hid hn0
  have HSF := Lib.hid hsf
  have HSF2 := Lib.hid hsf2
  have HK := Lib.hid hk
  have HPD := Lib.hid hpd
  have HLW := Lib.hid hlw
  have HK16 := Lib.hid f3
  have HPDX := Lib.hid f5
  have HB2 := Lib.hid hb
  have e1 : X / 16777216 % 16 = (k : Int) := f3.symm
  have e2 : X % 16777216 = N0 := hn.symm
  have e3 : X / 536870912 % 2 = (b : Int) := hb
  have e4 : X / 1073741824 = (pd : Int) := f5.symm
  have HM4 := Lib.hid hm4
  rw [hk] at hkind
  have HKIND := Lib.hid hkind
  clear hkind hm h0 h1 hn hn0 hsf hsf2 hk hpd hX hlw f3 f5 hb hm4
  go_enter Tryd.func43, Tryd.ntmps43
  go_upto_region 7 with (go_at_call 59; refine (at_wd s _ 0 _ rfl h04 HM.out).mono ?_; rintro e w' ⟨rfl, nw, rfl⟩; rw [HLW.out])
  rw [e4, ← HSF.out]
  have HP0 : Hid (PR w ((((w.alloc (.cells zeroR 24)).alloc (.cells zeroR 24)).drewN nw).alloc (.cells (aggR (k : Int) 0 N0 0 0 (.slice none 0 0) sf ⟨#[]⟩) 24)) w.heap.size (aggR (k : Int) 0 N0 0 0 (.slice none 0 0) sf ⟨#[]⟩)) := Lib.hid (by
    have hs : (((w.alloc (.cells zeroR 24)).alloc (.cells zeroR 24)).drewN nw).heap.size = w.heap.size + 2 := by
      show ((w.alloc _).alloc _).heap.size = _; simp
    have hb : Below (w.heap.size + 2) ((w.alloc (.cells zeroR 24)).alloc (.cells zeroR 24)) ((((w.alloc (.cells zeroR 24)).alloc (.cells zeroR 24)).drewN nw).alloc (.cells (aggR (k : Int) 0 N0 0 0 (.slice none 0 0) sf ⟨#[]⟩) 24)) :=
      (below_drewN (Below.refl _ _) nw).alloc (by rw [hs]; exact Nat.le_refl _) _
    refine ⟨(hb.block _ (by omega)).trans (heap_alloc2_old w _ _), (hb.block _ (by omega)).trans (heap_alloc2_new w _ _), ?_, (((Below.refl _ _).alloc (Nat.le_refl _) _).alloc (by simp) _).trans (hb.mono (by omega))⟩
    rw [← hs]; exact heap_alloc_new _ _)
  generalize ((((w.alloc (.cells zeroR 24)).alloc (.cells zeroR 24)).drewN nw).alloc (.cells (aggR (k : Int) 0 N0 0 0 (.slice none 0 0) sf ⟨#[]⟩) 24)) = W0 at *
  generalize hgg : w.heap.size = g at *
  have HG := Lib.hid hgg
  clear hgg e1 e2 e3 e4 f1 f2 nw
  have hg2 : g + 1 + 1 = g + 2 := rfl
  rw [hg2]
  clear hg2
  have k0 : W0.cell? ⟨g + 2, 0, none⟩ = some (.int .i64 (k : Int)) := Go.Joins.cell_of_block HP0.out.b2 0
  have hkind := HKIND.out
  clear HKIND
  have hk13 : k ≠ 8 ∧ k ≠ 10 ∧ k ≠ 11 ∧ k ≠ 12 ∧ k ≠ 0 := by
    refine ⟨?_, ?_, ?_, ?_, ?_⟩ <;> (rintro rfl; exact absurd hkind (by decide))
  have HS := Lib.hid hkind
  have hb10 : ((k : Int) == 10) = false := by rw [beq_eq_false_iff_ne]; omega
  have hb11 : ((k : Int) == 11) = false := by rw [beq_eq_false_iff_ne]; omega
  have hb12 : ((k : Int) == 12) = false := by rw [beq_eq_false_iff_ne]; omega
  have hkb : ((k : Int) == 0) = false := by rw [beq_eq_false_iff_ne]; omega
  have h1k : 1 ≤ k := by omega
  have hnd : needN k = 2 := by unfold needN; rw [if_neg (by omega), if_neg (by omega), if_pos (.inl hkind)]
  have HV : Hid (sqR s k = wd s 1 ∧ psR s k = 0 ∧ mrR s k = 0 ∧ lstR s k = []) := Lib.hid (by unfold sqR psR mrR lstR; rw [if_pos hkind, if_neg (by omega), if_neg (by omega), if_neg (by omega), if_neg (by omega), if_neg (by omega)]; exact ⟨rfl, rfl, rfl, rfl⟩)
  have HC2 := HC.out h1k
  have HUR2 := HUR.out h1k
  rw [hnd] at HC2 HUR2
  have HC3 := Lib.hid HC2
  have HUR3 := Lib.hid HUR2
  have hsl : s.size ≤ 100000 := HM.out
  have HREST : Hid (restN s k = 4 * (m - 2)) := Lib.hid (by unfold restN; rw [if_neg (by omega), hnd, HM4.out])
  have HNEED := Lib.hid hnd
  have HK15 := Lib.hid f4
  clear HC HC0 HUR HC2 HUR2 hnd hkind
  by_cases hlt : m < 2
  · have HCO : Hid (codeP s = 5) := Lib.hid (by rw [HC3.out, if_pos hlt])
    have hltI : (m : Int) < 2 := by omega
    clear hlt HC3 HUR3
    go_upto_region 18 with (go_at_call 33; refine (hasSQ_any (k : Int) _).mono ?_; rintro e W1 ⟨rfl, hb1⟩; rw [HS.out]; (have HP1 := Lib.hid (HP0.out.below hb1)); (have k1 : W1.cell? ⟨g + 2, 0, none⟩ = some (.int .i64 (k : Int)) := Go.Joins.cell_of_block HP1.out.b2 0); clear hb1)
    go_wp2_with (first | (refine wpList_load_row rfl 24 _ rfl (g + 1) rfl 24 zeroR (0, 0) _ HP1.out.b1 Tryd.underlying24 rfl info_refp ?_) | (refine wpList_store_row rfl 24 _ _ rfl g zeroR rfl rfl 24 _ HP1.out.b0 info_refp rfl (by simp [Value.oneCell']) ?_))
    refine bodyPost_ret (results_row_tmp rfl _ _ g 24 _ (0, 0) _ rfl (setRow_heap _ _ _ _ 24 (0, 0) HP1.out.b0) Tryd.underlying24 rfl info_refp) rfl ⟨by rw [HG.out]; exact below_setRow HP1.out.bel (Nat.le_refl _) _, .inl ⟨by rw [HCO.out]; decide, by rw [HCO.out]; rfl⟩⟩
  · have HC4 : Hid (codeP s = if restN s k < pd then 5 else if checkU (unitR s k sf pd) = 6 then 6 else if bytesU (unitR s k sf pd) ≠ s then 3 else 0) := Lib.hid (by rw [HC3.out, if_neg hlt])
    have HUR4 : Hid (unitP s = unitR s k sf pd) := Lib.hid (HUR3.out (by omega))
    have hle : 2 ≤ m := by omega
    have hleI : (2 : Int) ≤ (m : Int) := by omega
    have hs4m : 4 * m ≤ s.size := by have := HSZ.out; omega
    clear hlt HC3 HUR3
    go_upto_region 36 with (first
      | ((have _s := t2); go_at_call 59; refine (at_wd s _ 1 _ rfl (by omega) hsl).mono ?_; rintro e w' ⟨rfl, nw, rfl⟩)
      | ((have _s := t1); go_at_call 33; refine (hasSQ_any (k : Int) _).mono ?_; rintro e W2 ⟨rfl, hb2⟩; rw [HS.out]; (have HP2' := Lib.hid (HP1.out.below hb2)); (have k2 : W2.cell? ⟨g + 2, 0, none⟩ = some (.int .i64 (k : Int)) := Go.Joins.cell_of_block HP2'.out.b2 0); (have z1 : W2.frozen? ⟨g + 2, 1, none⟩ = false := HP2'.out.free 1); (have q1 : W2.cell? ⟨g + 2, 1, none⟩ = some (.int .i64 0) := Go.Joins.cell_of_block HP2'.out.b2 1); clear hb2; have t2 : True := trivial)
      | (go_at_call 33; refine (hasSQ_any (k : Int) _).mono ?_; rintro e W1 ⟨rfl, hb1⟩; rw [HS.out]; (have HP1 := Lib.hid (HP0.out.below hb1)); (have k1 : W1.cell? ⟨g + 2, 0, none⟩ = some (.int .i64 (k : Int)) := Go.Joins.cell_of_block HP1.out.b2 0); clear hb1; have t1 : True := trivial))
    clear k0 k1 k2 z1 q1 t1 t2
    have hp2 : PR w ((W2.drewN nw).setCell ⟨g + 2, 1, none⟩ (.int .i64 (wd s 1))) g (aggR (k : Int) (sqR s k) N0 (psR s k) (mrR s k) (.slice none 0 0) sf ⟨#[]⟩) := by
      rw [HV.out.1, HV.out.2.1, HV.out.2.2.1]; exact (HP2'.out.drewN nw).set1 _
    have ho2 : OwnI .i64 3 ((W2.drewN nw).setCell ⟨g + 2, 1, none⟩ (.int .i64 (wd s 1))) (g + 3) (.slice none 0 0) (lstR s k) := by
      rw [HV.out.2.2.2]; exact OwnI.nil
    obtain ⟨r, hr⟩ : ∃ r, restN s k = r := ⟨_, rfl⟩
    have HR := Lib.hid hr
    have hrI : 4 * ((m : Int) - 2) = (r : Int) := by have := HREST.out; rw [hr] at this; omega
    rw [hrI]
    clear hr hrI
    generalize (W2.drewN nw).setCell ⟨g + 2, 1, none⟩ (.int .i64 (wd s 1)) = W3 at *
    obtain ⟨la, ln, lc, hlv, _, hrd⟩ := ho2.form
    rw [hlv] at hp2 ho2
    clear hlv
    have HP2 := Lib.hid hp2
    have HO2 := Lib.hid ho2
    have HRD := Lib.hid hrd
    clear hp2 ho2 hrd
    by_cases hlt : r < pd
    · have HCO : Hid (codeP s = 5) := Lib.hid (by rw [HC4.out, HR.out, if_pos hlt])
      have hltI : (r : Int) < (pd : Int) := by omega
      clear HC4
      go_wp2_with (first | (refine wpList_load_row rfl 24 _ rfl (g + 1) rfl 24 zeroR (0, 0) _ HP2.out.b1 Tryd.underlying24 rfl info_refp ?_) | (refine wpList_store_row rfl 24 _ _ rfl g zeroR rfl rfl 24 _ HP2.out.b0 info_refp rfl (by simp [Value.oneCell']) ?_))
      refine bodyPost_ret (results_row_tmp rfl _ _ g 24 _ (0, 0) _ rfl (setRow_heap _ _ _ _ 24 (0, 0) HP2.out.b0) Tryd.underlying24 rfl info_refp) rfl ⟨by rw [HG.out]; exact below_setRow HP2.out.bel (Nat.le_refl _) _, .inl ⟨by rw [HCO.out]; decide, by rw [HCO.out]; rfl⟩⟩
    · obtain ⟨d, hd⟩ : ∃ d, r = d + pd := ⟨r - pd, by omega⟩
      have hdI : (r : Int) - (pd : Int) = (d : Int) := by omega
      have hdle : (d : Int) ≤ (s.size : Int) := by have := restN_le s k; rw [HR.out] at this; omega
      have HUD : Hid (unitR s k sf pd = ⟨(k : Int), sqR s k, N0, psR s k, mrR s k, lstR s k, sf, s.extract 0 d⟩) := Lib.hid (by unfold unitR; rw [HN0.out, HR.out, hd, Nat.add_sub_cancel])
      have HU : Hid (unitP s = ⟨(k : Int), sqR s k, N0, psR s k, mrR s k, lstR s k, sf, s.extract 0 d⟩) := Lib.hid (by rw [HUR4.out, HUD.out])
      have HPS := Lib.hid (ps_pos s k)
      have HMR := Lib.hid (mr_pos s k)
      have HLP := Lib.hid (lst_pos s k)
      have HLL := Lib.hid (lst_len s k hsl)
      have HCT := Lib.hid (check_three ⟨(k : Int), sqR s k, N0, psR s k, mrR s k, lstR s k, sf, s.extract 0 d⟩ k rfl h1k HK15.out)
      have HC5 : Hid (codeP s = if checkU ⟨(k : Int), sqR s k, N0, psR s k, mrR s k, lstR s k, sf, s.extract 0 d⟩ = 6 then 6 else if bytesU ⟨(k : Int), sqR s k, N0, psR s k, mrR s k, lstR s k, sf, s.extract 0 d⟩ ≠ s then 3 else 0) := Lib.hid (by rw [HC4.out, HR.out, if_neg hlt, HUD.out])
      have HN00 : Hid (0 ≤ N0) := Lib.hid (by rw [← HN0.out]; unfold nP; have := (word_facts s).1; omega)
      have z7 := HP2.out.free 7
      have q7 : W3.cell? ⟨g + 2, 7, none⟩ = some (.string ⟨#[]⟩) := Go.Joins.cell_of_block HP2.out.b2 7
      have hgeI : (pd : Int) ≤ (r : Int) := by omega
      clear hlt hd HC4 HUR4 HUD HR
      go_upto_region 39 with (fail)
      have HP3 : Hid (PR w (W3.setCell ⟨g + 2, 7, none⟩ (.string (s.extract 0 d))) g (aggR (k : Int) (sqR s k) N0 (psR s k) (mrR s k) (.slice la ln lc) sf (s.extract 0 d))) := Lib.hid (HP2.out.set7 _)
      have HO3 := Lib.hid (own_setCell (p := ⟨g + 2, 7, none⟩) (u := .string (s.extract 0 d)) HO2.out (show g + 2 < g + 3 by omega))
      have HRD3 : Hid (RdI .i64 (W3.setCell ⟨g + 2, 7, none⟩ (.string (s.extract 0 d))) la ln (lstR s k)) := Lib.hid (by
        obtain ⟨a3, n3, c3, e, _, hr3⟩ := HO3.out.form
        cases e; exact hr3)
      clear z7 q7 HP2 HO2 HRD hdI hdle hgeI
      generalize W3.setCell ⟨g + 2, 7, none⟩ (.string (s.extract 0 d)) = W5 at *
      have HS4 : Hid (4 ≤ s.size) := Lib.hid h04
      generalize s.extract 0 d = D at *
      generalize psR s k = ps at *
      generalize mrR s k = mr at *
      generalize sqR s k = sq at *
      generalize lstR s k = L at *
      have HLN : Hid (ln ≤ 1000000) := Lib.hid (by have := HRD3.out.1; have := HLL.out; omega)
      go_upto_region 40 with (first
        | (refine wpList_load_row rfl 24 _ rfl (g + 2) rfl 24 (aggR (k : Int) sq N0 ps mr (.slice la ln lc) sf D) (0, 0) _ HP3.out.b2 Tryd.underlying24 rfl info_refp ?_)
        | (go_at_call 13
           refine (rcheck_any (k : Int) sq N0 ps mr la ln lc L sf D _ HRD3.out HLN.out HN00.out HPS.out HMR.out HLP.out).mono ?_; rintro e W6 ⟨rfl, hb6⟩))
      have HP6 := Lib.hid (HP3.out.below hb6)
      have HO6 := Lib.hid (HO3.out.below hb6)
      have HRD6 := Lib.hid (HRD3.out.below hb6)
      obtain ⟨c, hc⟩ : ∃ c, checkU ⟨(k : Int), sq, N0, ps, mr, L, sf, D⟩ = c := ⟨_, rfl⟩
      obtain ⟨Y, hY⟩ : ∃ Y, bytesU ⟨(k : Int), sq, N0, ps, mr, L, sf, D⟩ = Y := ⟨_, rfl⟩
      have HC6 : Hid (codeP s = if c = 6 then 6 else if Y ≠ s then 3 else 0) := Lib.hid (by rw [HC5.out, hc, hY])
      have HCT2 : Hid (c = 0 ∨ c = 1 ∨ c = 6) := Lib.hid (by rw [← hc]; exact HCT.out)
      have HY1 : Hid (c ≠ 0 → Y ≠ s) := Lib.hid (fun h e => by
        have : Y = ⟨#[]⟩ := by rw [← hY]; unfold bytesU; rw [hc, if_neg h]
        have h4 := HS4.out
        rw [← e, this] at h4
        exact absurd h4 (by decide))
      have HCC := Lib.hid hc
      have HYY := Lib.hid hY
      rw [hc]
      clear hb6 hc hY HC5 HCT HP3 HO3 HRD3 h04
      by_cases hc1 : c = 1
      · have HCO : Hid (codeP s = 3) := Lib.hid (by rw [HC6.out, if_neg (by omega), if_pos (HY1.out (by omega))])
        have hcb : (c == 1) = true := by simp [hc1]
        have h3n : ((3 : Int) != 0) = true := by decide
        clear hc1
        go_wp2_with (first | (refine wpList_load_row rfl 24 _ rfl (g + 1) rfl 24 zeroR (0, 0) _ HP6.out.b1 Tryd.underlying24 rfl info_refp ?_) | (refine wpList_store_row rfl 24 _ _ rfl g zeroR rfl rfl 24 _ HP6.out.b0 info_refp rfl (by simp [Value.oneCell']) ?_))
        refine bodyPost_ret (results_row_tmp rfl _ _ g 24 _ (0, 0) _ rfl (setRow_heap _ _ _ _ 24 (0, 0) HP6.out.b0) Tryd.underlying24 rfl info_refp) rfl ⟨by rw [HG.out]; exact below_setRow HP6.out.bel (Nat.le_refl _) _, .inl ⟨by rw [HCO.out]; decide, by rw [HCO.out]; rfl⟩⟩
      · have hcb : (c == 1) = false := by simp [hc1]
        by_cases hc0 : c = 0
        · subst hc0
          have h00 : ((0 : Int) == 0) = true := by decide
          clear hcb hc1
          by_cases hys : Y = s
          · subst hys
            have HCO : Hid (codeP Y = 0) := Lib.hid (by rw [HC6.out, if_neg (by decide), if_neg (fun h => h rfl)])
            have hyn : (Y.toList != Y.toList) = false := by rw [bne, beq_self_eq_true]; rfl
            have hz := HP6.out.b2
            have c0 := Go.Joins.cell_of_block hz 0
            have c1 := Go.Joins.cell_of_block hz 1
            have c2 := Go.Joins.cell_of_block hz 2
            have c3 := Go.Joins.cell_of_block hz 3
            have c4 := Go.Joins.cell_of_block hz 4
            have c5 := Go.Joins.cell_of_block hz 5
            have c6 := Go.Joins.cell_of_block hz 6
            have c7 := Go.Joins.cell_of_block hz 7
            clear hz
            go_wp2_with (first | ((have _s := t7); (refine wpList_load_row rfl 24 _ rfl (g + 2) rfl 24 (aggR (k : Int) sq N0 ps mr (.slice la ln lc) sf D) (0, 0) _ HP7.out.b2 Tryd.underlying24 rfl info_refp ?_)) | ((have _s := t7); (refine wpList_store_row rfl 24 _ _ rfl g (aggR (k : Int) sq N0 ps mr (.slice la ln lc) sf D) rfl rfl 24 _ HP7.out.b0 info_refp rfl (by simp [Value.oneCell']) ?_)) | (go_at_call 37; refine (rbytes_any (k : Int) sq N0 ps mr la ln lc L sf D _ HRD6.out HLN.out HN00.out HPS.out HMR.out HLP.out).mono ?_; rintro e W7 ⟨rfl, hb7⟩; rw [HYY.out]; clear c0 c1 c2 c3 c4 c5 c6 c7; (have HP7 := Lib.hid (HP6.out.below hb7)); (have HO7 := Lib.hid (HO6.out.below hb7)); clear hb7; have t7 : True := trivial))
            refine bodyPost_ret (results_row_tmp rfl _ _ g 24 _ (0, 0) _ rfl (setRow_heap _ _ _ _ 24 (0, 0) HP7.out.b0) Tryd.underlying24 rfl info_refp) rfl ⟨by rw [HG.out]; exact below_setRow HP7.out.bel (Nat.le_refl _) _, .inr ⟨HCO.out, .slice la ln lc, by rw [HU.out]; rfl, ?_⟩⟩
            rw [HU.out, HG.out]
            exact (own_setRow HO7.out (show g < g + 3 by omega)).lower (by omega)
          · have HCO : Hid (codeP s = 3) := Lib.hid (by rw [HC6.out, if_neg (by decide), if_pos hys])
            have hyy : (Y.toList == s.toList) = false := by
              rw [beq_eq_false_iff_ne]
              intro e
              rw [ByteArray.toList_eq, ByteArray.toList_eq] at e
              exact hys (str_ext e)
            have hyn : (Y.toList != s.toList) = true := by rw [bne, hyy]; rfl
            have h3n : ((3 : Int) != 0) = true := by decide
            clear hys
            have hz := HP6.out.b2
            have c0 := Go.Joins.cell_of_block hz 0
            have c1 := Go.Joins.cell_of_block hz 1
            have c2 := Go.Joins.cell_of_block hz 2
            have c3 := Go.Joins.cell_of_block hz 3
            have c4 := Go.Joins.cell_of_block hz 4
            have c5 := Go.Joins.cell_of_block hz 5
            have c6 := Go.Joins.cell_of_block hz 6
            have c7 := Go.Joins.cell_of_block hz 7
            clear hz
            go_wp2_with (first | ((have _s := t7); (refine wpList_load_row rfl 24 _ rfl (g + 1) rfl 24 zeroR (0, 0) _ HP7.out.b1 Tryd.underlying24 rfl info_refp ?_)) | ((have _s := t7); (refine wpList_store_row rfl 24 _ _ rfl g zeroR rfl rfl 24 _ HP7.out.b0 info_refp rfl (by simp [Value.oneCell']) ?_)) | (go_at_call 37; refine (rbytes_any (k : Int) sq N0 ps mr la ln lc L sf D _ HRD6.out HLN.out HN00.out HPS.out HMR.out HLP.out).mono ?_; rintro e W7 ⟨rfl, hb7⟩; rw [HYY.out]; clear c0 c1 c2 c3 c4 c5 c6 c7; (have HP7 := Lib.hid (HP6.out.below hb7)); (have HO7 := Lib.hid (HO6.out.below hb7)); clear hb7; have t7 : True := trivial))
            refine bodyPost_ret (results_row_tmp rfl _ _ g 24 _ (0, 0) _ rfl (setRow_heap _ _ _ _ 24 (0, 0) HP7.out.b0) Tryd.underlying24 rfl info_refp) rfl ⟨by rw [HG.out]; exact below_setRow HP7.out.bel (Nat.le_refl _) _, .inl ⟨by rw [HCO.out]; decide, by rw [HCO.out]; rfl⟩⟩
        · obtain rfl : c = 6 := by have := HCT2.out; omega
          have HCO : Hid (codeP s = 6) := Lib.hid (by rw [HC6.out, if_pos rfl])
          clear hc0 hc1
          go_wp2_with (first | (refine wpList_load_row rfl 24 _ rfl (g + 1) rfl 24 zeroR (0, 0) _ HP6.out.b1 Tryd.underlying24 rfl info_refp ?_) | (refine wpList_store_row rfl 24 _ _ rfl g zeroR rfl rfl 24 _ HP6.out.b0 info_refp rfl (by simp [Value.oneCell']) ?_))
          refine bodyPost_ret (results_row_tmp rfl _ _ g 24 _ (0, 0) _ rfl (setRow_heap _ _ _ _ 24 (0, 0) HP6.out.b0) Tryd.underlying24 rfl info_refp) rfl ⟨by rw [HG.out]; exact below_setRow HP6.out.bel (Nat.le_refl _) _, .inl ⟨by rw [HCO.out]; decide, by rw [HCO.out]; rfl⟩⟩
set_option maxRecDepth 100000 in
set_option maxHeartbeats 40000000 in
theorem rparse_O (s : ByteArray) (w : World) (h0 : s.size ≠ 0) (h1 : s.size % 4 = 0) (hm : s.size ≤ 100000) (hkind : kindP s = 8 ∨ kindP s = 13 ∨ kindP s = 14) :
    Calls Tryd.prog 43 #[.string s] w fun e w' => Below w.heap.size w w' ∧ ((codeP s ≠ 0 ∧ e = .returned (told (.agg zeroR) (codeP s))) ∨ (codeP s = 0 ∧ ∃ lv, e = .returned (told ((unitP s).val .i64 lv) 0) ∧ OwnI .i64 3 w' w.heap.size lv (unitP s).list)) := by
  have he := isEmpty_no h0
  have hmz : ((s.size : Int) % 4 != 0) = false := by
    rw [bne_eq_false_iff_eq]; omega
  have h04 : 4 ≤ s.size := by omega
  have HC : Hid (1 ≤ kindP s → codeP s = if s.size / 4 < needN (kindP s) then 5 else if restN s (kindP s) < padP s then 5 else
    if checkU (unitR s (kindP s) (selfP s) (padP s)) = 6 then 6 else if bytesU (unitR s (kindP s) (selfP s) (padP s)) ≠ s then 3 else 0) := Lib.hid (code_R s h1 h04)
  have HUR : Hid (1 ≤ kindP s → needN (kindP s) ≤ s.size / 4 → unitP s = unitR s (kindP s) (selfP s) (padP s)) := Lib.hid (fun a b => unit_R s h1 h04 a b)
  have HC0 : Hid (kindP s = 0 → codeP s = 10) := Lib.hid (fun h => by unfold codeP; rw [if_neg (by omega), if_pos h])
  have HM := Lib.hid hm
  obtain ⟨f1, f2, f3, f4, f5, f6⟩ := word_facts s
  have hlw : wd s 0 = lastW s := by unfold lastW; rw [last_at s h04]
  have hn : nP s = lastW s % 16777216 := rfl
  have hsf : selfP s = (lastW s / 536870912 % 2 == 1) := rfl
  obtain ⟨b, hb⟩ : ∃ b : Nat, lastW s / 536870912 % 2 = (b : Int) := ⟨(lastW s / 536870912 % 2).toNat, by omega⟩
  rw [hb] at hsf
  obtain ⟨X, hX⟩ : ∃ X, lastW s = X := ⟨_, rfl⟩
  rw [hX] at f1 f2 f3 f5 hn hb hlw
  obtain ⟨k, hk⟩ : ∃ k, kindP s = k := ⟨_, rfl⟩
  obtain ⟨pd, hpd⟩ : ∃ pd, padP s = pd := ⟨_, rfl⟩
  obtain ⟨sf, hsf2⟩ : ∃ sf, selfP s = sf := ⟨_, rfl⟩
  obtain ⟨N0, hn0⟩ : ∃ N0, nP s = N0 := ⟨_, rfl⟩
  obtain ⟨m, hm4⟩ : ∃ m, s.size / 4 = m := ⟨_, rfl⟩
  have HSZ : Hid (s.size = 4 * m) := Lib.hid (by omega)
  rw [hk] at f3 f4 HC HUR HC0
  rw [hpd] at f5 f6 HC HUR
  rw [hsf2] at hsf HC HUR
  rw [hn0] at hn
  rw [hm4] at HC HUR
  have hszm : (s.size : Int) / 4 = (m : Int) := by omega
  have hmb : (m : Int) ≤ 25000 := by omega
  have HN := Lib.hid hn
  have HN0 := Lib.hid hn0
  have HSF := Lib.hid hsf
  have HSF2 := Lib.hid hsf2
  have HK := Lib.hid hk
  have HPD := Lib.hid hpd
  have HLW := Lib.hid hlw
  have HK16 := Lib.hid f3
  have HPDX := Lib.hid f5
  have HB2 := Lib.hid hb
  have e1 : X / 16777216 % 16 = (k : Int) := f3.symm
  have e2 : X % 16777216 = N0 := hn.symm
  have e3 : X / 536870912 % 2 = (b : Int) := hb
  have e4 : X / 1073741824 = (pd : Int) := f5.symm
  have HM4 := Lib.hid hm4
  rw [hk] at hkind
  have HKIND := Lib.hid hkind
  clear hkind hm h0 h1 hn hn0 hsf hsf2 hk hpd hX hlw f3 f5 hb hm4
  go_enter Tryd.func43, Tryd.ntmps43
  go_upto_region 7 with (go_at_call 59; refine (at_wd s _ 0 _ rfl h04 HM.out).mono ?_; rintro e w' ⟨rfl, nw, rfl⟩; rw [HLW.out])
  rw [e4, ← HSF.out]
  have HP0 : Hid (PR w ((((w.alloc (.cells zeroR 24)).alloc (.cells zeroR 24)).drewN nw).alloc (.cells (aggR (k : Int) 0 N0 0 0 (.slice none 0 0) sf ⟨#[]⟩) 24)) w.heap.size (aggR (k : Int) 0 N0 0 0 (.slice none 0 0) sf ⟨#[]⟩)) := Lib.hid (by
    have hs : (((w.alloc (.cells zeroR 24)).alloc (.cells zeroR 24)).drewN nw).heap.size = w.heap.size + 2 := by
      show ((w.alloc _).alloc _).heap.size = _; simp
    have hb : Below (w.heap.size + 2) ((w.alloc (.cells zeroR 24)).alloc (.cells zeroR 24)) ((((w.alloc (.cells zeroR 24)).alloc (.cells zeroR 24)).drewN nw).alloc (.cells (aggR (k : Int) 0 N0 0 0 (.slice none 0 0) sf ⟨#[]⟩) 24)) :=
      (below_drewN (Below.refl _ _) nw).alloc (by rw [hs]; exact Nat.le_refl _) _
    refine ⟨(hb.block _ (by omega)).trans (heap_alloc2_old w _ _), (hb.block _ (by omega)).trans (heap_alloc2_new w _ _), ?_, (((Below.refl _ _).alloc (Nat.le_refl _) _).alloc (by simp) _).trans (hb.mono (by omega))⟩
    rw [← hs]; exact heap_alloc_new _ _)
  generalize ((((w.alloc (.cells zeroR 24)).alloc (.cells zeroR 24)).drewN nw).alloc (.cells (aggR (k : Int) 0 N0 0 0 (.slice none 0 0) sf ⟨#[]⟩) 24)) = W0 at *
  generalize hgg : w.heap.size = g at *
  have HG := Lib.hid hgg
  clear hgg e1 e2 e3 e4 f1 f2 nw
  have hg2 : g + 1 + 1 = g + 2 := rfl
  rw [hg2]
  clear hg2
  have k0 : W0.cell? ⟨g + 2, 0, none⟩ = some (.int .i64 (k : Int)) := Go.Joins.cell_of_block HP0.out.b2 0
  have hkind := HKIND.out
  clear HKIND
  have hsf0 : hasSQ (k : Int) = false := by rcases hkind with rfl | rfl | rfl <;> rfl
  have HS := Lib.hid hsf0
  have hb10 : ((k : Int) == 10) = false := by rw [beq_eq_false_iff_ne]; omega
  have hb11 : ((k : Int) == 11) = false := by rw [beq_eq_false_iff_ne]; omega
  have hb12 : ((k : Int) == 12) = false := by rw [beq_eq_false_iff_ne]; omega
  have hkb : ((k : Int) == 0) = false := by rw [beq_eq_false_iff_ne]; omega
  have h1k : 1 ≤ k := by omega
  have hnd : needN k = 1 := by unfold needN; rcases hkind with rfl | rfl | rfl <;> rfl
  have HV : Hid (sqR s k = 0 ∧ psR s k = 0 ∧ mrR s k = 0 ∧ lstR s k = []) := Lib.hid (by rcases hkind with rfl | rfl | rfl <;> exact ⟨rfl, rfl, rfl, rfl⟩)
  have HC2 := HC.out h1k
  have HUR2 := HUR.out h1k
  rw [hnd] at HC2 HUR2
  have HC3 := Lib.hid HC2
  have HUR3 := Lib.hid HUR2
  have hsl : s.size ≤ 100000 := HM.out
  have HREST : Hid (restN s k = 4 * (m - 1)) := Lib.hid (by unfold restN; rw [if_neg (by omega), hnd, HM4.out])
  have HNEED := Lib.hid hnd
  have HK15 := Lib.hid f4
  clear HC HC0 HUR HC2 HUR2 hnd hkind hsf0
  by_cases hlt : m < 1
  · exfalso; have := HSZ.out; omega
  · have HC4 : Hid (codeP s = if restN s k < pd then 5 else if checkU (unitR s k sf pd) = 6 then 6 else if bytesU (unitR s k sf pd) ≠ s then 3 else 0) := Lib.hid (by rw [HC3.out, if_neg hlt])
    have HUR4 : Hid (unitP s = unitR s k sf pd) := Lib.hid (HUR3.out (by omega))
    have hle : 1 ≤ m := by omega
    have hleI : (1 : Int) ≤ (m : Int) := by omega
    have hs4m : 4 * m ≤ s.size := by have := HSZ.out; omega
    clear hlt HC3 HUR3
    go_upto_region 36 with (first
      | ((have _s := t1); go_at_call 33; refine (hasSQ_any (k : Int) _).mono ?_; rintro e W2 ⟨rfl, hb2⟩; rw [HS.out]; (have HP2' := Lib.hid (HP1.out.below hb2)); clear hb2)
      | (go_at_call 33; refine (hasSQ_any (k : Int) _).mono ?_; rintro e W1 ⟨rfl, hb1⟩; rw [HS.out]; (have HP1 := Lib.hid (HP0.out.below hb1)); (have k1 : W1.cell? ⟨g + 2, 0, none⟩ = some (.int .i64 (k : Int)) := Go.Joins.cell_of_block HP1.out.b2 0); clear hb1; have t1 : True := trivial))
    clear k0 k1 t1
    have hp2 : PR w (W2) g (aggR (k : Int) (sqR s k) N0 (psR s k) (mrR s k) (.slice none 0 0) sf ⟨#[]⟩) := by
      rw [HV.out.1, HV.out.2.1, HV.out.2.2.1]; exact HP2'.out
    have ho2 : OwnI .i64 3 (W2) (g + 3) (.slice none 0 0) (lstR s k) := by
      rw [HV.out.2.2.2]; exact OwnI.nil
    obtain ⟨r, hr⟩ : ∃ r, restN s k = r := ⟨_, rfl⟩
    have HR := Lib.hid hr
    have hrI : 4 * ((m : Int) - 1) = (r : Int) := by have := HREST.out; rw [hr] at this; omega
    rw [hrI]
    clear hr hrI
    generalize W2 = W3 at *
    obtain ⟨la, ln, lc, hlv, _, hrd⟩ := ho2.form
    rw [hlv] at hp2 ho2
    clear hlv
    have HP2 := Lib.hid hp2
    have HO2 := Lib.hid ho2
    have HRD := Lib.hid hrd
    clear hp2 ho2 hrd
    by_cases hlt : r < pd
    · have HCO : Hid (codeP s = 5) := Lib.hid (by rw [HC4.out, HR.out, if_pos hlt])
      have hltI : (r : Int) < (pd : Int) := by omega
      clear HC4
      go_wp2_with (first | (refine wpList_load_row rfl 24 _ rfl (g + 1) rfl 24 zeroR (0, 0) _ HP2.out.b1 Tryd.underlying24 rfl info_refp ?_) | (refine wpList_store_row rfl 24 _ _ rfl g zeroR rfl rfl 24 _ HP2.out.b0 info_refp rfl (by simp [Value.oneCell']) ?_))
      refine bodyPost_ret (results_row_tmp rfl _ _ g 24 _ (0, 0) _ rfl (setRow_heap _ _ _ _ 24 (0, 0) HP2.out.b0) Tryd.underlying24 rfl info_refp) rfl ⟨by rw [HG.out]; exact below_setRow HP2.out.bel (Nat.le_refl _) _, .inl ⟨by rw [HCO.out]; decide, by rw [HCO.out]; rfl⟩⟩
    · obtain ⟨d, hd⟩ : ∃ d, r = d + pd := ⟨r - pd, by omega⟩
      have hdI : (r : Int) - (pd : Int) = (d : Int) := by omega
      have hdle : (d : Int) ≤ (s.size : Int) := by have := restN_le s k; rw [HR.out] at this; omega
      have HUD : Hid (unitR s k sf pd = ⟨(k : Int), sqR s k, N0, psR s k, mrR s k, lstR s k, sf, s.extract 0 d⟩) := Lib.hid (by unfold unitR; rw [HN0.out, HR.out, hd, Nat.add_sub_cancel])
      have HU : Hid (unitP s = ⟨(k : Int), sqR s k, N0, psR s k, mrR s k, lstR s k, sf, s.extract 0 d⟩) := Lib.hid (by rw [HUR4.out, HUD.out])
      have HPS := Lib.hid (ps_pos s k)
      have HMR := Lib.hid (mr_pos s k)
      have HLP := Lib.hid (lst_pos s k)
      have HLL := Lib.hid (lst_len s k hsl)
      have HCT := Lib.hid (check_three ⟨(k : Int), sqR s k, N0, psR s k, mrR s k, lstR s k, sf, s.extract 0 d⟩ k rfl h1k HK15.out)
      have HC5 : Hid (codeP s = if checkU ⟨(k : Int), sqR s k, N0, psR s k, mrR s k, lstR s k, sf, s.extract 0 d⟩ = 6 then 6 else if bytesU ⟨(k : Int), sqR s k, N0, psR s k, mrR s k, lstR s k, sf, s.extract 0 d⟩ ≠ s then 3 else 0) := Lib.hid (by rw [HC4.out, HR.out, if_neg hlt, HUD.out])
      have HN00 : Hid (0 ≤ N0) := Lib.hid (by rw [← HN0.out]; unfold nP; have := (word_facts s).1; omega)
      have z7 := HP2.out.free 7
      have q7 : W3.cell? ⟨g + 2, 7, none⟩ = some (.string ⟨#[]⟩) := Go.Joins.cell_of_block HP2.out.b2 7
      have hgeI : (pd : Int) ≤ (r : Int) := by omega
      clear hlt hd HC4 HUR4 HUD HR
      go_upto_region 39 with (fail)
      have HP3 : Hid (PR w (W3.setCell ⟨g + 2, 7, none⟩ (.string (s.extract 0 d))) g (aggR (k : Int) (sqR s k) N0 (psR s k) (mrR s k) (.slice la ln lc) sf (s.extract 0 d))) := Lib.hid (HP2.out.set7 _)
      have HO3 := Lib.hid (own_setCell (p := ⟨g + 2, 7, none⟩) (u := .string (s.extract 0 d)) HO2.out (show g + 2 < g + 3 by omega))
      have HRD3 : Hid (RdI .i64 (W3.setCell ⟨g + 2, 7, none⟩ (.string (s.extract 0 d))) la ln (lstR s k)) := Lib.hid (by
        obtain ⟨a3, n3, c3, e, _, hr3⟩ := HO3.out.form
        cases e; exact hr3)
      clear z7 q7 HP2 HO2 HRD hdI hdle hgeI
      generalize W3.setCell ⟨g + 2, 7, none⟩ (.string (s.extract 0 d)) = W5 at *
      have HS4 : Hid (4 ≤ s.size) := Lib.hid h04
      generalize s.extract 0 d = D at *
      generalize psR s k = ps at *
      generalize mrR s k = mr at *
      generalize sqR s k = sq at *
      generalize lstR s k = L at *
      have HLN : Hid (ln ≤ 1000000) := Lib.hid (by have := HRD3.out.1; have := HLL.out; omega)
      go_upto_region 40 with (first
        | (refine wpList_load_row rfl 24 _ rfl (g + 2) rfl 24 (aggR (k : Int) sq N0 ps mr (.slice la ln lc) sf D) (0, 0) _ HP3.out.b2 Tryd.underlying24 rfl info_refp ?_)
        | (go_at_call 13
           refine (rcheck_any (k : Int) sq N0 ps mr la ln lc L sf D _ HRD3.out HLN.out HN00.out HPS.out HMR.out HLP.out).mono ?_; rintro e W6 ⟨rfl, hb6⟩))
      have HP6 := Lib.hid (HP3.out.below hb6)
      have HO6 := Lib.hid (HO3.out.below hb6)
      have HRD6 := Lib.hid (HRD3.out.below hb6)
      obtain ⟨c, hc⟩ : ∃ c, checkU ⟨(k : Int), sq, N0, ps, mr, L, sf, D⟩ = c := ⟨_, rfl⟩
      obtain ⟨Y, hY⟩ : ∃ Y, bytesU ⟨(k : Int), sq, N0, ps, mr, L, sf, D⟩ = Y := ⟨_, rfl⟩
      have HC6 : Hid (codeP s = if c = 6 then 6 else if Y ≠ s then 3 else 0) := Lib.hid (by rw [HC5.out, hc, hY])
      have HCT2 : Hid (c = 0 ∨ c = 1 ∨ c = 6) := Lib.hid (by rw [← hc]; exact HCT.out)
      have HY1 : Hid (c ≠ 0 → Y ≠ s) := Lib.hid (fun h e => by
        have : Y = ⟨#[]⟩ := by rw [← hY]; unfold bytesU; rw [hc, if_neg h]
        have h4 := HS4.out
        rw [← e, this] at h4
        exact absurd h4 (by decide))
      have HCC := Lib.hid hc
      have HYY := Lib.hid hY
      rw [hc]
      clear hb6 hc hY HC5 HCT HP3 HO3 HRD3 h04
      by_cases hc1 : c = 1
      · have HCO : Hid (codeP s = 3) := Lib.hid (by rw [HC6.out, if_neg (by omega), if_pos (HY1.out (by omega))])
        have hcb : (c == 1) = true := by simp [hc1]
        have h3n : ((3 : Int) != 0) = true := by decide
        clear hc1
        go_wp2_with (first | (refine wpList_load_row rfl 24 _ rfl (g + 1) rfl 24 zeroR (0, 0) _ HP6.out.b1 Tryd.underlying24 rfl info_refp ?_) | (refine wpList_store_row rfl 24 _ _ rfl g zeroR rfl rfl 24 _ HP6.out.b0 info_refp rfl (by simp [Value.oneCell']) ?_))
        refine bodyPost_ret (results_row_tmp rfl _ _ g 24 _ (0, 0) _ rfl (setRow_heap _ _ _ _ 24 (0, 0) HP6.out.b0) Tryd.underlying24 rfl info_refp) rfl ⟨by rw [HG.out]; exact below_setRow HP6.out.bel (Nat.le_refl _) _, .inl ⟨by rw [HCO.out]; decide, by rw [HCO.out]; rfl⟩⟩
      · have hcb : (c == 1) = false := by simp [hc1]
        by_cases hc0 : c = 0
        · subst hc0
          have h00 : ((0 : Int) == 0) = true := by decide
          clear hcb hc1
          by_cases hys : Y = s
          · subst hys
            have HCO : Hid (codeP Y = 0) := Lib.hid (by rw [HC6.out, if_neg (by decide), if_neg (fun h => h rfl)])
            have hyn : (Y.toList != Y.toList) = false := by rw [bne, beq_self_eq_true]; rfl
            have hz := HP6.out.b2
            have c0 := Go.Joins.cell_of_block hz 0
            have c1 := Go.Joins.cell_of_block hz 1
            have c2 := Go.Joins.cell_of_block hz 2
            have c3 := Go.Joins.cell_of_block hz 3
            have c4 := Go.Joins.cell_of_block hz 4
            have c5 := Go.Joins.cell_of_block hz 5
            have c6 := Go.Joins.cell_of_block hz 6
            have c7 := Go.Joins.cell_of_block hz 7
            clear hz
            go_wp2_with (first | ((have _s := t7); (refine wpList_load_row rfl 24 _ rfl (g + 2) rfl 24 (aggR (k : Int) sq N0 ps mr (.slice la ln lc) sf D) (0, 0) _ HP7.out.b2 Tryd.underlying24 rfl info_refp ?_)) | ((have _s := t7); (refine wpList_store_row rfl 24 _ _ rfl g (aggR (k : Int) sq N0 ps mr (.slice la ln lc) sf D) rfl rfl 24 _ HP7.out.b0 info_refp rfl (by simp [Value.oneCell']) ?_)) | (go_at_call 37; refine (rbytes_any (k : Int) sq N0 ps mr la ln lc L sf D _ HRD6.out HLN.out HN00.out HPS.out HMR.out HLP.out).mono ?_; rintro e W7 ⟨rfl, hb7⟩; rw [HYY.out]; clear c0 c1 c2 c3 c4 c5 c6 c7; (have HP7 := Lib.hid (HP6.out.below hb7)); (have HO7 := Lib.hid (HO6.out.below hb7)); clear hb7; have t7 : True := trivial))
            refine bodyPost_ret (results_row_tmp rfl _ _ g 24 _ (0, 0) _ rfl (setRow_heap _ _ _ _ 24 (0, 0) HP7.out.b0) Tryd.underlying24 rfl info_refp) rfl ⟨by rw [HG.out]; exact below_setRow HP7.out.bel (Nat.le_refl _) _, .inr ⟨HCO.out, .slice la ln lc, by rw [HU.out]; rfl, ?_⟩⟩
            rw [HU.out, HG.out]
            exact (own_setRow HO7.out (show g < g + 3 by omega)).lower (by omega)
          · have HCO : Hid (codeP s = 3) := Lib.hid (by rw [HC6.out, if_neg (by decide), if_pos hys])
            have hyy : (Y.toList == s.toList) = false := by
              rw [beq_eq_false_iff_ne]
              intro e
              rw [ByteArray.toList_eq, ByteArray.toList_eq] at e
              exact hys (str_ext e)
            have hyn : (Y.toList != s.toList) = true := by rw [bne, hyy]; rfl
            have h3n : ((3 : Int) != 0) = true := by decide
            clear hys
            have hz := HP6.out.b2
            have c0 := Go.Joins.cell_of_block hz 0
            have c1 := Go.Joins.cell_of_block hz 1
            have c2 := Go.Joins.cell_of_block hz 2
            have c3 := Go.Joins.cell_of_block hz 3
            have c4 := Go.Joins.cell_of_block hz 4
            have c5 := Go.Joins.cell_of_block hz 5
            have c6 := Go.Joins.cell_of_block hz 6
            have c7 := Go.Joins.cell_of_block hz 7
            clear hz
            go_wp2_with (first | ((have _s := t7); (refine wpList_load_row rfl 24 _ rfl (g + 1) rfl 24 zeroR (0, 0) _ HP7.out.b1 Tryd.underlying24 rfl info_refp ?_)) | ((have _s := t7); (refine wpList_store_row rfl 24 _ _ rfl g zeroR rfl rfl 24 _ HP7.out.b0 info_refp rfl (by simp [Value.oneCell']) ?_)) | (go_at_call 37; refine (rbytes_any (k : Int) sq N0 ps mr la ln lc L sf D _ HRD6.out HLN.out HN00.out HPS.out HMR.out HLP.out).mono ?_; rintro e W7 ⟨rfl, hb7⟩; rw [HYY.out]; clear c0 c1 c2 c3 c4 c5 c6 c7; (have HP7 := Lib.hid (HP6.out.below hb7)); (have HO7 := Lib.hid (HO6.out.below hb7)); clear hb7; have t7 : True := trivial))
            refine bodyPost_ret (results_row_tmp rfl _ _ g 24 _ (0, 0) _ rfl (setRow_heap _ _ _ _ 24 (0, 0) HP7.out.b0) Tryd.underlying24 rfl info_refp) rfl ⟨by rw [HG.out]; exact below_setRow HP7.out.bel (Nat.le_refl _) _, .inl ⟨by rw [HCO.out]; decide, by rw [HCO.out]; rfl⟩⟩
        · obtain rfl : c = 6 := by have := HCT2.out; omega
          have HCO : Hid (codeP s = 6) := Lib.hid (by rw [HC6.out, if_pos rfl])
          clear hc0 hc1
          go_wp2_with (first | (refine wpList_load_row rfl 24 _ rfl (g + 1) rfl 24 zeroR (0, 0) _ HP6.out.b1 Tryd.underlying24 rfl info_refp ?_) | (refine wpList_store_row rfl 24 _ _ rfl g zeroR rfl rfl 24 _ HP6.out.b0 info_refp rfl (by simp [Value.oneCell']) ?_))
          refine bodyPost_ret (results_row_tmp rfl _ _ g 24 _ (0, 0) _ rfl (setRow_heap _ _ _ _ 24 (0, 0) HP6.out.b0) Tryd.underlying24 rfl info_refp) rfl ⟨by rw [HG.out]; exact below_setRow HP6.out.bel (Nat.le_refl _) _, .inl ⟨by rw [HCO.out]; decide, by rw [HCO.out]; rfl⟩⟩
end Go.Proofs.YthigcaakkjfghaaDoor.Pdu
