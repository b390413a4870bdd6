/-
  Units: what is read of the words, where there is a List of any length.
-/
import Derived.Test.YtaappdaolenkiaaDoorPduRead2
namespace Go.Proofs.YtaappdaolenkiaaDoor.Pdu
open Go.ChangeShapes Go.WideShapes Go.RowKit Own

set_option maxHeartbeats 1000000 in
theorem read_B (k g1 g2 : Nat) (f2 f3 f4 f6 f8 n : Int) (f7 self : Bool) (st : St) (w : World) (hk : (k : Int) < 16) (hf : 0 < f4) (hf3 : 0 < f3) (hf6 : 0 < f6)
    (hR : ∀ w', Forms w' → w'.cell? ⟨0, k * 8, none⟩ = some (.int .i64 0) ∧ w'.cell? ⟨0, k * 8 + 1, none⟩ = some (.int .u32 f2) ∧ w'.cell? ⟨0, k * 8 + 2, none⟩ = some (.int .u32 f3) ∧ w'.cell? ⟨0, k * 8 + 3, none⟩ = some (.int .u32 f4) ∧ w'.cell? ⟨0, k * 8 + 4, none⟩ = some (.int .i64 0) ∧ w'.cell? ⟨0, k * 8 + 5, none⟩ = some (.int .i64 f6) ∧ w'.cell? ⟨0, k * 8 + 6, none⟩ = some (.bool f7) ∧ w'.cell? ⟨0, k * 8 + 7, none⟩ = some (.int .i64 f8))
    (hF : Forms w) (hp : PAt w g1 k 0 n 0 0 (.slice none 0 0) self) (hr : RestAt w g2 st.1 st.2) (hne : g1 ≠ g2) (hm : st.1.size ≤ 100000) :
    Calls Tryd.prog 33 #[.pointer (some ⟨g1, 0, none⟩), .pointer (some ⟨g2, 0, none⟩)] w fun e w' => (∃ v, e = .returned v) ∧
      ∃ lv, PAt w' g1 k 0 n (takeW (takeW st).2).1 (takeW st).1 lv self ∧ OwnI .u32 29 w' (w.heap.size + 1) lv (takeN ((takeW (takeW st).2).2.1.size / 4) (takeW (takeW st).2).2).1.reverse ∧
        RestAt w' g2 (takeN ((takeW (takeW st).2).2.1.size / 4) (takeW (takeW st).2).2).2.1 (takeN ((takeW (takeW st).2).2.1.size / 4) (takeW (takeW st).2).2).2.2 ∧ Below (min g1 g2) w w' := by
  obtain ⟨c0, c1, c2, c3, c4, c5, c6, c7⟩ := hR w hF
  obtain ⟨p0, p1, p3, p4, p5, hlt1, hfz1⟩ := hp.cells
  have hlt2 := hr.cells.2.2.1
  have hlt0 := hF.1
  have HP := Lib.hid hp
  have HR := Lib.hid hr
  have HM := Lib.hid hm
  have HNE := Lib.hid hne
  clear hp hr hF hR hm hne
  obtain ⟨F, hFd⟩ : ∃ F : List Value, F = [.int .i64 0, .int .u32 f2, .int .u32 f3, .int .u32 f4, .int .i64 0, .int .i64 f6, .bool f7, .int .i64 f8] := ⟨_, rfl⟩
  have hRS0 : RS w (w.alloc (.cells #[.int .i64 0, .int .u32 f2, .int .u32 f3, .int .u32 f4, .int .i64 0, .int .i64 f6, .bool f7, .int .i64 f8] 63)) g1 g2 k n 0 0 self F (.slice none 0 0) [] st :=
    ⟨HP.out.below ((Below.refl _ _).alloc (Nat.le_refl _) _), HR.out.below ((Below.refl _ _).alloc (Nat.le_refl _) _), OwnI.nil, by rw [hFd]; exact heap_alloc_new w _, (Below.refl _ _).alloc (by omega) _, by simp⟩
  have HRS0 := Lib.hid hRS0
  have HFD := Lib.hid hFd
  clear hRS0 hFd
  go_enter Tryd.func33, Tryd.ntmps33
  go_wp2_with fail
  refine (word_take g2 st _ HRS0.out.r (Nat.le_trans HM.out (by decide))).mono ?_
  rintro e w1 ⟨rfl, hr1, hg1⟩
  have hrs1 := HRS0.out.word HNE.out hlt2 hg1 hr1
  have hq1 := hrs1.q
  rw [HFD.out] at hq1
  have q0 : w1.cell? ⟨w.heap.size, 0, none⟩ = some (.int .i64 0) := Go.Joins.cell_of_block hq1 0
  have q2 : w1.cell? ⟨w.heap.size, 2, none⟩ = some (.int .u32 f3) := Go.Joins.cell_of_block hq1 2
  obtain ⟨p0, p1, p3, p4, p5, hlt1', hfz1'⟩ := hrs1.p.cells
  obtain ⟨⟨x, st'⟩, hT⟩ : ∃ T, T = takeW st := ⟨_, rfl⟩
  rw [← hT] at hrs1 ⊢
  have HT := Lib.hid hT
  have hs1 := hrs1.s
  have HRS1 := Lib.hid hrs1
  clear hT hrs1 hr1 hg1 hq1
  simp only
  go_wp2_with fail
  have hrs1' := HRS1.out.setMr HNE.out hlt1 x
  have hstz : st'.1.size ≤ 100000 := by
    have h1 := takeW_size st
    rw [← HT.out] at h1
    exact Nat.le_trans h1 HM.out
  have HSTZ := Lib.hid hstz
  clear hstz
  refine (word_take g2 st' _ hrs1'.r (Nat.le_trans HSTZ.out (by decide))).mono ?_
  rintro e w2 ⟨rfl, hr2, hg2⟩
  have hrs2 := hrs1'.word HNE.out hlt2 hg2 hr2
  have hq2 := hrs2.q
  rw [HFD.out] at hq2
  have q4 : w2.cell? ⟨w.heap.size, 4, none⟩ = some (.int .i64 0) := Go.Joins.cell_of_block hq2 4
  have q5 : w2.cell? ⟨w.heap.size, 5, none⟩ = some (.int .i64 f6) := Go.Joins.cell_of_block hq2 5
  obtain ⟨p20, p21, p23, p24, p25, hlt2', hfz2'⟩ := hrs2.p.cells
  obtain ⟨⟨y, st2⟩, hT2⟩ : ∃ T, T = takeW st' := ⟨_, rfl⟩
  rw [← hT2] at hrs2 ⊢
  have HT2 := Lib.hid hT2
  have hs2 := hrs2.s
  have hrsL := hrs2.setPs HNE.out hlt1 y
  have pr2 := hrs2.cells.2.2.2
  have hstz2 : st2.1.size ≤ 100000 := by
    have h1 := takeW_size st'
    rw [← HT2.out] at h1
    exact Nat.le_trans h1 HSTZ.out
  obtain ⟨N, hN⟩ : ∃ N, st2.1.size / 4 = N := ⟨_, rfl⟩
  have hNI : (st2.1.size : Int) / 4 = (N : Int) := by omega
  have hN1 : N ≤ 100000 := by omega
  have hwN : IntKind.i64.wrap (N : Int) = (N : Int) := by rw [IntKind.wrap_i64]; omega
  have HN1 := Lib.hid hN1
  have HN := Lib.hid hN
  have HSTZ2 := Lib.hid hstz2
  have hneI := HNE.out.symm
  clear hT2 hrs2 hr2 hg2 hq2 hrs1' hstz2 hN hN1
  simp only at pr2 hrsL ⊢
  go_wp2_with fail
  go_loopw [42] (fun i wr => ∃ j : Nat, ∃ lv, j ≤ N ∧ i = .int .i64 j ∧ RS w wr g1 g2 k n y x self F lv (takeN j st2).1 (takeN j st2).2) (fun i _ => N - (intOf i).toNat)
  case atStart => exact ⟨0, _, by omega, rfl, hrsL⟩
  case round =>
    obtain ⟨j, lv, hj, rfl, hrs⟩ := hrel
    have hrsd := hrs.drew
    obtain ⟨p5, hl1, hfz, _⟩ := hrs.cells
    have hsr := hrs.s
    have HRS := Lib.hid hrs
    have HRSD := Lib.hid hrsd
    have HJ := Lib.hid hj
    clear hrsL hrs hrsd
    by_cases hlt : j < N
    · have hltI : (j : Int) < N := by omega
      have hwj : IntKind.i64.wrap ((j : Int) + 1) = (j : Int) + 1 := by have := HN1.out; rw [IntKind.wrap_i64]; omega
      have HLT := Lib.hid hlt
      have hL1 : (takeN j st2).1.length + 1 ≤ 1000000 := by have := HN1.out; rw [takeN_length]; omega
      have HL1 := Lib.hid hL1
      have hmx : (takeN j st2).2.1.size ≤ maxLen := Nat.le_trans (takeN_size j st2) (Nat.le_trans HSTZ2.out (by decide))
      have HMX := Lib.hid hmx
      clear hlt hj hmx hL1
      go_wp2_with fail
      go_region_law (first
        | (refine step_appI infoN (by decide) rfl (.tmp 48) (.tmp 51) 30 rfl Tryd.underlying30 (w.heap.size + 1) _ _ rfl (OwnI.below hrsW.out.o ((Below.refl _ _).alloc (Nat.le_refl _) _)) _ 1 1 [_] rfl (rdI_lit1_at _ _ _ _ _ (by simp)) (fun h => by cases h) HL1.out (by have := hrsW.out.s; simp; omega) ?_
           intro v5 w5 hown5 hgrow5
           obtain ⟨a5, c5, rfl⟩ := own_slice hown5
           obtain ⟨p5, hl1, hfz⟩ := (hrsW.out.alloc _).appCells hlt1 hgrow5
           (have hrs5 := Lib.hid ((hrsW.out.alloc _).app HNE.out hlt1 hlt2 hgrow5 hown5)))
        | (go_simp
           go_at_call 31
           (refine (word_take g2 _ _ HRSD.out.r HMX.out).mono ?_)
           rintro e w3 ⟨rfl, hrW, hgW⟩
           (have hrsW := Lib.hid (HRSD.out.word HNE.out hlt2 hgW hrW))
           obtain ⟨p5, hl1, hfz, _⟩ := hrsW.out.cells))
      all_goals go_wp2_with fail
      all_goals go_roundw
      all_goals first
        | (have h := hrs5.out; simp only [List.length_append, List.length_cons, List.length_nil, Nat.zero_add] at h; exact ⟨j + 1, _, HLT.out, by go_num, h⟩)
        | (have := HLT.out; simp [intOf]; omega)
    · have hI : ¬ (j : Int) < N := by omega
      have hj2 : j = N := by omega
      have HJ2 := Lib.hid hj2
      have hq := HRS.out.q
      rw [HFD.out] at hq
      clear hj hlt hj2
      have q0' : wr.cell? ⟨w.heap.size, 0, none⟩ = some (.int .i64 0) := Go.Joins.cell_of_block hq 0
      go_wp2_with fail
      refine (rev_own (w.heap.size + 1) lv _ _ HRS.out.o).mono ?_
      rintro e w3 ⟨rfl, ho3, hb3⟩
      have hq3 := (hb3.block w.heap.size (by omega)).trans hq
      have q03 : w3.cell? ⟨w.heap.size, 0, none⟩ = some (.int .i64 0) := Go.Joins.cell_of_block hq3 0
      have hp3 : PAt w3 g1 k 0 n y x lv self := (hb3.block g1 (by omega)).trans HRS.out.p
      have hr3 : RestAt w3 g2 _ _ := (hb3.block g2 (by omega)).trans HRS.out.r
      have hb03 := HRS.out.b.trans (hb3.mono (by omega))
      rw [HJ2.out] at ho3 hr3
      have HO := Lib.hid ho3
      have HPP := Lib.hid hp3
      have HRR := Lib.hid hr3
      clear ho3 hp3 hr3 hb3 hq hq3
      go_wp2_with fail
      (try simp only [Exit.inBlock, Exit.then])
      refine bodyPost_end (results_none rfl _ _ _) rfl ?_
      rw [← HT.out]
      simp only
      rw [← HT2.out]
      simp only
      rw [HN.out]
      exact ⟨⟨_, rfl⟩, lv, HPP.out, HO.out, HRR.out, hb03⟩
end Go.Proofs.YtaappdaolenkiaaDoor.Pdu
