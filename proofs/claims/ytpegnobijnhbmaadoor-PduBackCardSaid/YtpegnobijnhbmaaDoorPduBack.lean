/-
  PduBack is proved: which units may be is as the document says; their bytes are the document's, and come back; for every input the law returns true.
-/
import Derived.Test.YtpegnobijnhbmaaDoorLaid
import Derived.Test.YtpegnobijnhbmaaDoorCards
import Derived.Test.YtpegnobijnhbmaaDoorPduLaw2
import Derived.Test.YtpegnobijnhbmaaDoorPduRef5
import Derived.Test.YtpegnobijnhbmaaDoorPduAwake
namespace Go.Proofs.YtpegnobijnhbmaaDoor.pduBack
open Go.ChangeShapes Go.WideShapes Go.ChangeAt Go.RowKit
set_option linter.unusedVariables false      -- a walk need not use every bound of an argument

open Pdu Own
set_option maxRecDepth 100000 in
set_option maxHeartbeats 4000000 in
theorem walk (w : World) (v : Value) (x : Base.Dat) (h0 : Base.RdV w (.struct [.int .i64, .int .i64, .int .i64, .int .i64, .int .i64, .slice (.int .i64), .bool, .str]) x v) (hL : laidMetH Tryd.prog Rows.pduBackRow.laid w) :
    Calls Tryd.prog 3 #[v] w fun e w' => e = .returned (.bool true) ∧ Below w.heap.size w w' := by
  obtain ⟨k, sq, n, ps, mr, a, cap, L, self, data, rfl, hL0, hll⟩ := open_pdu w v x h0
  have HF := Lib.hid (forms_laid (by kernel_rfl) hL (by simp [Rows.pduBackRow]))
  clear hL h0 x
  have H0 : Hid (RAt w (w.alloc (.cells (aggR k sq n ps mr (.slice a L.length cap) self data) 24)) w.heap.size k sq n ps mr a L.length cap L self data) := Lib.hid (RAt.new hL0)
  have HLL := Lib.hid hll
  clear hL0 hll
  go_enter Tryd.func3, Tryd.ntmps3
  go_wp2_with fail
  refine (awake_any _ (HF.out.alloc _)).mono ?_; rintro e W1 ⟨rfl, hb1⟩
  have HF1 := Lib.hid ((HF.out.alloc _).below hb1 (Nat.le_refl _))
  have H1 := Lib.hid (H0.out.below hb1)
  clear hb1 H0
  generalize hgg : w.heap.size = g at *
  have HG := Lib.hid hgg
  clear hgg
  obtain ⟨k0, k1, k2, k3, k4, k5, k6, k7⟩ := H1.out.cells
  have z0 : W1.frozen? ⟨g, 0, none⟩ = false := frozen_of_row _ _ _ _ _ H1.out.blk
  go_upto_region 4 with (first
    | (go_at_call 9
       refine (few_any k sq n ps mr a L.length cap L self data _ H1.out.rd HLL.out).mono ?_; rintro e W2 ⟨lv, rfl, ho, hb2⟩
       obtain ⟨a2, cap2, rfl, hr2⟩ := owned ho
       (have hblk := (H1.out.below hb2).blk)
       clear k0 k1 k2 k3 k4 k5 k6 k7 z0)
    | (refine wpList_store_row rfl 24 _ _ rfl g (aggR k sq (clampU n) (clampU ps) (clampU mr) (.slice a2 (fewL L).length cap2) self (cutL data 210)) rfl rfl 24 _ hblk info_ref rfl (by simp [aggR, Value.oneCell']) ?_))
  have H3 : Hid (RAt w (W2.setRow g (aggR k sq (clampU n) (clampU ps) (clampU mr) (.slice a2 (fewL L).length cap2) self (cutL data 210))) g k sq (clampU n) (clampU ps) (clampU mr) a2 (fewL L).length cap2 (fewL L) self (cutL data 210)) := Lib.hid (few_at H1.out ho hb2)
  generalize W2.setRow g (aggR k sq (clampU n) (clampU ps) (clampU mr) (.slice a2 (fewL L).length cap2) self (cutL data 210)) = W3 at *
  clear ho hb2 hblk hr2 H1 HF1
  have HF3 : Hid (Forms W3) := Lib.hid (HF.out.below H3.out.bel (by rw [HG.out]; exact Nat.le_refl _))
  obtain ⟨BN, BP, BM, BL⟩ : (0 ≤ clampU n ∧ clampU n ≤ 4294967295) ∧ (0 ≤ clampU ps ∧ clampU ps ≤ 4294967295) ∧ (0 ≤ clampU mr ∧ clampU mr ≤ 4294967295) ∧ (∀ z ∈ fewL L, 0 ≤ z ∧ z ≤ 4294967295) := ⟨clampU_bounds _, clampU_bounds _, clampU_bounds _, fewL_bounds _⟩
  have HM : Hid ((fewL L).length ≤ 140) := Lib.hid (fewL_len L)
  have HD : Hid ((cutL data 210).size ≤ 210) := Lib.hid (cutL_le data 210).1
  generalize clampU n = n' at *
  generalize clampU ps = ps' at *
  generalize clampU mr = mr' at *
  generalize fewL L = L' at *
  generalize cutL data 210 = d' at *
  generalize hm : L'.length = m at *
  have HML := Lib.hid hm
  clear hm HLL HF
  have HB := Lib.hid (And.intro BN (And.intro BP (And.intro BM BL)))
  clear BN BP BM BL
  obtain ⟨k0, k1, k2, k3, k4, k5, k6, k7⟩ := H3.out.cells
  have HN : Hid (m ≤ 1000 ∧ m ≤ 100000 ∧ m ≤ 1000000) := Lib.hid (by have h1 := HM.out; omega)
  obtain ⟨C, hC⟩ : ∃ C, checkU ⟨k, sq, n', ps', mr', L', self, d'⟩ = C := ⟨_, rfl⟩
  have HC := Lib.hid hC
  clear hC
  obtain ⟨S, hS⟩ : ∃ S, bytesU ⟨k, sq, n', ps', mr', L', self, d'⟩ = S := ⟨_, rfl⟩
  have HS := Lib.hid hS
  clear hS
  have info_pdu' : (Tryd.prog.info? 31).map (·.size) = some 8 := by kernel_rfl
  go_upto_region 5 with (first
    | (go_at_call 10
       refine (own_few k sq n' ps' mr' a2 m cap2 L' self d' _ H3.out.rd HN.out.1 HB.out.1 HB.out.2.1 HB.out.2.2.1 HB.out.2.2.2).mono ?_
       rintro e W4 ⟨a5, c5, rfl, hr5, hb4⟩)
    | (refine wpList_store_row rfl 31 _ _ rfl W4.heap.size (aggU k sq n' ps' mr' (.slice a5 m c5) self d') rfl rfl 31 #[.int .i64 0, .int .i64 0, .int .u32 0, .int .u32 0, .int .u32 0, .slice none 0 0, .bool false, .string ⟨#[]⟩] (heap_alloc_new W4 _) info_pdu' rfl (by simp [aggU, Value.oneCell']) ?_
       rw [World.setRow_alloc_new]))
  have HU : Hid ((W4.alloc (.cells (aggU k sq n' ps' mr' (.slice a5 m c5) self d') 31)).heap[W4.heap.size]? = some (.cells (aggU k sq n' ps' mr' (.slice a5 m c5) self d') 31 (0, 0))) := Lib.hid (heap_alloc_new W4 _)
  have HRU : Hid (RdI .u32 (W4.alloc (.cells (aggU k sq n' ps' mr' (.slice a5 m c5) self d') 31)) a5 m L') := Lib.hid (hr5.alloc _)
  have H5 := Lib.hid ((H3.out.below hb4).below ((Below.refl W4.heap.size W4).alloc (Nat.le_refl _) (.cells (aggU k sq n' ps' mr' (.slice a5 m c5) self d') 31)))
  have HF5 := Lib.hid ((HF3.out.below hb4 (Nat.le_refl _)).alloc (.cells (aggU k sq n' ps' mr' (.slice a5 m c5) self d') 31))
  clear hr5 hb4 k0 k1 k2 k3 k4 k5 k6 k7 H3 HF3
  generalize W4.alloc (.cells (aggU k sq n' ps' mr' (.slice a5 m c5) self d') 31) = W5 at *
  generalize W4.heap.size = gp at *
  have HO : Hid (∀ w' : World, Below W5.heap.size W5 w' → w'.cell? ⟨g, 0, none⟩ = some (.int .i64 k) ∧ w'.cell? ⟨g, 1, none⟩ = some (.int .i64 sq) ∧ w'.cell? ⟨g, 2, none⟩ = some (.int .i64 n') ∧ w'.cell? ⟨g, 3, none⟩ = some (.int .i64 ps') ∧ w'.cell? ⟨g, 4, none⟩ = some (.int .i64 mr') ∧ w'.cell? ⟨g, 5, none⟩ = some (.slice a2 m cap2) ∧ w'.cell? ⟨g, 6, none⟩ = some (.bool self) ∧ w'.cell? ⟨g, 7, none⟩ = some (.string d') ∧ w'.cell? ⟨gp, 0, none⟩ = some (.int .i64 k) ∧ w'.cell? ⟨gp, 1, none⟩ = some (.int .i64 sq) ∧ w'.cell? ⟨gp, 2, none⟩ = some (.int .u32 n') ∧ w'.cell? ⟨gp, 3, none⟩ = some (.int .u32 ps') ∧ w'.cell? ⟨gp, 4, none⟩ = some (.int .u32 mr') ∧ w'.cell? ⟨gp, 5, none⟩ = some (.slice a5 m c5) ∧ w'.cell? ⟨gp, 6, none⟩ = some (.bool self) ∧ w'.cell? ⟨gp, 7, none⟩ = some (.string d') ∧ Below W5.heap.size W5 w') := Lib.hid (fun w' hb => by
    obtain ⟨k0, k1, k2, k3, k4, k5, k6, k7⟩ := (H5.out.below hb).cells
    have e := (hb.block gp (Array.getElem?_eq_some_iff.1 HU.out).1).trans HU.out
    exact ⟨k0, k1, k2, k3, k4, k5, k6, k7, Go.Joins.cell_of_block e 0, Go.Joins.cell_of_block e 1, Go.Joins.cell_of_block e 2, Go.Joins.cell_of_block e 3, Go.Joins.cell_of_block e 4, Go.Joins.cell_of_block e 5, Go.Joins.cell_of_block e 6, Go.Joins.cell_of_block e 7, hb⟩)
  have HCK := Lib.hid (fun (w' : World) (hb : Below W5.heap.size W5 w') => checkV k sq n' ps' mr' a5 m c5 L' self d' w' (HF5.out.below hb (Nat.le_refl _)) (HRU.out.below hb) HN.out.2.1 HB.out.2.2.2)
  have HBY := Lib.hid (fun (w' : World) (hb : Below W5.heap.size W5 w') => bytesV k sq n' ps' mr' a5 m c5 L' self d' w' (HF5.out.below hb (Nat.le_refl _)) (HRU.out.below hb) HN.out.2.1 HB.out.2.2.2 HB.out.1.1)
  have HRC := Lib.hid (fun (w' : World) (hb : Below W5.heap.size W5 w') => rcheck_any k sq n' ps' mr' a2 m cap2 L' self d' w' (H5.out.below hb).rd HN.out.2.2 HB.out.1.1 HB.out.2.1.1 HB.out.2.2.1.1 (fun z hz => (HB.out.2.2.2 z hz).1))
  have HRB := Lib.hid (fun (w' : World) (hb : Below W5.heap.size W5 w') => rbytes_any k sq n' ps' mr' a2 m cap2 L' self d' w' (H5.out.below hb).rd HN.out.2.2 HB.out.1.1 HB.out.2.1.1 HB.out.2.2.1.1 (fun z hz => (HB.out.2.2.2 z hz).1))
  have hcc : (C != C) = false := by simp
  have hss : (S.toList != S.toList) = false := by simp
  obtain ⟨k0, k1, k2, k3, k4, k5, k6, k7, l0, l1, l2, l3, l4, l5, l6, l7, _⟩ := HO.out W5 (Below.refl _ _)
  go_cut [12, 13, 14, 15, 16, 17, 18, 19, 20, 21, 22, 23] (fun s12 s13 s14 s15 s16 s17 s18 s19 s20 s21 s22 s23 wx => s23 = .bool false ∧ Hid (Below W5.heap.size W5 wx))
  case first =>
    go_region_held3 (fun w' => w'.cell? ⟨g, 0, none⟩ = some (.int .i64 k) ∧ w'.cell? ⟨g, 1, none⟩ = some (.int .i64 sq) ∧ w'.cell? ⟨g, 2, none⟩ = some (.int .i64 n') ∧ w'.cell? ⟨g, 3, none⟩ = some (.int .i64 ps') ∧ w'.cell? ⟨g, 4, none⟩ = some (.int .i64 mr') ∧ w'.cell? ⟨g, 5, none⟩ = some (.slice a2 m cap2) ∧ w'.cell? ⟨g, 6, none⟩ = some (.bool self) ∧ w'.cell? ⟨g, 7, none⟩ = some (.string d') ∧ w'.cell? ⟨gp, 0, none⟩ = some (.int .i64 k) ∧ w'.cell? ⟨gp, 1, none⟩ = some (.int .i64 sq) ∧ w'.cell? ⟨gp, 2, none⟩ = some (.int .u32 n') ∧ w'.cell? ⟨gp, 3, none⟩ = some (.int .u32 ps') ∧ w'.cell? ⟨gp, 4, none⟩ = some (.int .u32 mr') ∧ w'.cell? ⟨gp, 5, none⟩ = some (.slice a5 m c5) ∧ w'.cell? ⟨gp, 6, none⟩ = some (.bool self) ∧ w'.cell? ⟨gp, 7, none⟩ = some (.string d') ∧ Below W5.heap.size W5 w')
      (first | (with_reducible assumption) | exact HO.out _ (Below.refl _ _).drew | exact HO.out _ hb13 | exact HO.out _ hb15 | exact HO.out _ hb19 | exact HO.out _ hb21)
      (first
        | ((have _s := hb19)
           go_at_call 14
           refine (HRB.out _ hb19).mono ?_
           rintro e w21 ⟨rfl, h21⟩
           rw [HS.out]
           (have hb21 := hb19.trans (h21.mono hb19.size)))
        | ((have _s := hb15)
           go_at_call 13
           refine (HBY.out _ hb15).mono ?_
           rintro e w19 ⟨rfl, h19⟩
           rw [HS.out]
           (have hb19 := hb15.trans (h19.mono hb15.size)))
        | ((have _s := hb13)
           go_at_call 12
           refine (HRC.out _ hb13).mono ?_
           rintro e w15 ⟨rfl, h15⟩
           rw [HC.out]
           (have hb15 := hb13.trans (h15.mono hb13.size)))
        | (go_at_call 11
           (have hb0 : Below W5.heap.size W5 W5.drew := (Below.refl _ _).drew)
           refine (HCK.out _ hb0).mono ?_
           rintro e w13 ⟨rfl, h13⟩
           rw [HC.out]
           (have hb13 := hb0.trans (h13.mono hb0.size))))
    all_goals go_wp2_with fail
    all_goals go_meet
    all_goals exact ⟨rfl, Lib.hid hb21⟩
  case rest =>
    obtain ⟨rfl, hb6⟩ := hcut
    clear k0 k1 k2 k3 k4 k5 k6 k7 l0 l1 l2 l3 l4 l5 l6 l7
    obtain ⟨k0, k1, k2, k3, k4, k5, k6, k7, l0, l1, l2, l3, l4, l5, l6, l7, _⟩ := HO.out _ hb6.out
    by_cases hc : C = 0
    · subst hc
      obtain ⟨kk, hgood⟩ := good_of ⟨k, sq, n', ps', mr', L', self, d'⟩ HC.out HB.out.1.1 HB.out.2.1.1 HB.out.2.2.1.1 (fun z hz => (HB.out.2.2.2 z hz).1)
      have hbk := back ⟨k, sq, n', ps', mr', L', self, d'⟩ kk hgood HC.out
      rw [HS.out] at hbk
      have HBK := Lib.hid hbk
      have hlen := bytes_len ⟨k, sq, n', ps', mr', L', self, d'⟩ HC.out
      rw [HS.out] at hlen
      simp only at hlen
      rw [HML.out] at hlen
      have hd210 : (d'.size : Int) ≤ 210 := by have := HD.out; omega
      have hm140 : (m : Int) ≤ 140 := by have := HM.out; omega
      have hsl : (S.size : Int) ≤ 2000 := by rw [hlen]; split <;> split <;> split <;> omega
      have hs4 : (S.size : Int) % 4 = 0 := by rw [hlen]; split <;> split <;> split <;> omega
      have hs4t : (S.size : Int).tmod 4 = 0 := by rw [Int.tmod_eq_emod_of_nonneg (by omega)]; exact hs4
      have HSL : Hid (S.size ≤ 100000) := Lib.hid (by omega)
      have HSM : Hid (sameU ⟨k, sq, n', ps', mr', L', self, d'⟩ ⟨k, sq, n', ps', mr', L', self, d'⟩ = true) := Lib.hid ((same_iff _ _).2 rfl)
      clear hgood hbk hlen hd210 hm140
      go_upto_region 10 with (first
        | ((have _s := hb9)
           refine wpList_store_row rfl 31 _ _ rfl W9.heap.size (aggU k sq n' ps' mr' (.slice a6 m c6) self d') rfl rfl 31 #[.int .i64 0, .int .i64 0, .int .u32 0, .int .u32 0, .int .u32 0, .slice none 0 0, .bool false, .string ⟨#[]⟩] (heap_alloc_new W9 _) info_pdu' rfl (by simp [aggU, Value.oneCell']) ?_
           rw [World.setRow_alloc_new])
        | ((have _s := hb8)
           go_at_call 15
           refine (parse_any S _ (HF5.out.below hb8 (Nat.le_refl _)) HSL.out).mono ?_
           rintro e W9 ⟨h9, hcase⟩
           obtain ⟨a6, c6, rfl, hr6⟩ : ∃ a6 c6, e = .returned (.tuple #[.agg (aggU k sq n' ps' mr' (.slice a6 m c6) self d'), .int .i64 0]) ∧ RdI .u32 W9 a6 m L' := by
             rcases hcase with ⟨h, _⟩ | ⟨_, lv, h1, h2⟩
             · exact absurd HBK.out.1 h
             · rw [HBK.out.2] at h1 h2
               obtain ⟨a6, c6, rfl, hr⟩ := owned h2
               simp only at h1 hr
               rw [HML.out] at h1 hr
               exact ⟨a6, c6, h1, hr⟩
           (have hb9 := hb8.trans (h9.mono hb8.size)))
        | ((have _s := hb7)
           go_at_call 13
           refine (HBY.out _ hb7).mono ?_
           rintro e W8 ⟨rfl, h8⟩
           rw [HS.out]
           (have hb8 := hb7.trans (h8.mono hb7.size)))
        | (go_at_call 12
           refine (HRC.out _ hb6.out).mono ?_
           rintro e W7 ⟨rfl, h7⟩
           rw [HC.out]
           (have hb7 := hb6.out.trans (h7.mono hb6.out.size))
           clear l0 l1 l2 l3 l4 l5 l6 l7
           obtain ⟨_, _, _, _, _, _, _, _, l0, l1, l2, l3, l4, l5, l6, l7, _⟩ := HO.out _ hb7))
      have HU2 : Hid ((W9.alloc (.cells (aggU k sq n' ps' mr' (.slice a6 m c6) self d') 31)).heap[W9.heap.size]? = some (.cells (aggU k sq n' ps' mr' (.slice a6 m c6) self d') 31 (0, 0))) := Lib.hid (heap_alloc_new W9 _)
      have HR2 : Hid (RdI .u32 (W9.alloc (.cells (aggU k sq n' ps' mr' (.slice a6 m c6) self d') 31)) a6 m L') := Lib.hid (hr6.alloc _)
      have HB10 := Lib.hid (hb9.alloc hb9.size (.cells (aggU k sq n' ps' mr' (.slice a6 m c6) self d') 31))
      clear k0 k1 k2 k3 k4 k5 k6 k7 l0 l1 l2 l3 l4 l5 l6 l7 hb9 hb8 hb7 hr6 h7 h8 h9 hcase
      generalize W9.alloc (.cells (aggU k sq n' ps' mr' (.slice a6 m c6) self d') 31) = W10 at *
      generalize W9.heap.size = gq at *
      obtain ⟨k0, k1, k2, k3, k4, k5, k6, k7, _, _, _, _, _, _, _, _, _⟩ := HO.out _ HB10.out
      have e2 := HU2.out
      have q0 := Go.Joins.cell_of_block e2 0
      have q1 := Go.Joins.cell_of_block e2 1
      have q2 := Go.Joins.cell_of_block e2 2
      have q3 := Go.Joins.cell_of_block e2 3
      have q4 := Go.Joins.cell_of_block e2 4
      have q5 := Go.Joins.cell_of_block e2 5
      have q6 := Go.Joins.cell_of_block e2 6
      have q7 := Go.Joins.cell_of_block e2 7
      clear e2
      go_wp2_with (first
        | ((have _s := hb11)
           go_at_call 13
           refine (HBY.out _ hb11).mono ?_
           rintro e W12 ⟨rfl, h12⟩
           rw [HS.out]
           (have hb12 := hb11.trans (h12.mono hb11.size)))
        | (go_at_call 16
           refine (same_any k sq n' ps' mr' a6 m c6 L' self d' k sq n' ps' mr' a2 m cap2 L' self d' _ HR2.out (H5.out.below HB10.out).rd HN.out.2.2 HN.out.2.2 (by have := HB.out.1; omega) (by have := HB.out.2.1; omega) (by have := HB.out.2.2.1; omega) (fun z hz => by have := HB.out.2.2.2 z hz; omega)).mono ?_
           rintro e W11 ⟨rfl, h11⟩
           rw [HSM.out]
           (have hb11 := HB10.out.trans (h11.mono HB10.out.size))
           clear k0 k1 k2 k3 k4 k5 k6 k7 q0 q1 q2 q3 q4 q5 q6 q7
           obtain ⟨_, _, _, _, _, _, _, _, l0, l1, l2, l3, l4, l5, l6, l7, _⟩ := HO.out _ hb11))
      go_ret
      exact ⟨rfl, by rw [HG.out]; exact (H5.out.below hb12).bel⟩
    · have hcb : (C != 0) = true := by simp [hc]
      go_wp2_with (first
        | (go_at_call 12
           refine (HRC.out _ hb6.out).mono ?_; rintro e W7 ⟨rfl, hb7⟩; rw [HC.out]))
      go_ret
      exact ⟨rfl, by rw [HG.out]; exact (H5.out.below (hb6.out.trans (hb7.mono hb6.out.size))).bel⟩

theorem own : ownKnob Tryd.prog.godebug = none := by kernel_rfl
theorem laidOut : laidOutB Tryd.prog = true := by kernel_rfl

set_option maxRecDepth 100000 in
theorem lifted (os : Os) (started : os.Started) (H : Type) (enc : TypeId × Value → H) :
    ReturnsInHanded {} Tryd.checked os 3 .any (fun w args => (Rows.pduBackSpec.pre enc Tryd.prog Tryd.f3 Rows.pduBackRow.domain false w args ∧ laidMetH Tryd.prog Rows.pduBackRow.laid w) ∧ sizedMet enc Tryd.prog Tryd.f3 (OpenSpec.ofChange Rows.pduBackSpec) false w args) (Rows.pduBackSpec.post enc Tryd.prog Tryd.f3 false true false false) := by
  refine Base.law_laid (C := Tryd.checked) own started (by kernel_rfl) Tryd.func3 laidOut (by kernel_rfl) rfl Tryd.underlying4 rfl ?_
    (Base.laid_witness #[.agg #[.int .i64 0, .int .i64 0, .int .i64 0, .int .i64 0, .int .i64 0, .slice none 0 0, .bool false, .string ⟨#[]⟩]] (World.shaped_of_ZipB (by kernel_rfl) (by kernel_rfl)) (by kernel_rfl) (by kernel_rfl) (by kernel_rfl) (by rw [MakeChecks.laidMetH_plain _ _ _ (by kernel_rfl)]; exact laidMet_laidAll _ (by kernel_rfl) (by kernel_rfl))) ?_
  · intro ds h
    match ds, h with
    | [_d0], _ => exact ⟨rfl, rfl, rfl⟩
  · intro W base args ds before hval0 hA0 hlt hsz hL
    have hval : ∀ (j : Nat) t v, Tryd.f3.params[j]? = some t → args[j]? = some v → Value.okWide Tryd.prog W .any base t v := hval0
    have hA : DataW.TrodAll enc Tryd.prog W 0 (fun _ => true) true Tryd.f3.params.toList args.toList ds before := hA0
    clear hval0 hA0
    rw [Tryd.params3] at hA hval hsz
    obtain ⟨v0, vs0, d0, ds0, p0, q0, hargs, rfl, rfl, h0, r0⟩ := trodAll_cons hA
    obtain ⟨rfl, rfl, rfl⟩ := trodAll_nil r0
    obtain rfl : args = #[v0] := by cases args; simp_all
    obtain ⟨x0, w0⟩ := Base.open_shape (s := (.struct [(.int .i64), (.int .i64), (.int .i64), (.int .i64), (.int .i64), (.slice (.int .i64)), .bool, .str])) (by kernel_rfl) (hval 0 24 v0 rfl rfl) h0 (fun x hx => hlt x (by simp [hx])) hsz (j := 0) rfl rfl
    exact walk W v0 x0 w0 hL

theorem over : Rows.pduBackRow.holds Tryd.pinned (OpenSpec.ofChange Rows.pduBackSpec) :=
  OpenClaim.holds_of_wide 3 Tryd.f3 rfl rfl rfl rfl rfl rfl rfl ⟨rfl, rfl, rfl, rfl, rfl⟩ rfl rfl rfl rfl rfl (by kernel_rfl) Tryd.func3 (by kernel_rfl)
    (of_decide_eq_true (by kernel_rfl)) (by unfold Func.isWrapper; first | (rw [if_pos (by decide +kernel)]; kernel_rfl) | (rw [if_neg (by decide +kernel)]; exact ⟨rfl, rfl⟩))
    (fun os started H enc _ => lifted os started H enc)

theorem proved : Rows.PduBackCardSaid :=
  Claim7.holds_tied_plain_at .later [] [.data] true Rows.pduBackCard.stood.harness false over (fun _ h => by cases h) (by kernel_rfl) (fun _ h => by cases h) pduBack_row_tie rfl ⟨rfl, rfl⟩ (by kernel_rfl) rfl
    (fun f fn hf hfn => by
      obtain rfl : f = 3 := Option.some.inj ((show Tryd.prog.funcNamed Rows.pduBackRow.func = some 3 by kernel_rfl).symm.trans hf) |>.symm
      obtain rfl : fn = Tryd.f3 := (Option.some.inj (Tryd.func3.symm.trans hfn)).symm
      exact ⟨by kernel_rfl, fun j t ht => by
        rw [Tryd.params3] at ht
        have hm : t ∈ [24] := by simpa using Array.mem_of_getElem? ht
        have hall : ([24].all fun u => !Tryd.prog.wantsStandIn u) = true := by kernel_rfl
        exact (show Tryd.prog.wantsStandIn t = false by simpa using List.all_eq_true.1 hall t hm)⟩)
    (by kernel_rfl)
#print axioms proved
end Go.Proofs.YtpegnobijnhbmaaDoor.pduBack
