/-
  WireBack is proved: a frame of a unit is what the document says, and comes back; for every input the law returns true.
-/
import Derived.Test.YthigcaakkjfghaaDoorLaid
import Derived.Test.YthigcaakkjfghaaDoorCards
import Derived.Test.YthigcaakkjfghaaDoorWire3
import Derived.Test.YthigcaakkjfghaaDoorPduLaw2
import Derived.Test.YthigcaakkjfghaaDoorPduRef5
import Derived.Test.YthigcaakkjfghaaDoorWire4
namespace Go.Proofs.YthigcaakkjfghaaDoor.wireBack
open Go.ChangeShapes Go.WideShapes Go.ChangeAt Go.RowKit
set_option linter.unusedVariables false      -- a walk need not use every bound of an argument

open Pdu Own
set_option maxRecDepth 100000 in
set_option maxHeartbeats 4000000 in
theorem walk (w : World) (v : Value) (x : Base.Dat) (h0 : Base.RdV w (.struct [.int .i64, .int .i64, .int .i64, .int .i64, .int .i64, .slice (.int .i64), .bool, .str]) x v) (hL : laidMetH Tryd.prog Rows.wireBackRow.laid w) :
    Calls Tryd.prog 3 #[v] w fun e w' => e = .returned (.bool true) ∧ Below w.heap.size w w' := by
  obtain ⟨k, sq, n, ps, mr, a, cap, L, self, data, rfl, hL0, hll⟩ := open_pdu w v x h0
  have HF := Lib.hid (forms_laid (by kernel_rfl) hL (by simp [Rows.wireBackRow]))
  clear hL h0 x
  have H0 : Hid (RAt w (w.alloc (.cells (aggR k sq n ps mr (.slice a L.length cap) self data) 24)) w.heap.size k sq n ps mr a L.length cap L self data) := Lib.hid (RAt.new hL0)
  have HLL := Lib.hid hll
  clear hL0 hll
  go_enter Tryd.func3, Tryd.ntmps3
  go_wp2_with fail
  refine (Wire.awake_any _ (HF.out.alloc _)).mono ?_; rintro e W1 ⟨rfl, hb1⟩
  have HF1 := Lib.hid ((HF.out.alloc _).below hb1 (Nat.le_refl _))
  have H1 := Lib.hid (H0.out.below hb1)
  clear hb1 H0
  generalize hgg : w.heap.size = g at *
  have HG := Lib.hid hgg
  clear hgg
  obtain ⟨k0, k1, k2, k3, k4, k5, k6, k7⟩ := H1.out.cells
  have z0 : W1.frozen? ⟨g, 0, none⟩ = false := frozen_of_row _ _ _ _ _ H1.out.blk
  go_upto_region 4 with (first
    | (go_at_call 9
       refine (few_any k sq n ps mr a L.length cap L self data _ H1.out.rd HLL.out).mono ?_; rintro e W2 ⟨lv, rfl, ho, hb2⟩
       obtain ⟨a2, cap2, rfl, hr2⟩ := owned ho
       (have hblk := (H1.out.below hb2).blk)
       clear k0 k1 k2 k3 k4 k5 k6 k7 z0)
    | (refine wpList_store_row rfl 24 _ _ rfl g (aggR k sq (clampU n) (clampU ps) (clampU mr) (.slice a2 (fewL L).length cap2) self (cutL data 210)) rfl rfl 24 _ hblk info_ref rfl (by simp [aggR, Value.oneCell']) ?_))
  have H3 : Hid (RAt w (W2.setRow g (aggR k sq (clampU n) (clampU ps) (clampU mr) (.slice a2 (fewL L).length cap2) self (cutL data 210))) g k sq (clampU n) (clampU ps) (clampU mr) a2 (fewL L).length cap2 (fewL L) self (cutL data 210)) := Lib.hid (few_at H1.out ho hb2)
  generalize W2.setRow g (aggR k sq (clampU n) (clampU ps) (clampU mr) (.slice a2 (fewL L).length cap2) self (cutL data 210)) = W3 at *
  clear ho hb2 hblk hr2 H1 HF1
  have HF3 : Hid (Forms W3) := Lib.hid (HF.out.below H3.out.bel (by rw [HG.out]; exact Nat.le_refl _))
  obtain ⟨BN, BP, BM, BL⟩ : (0 ≤ clampU n ∧ clampU n ≤ 4294967295) ∧ (0 ≤ clampU ps ∧ clampU ps ≤ 4294967295) ∧ (0 ≤ clampU mr ∧ clampU mr ≤ 4294967295) ∧ (∀ z ∈ fewL L, 0 ≤ z ∧ z ≤ 4294967295) := ⟨clampU_bounds _, clampU_bounds _, clampU_bounds _, fewL_bounds _⟩
  have HM : Hid ((fewL L).length ≤ 140) := Lib.hid (fewL_len L)
  have HD : Hid ((cutL data 210).size ≤ 210) := Lib.hid (cutL_le data 210).1
  generalize clampU n = n' at *
  generalize clampU ps = ps' at *
  generalize clampU mr = mr' at *
  generalize fewL L = L' at *
  generalize cutL data 210 = d' at *
  generalize hm : L'.length = m at *
  have HML := Lib.hid hm
  clear hm HLL HF
  have HB := Lib.hid (And.intro BN (And.intro BP (And.intro BM BL)))
  clear BN BP BM BL
  obtain ⟨k0, k1, k2, k3, k4, k5, k6, k7⟩ := H3.out.cells
  have HN : Hid (m ≤ 1000 ∧ m ≤ 100000 ∧ m ≤ 1000000) := Lib.hid (by have h1 := HM.out; omega)
  obtain ⟨C, hC⟩ : ∃ C, checkU ⟨k, sq, n', ps', mr', L', self, d'⟩ = C := ⟨_, rfl⟩
  have HC := Lib.hid hC
  clear hC
  obtain ⟨S, hS⟩ : ∃ S, bytesU ⟨k, sq, n', ps', mr', L', self, d'⟩ = S := ⟨_, rfl⟩
  have HS := Lib.hid hS
  clear hS
  go_upto_region 5 with (go_at_call 10; refine (Wire.new_any _).mono ?_; rintro e W3b ⟨B, rfl, hT, hbn⟩)
  have HT3 := Lib.hid hT
  have H3b := Lib.hid (H3.out.below hbn)
  have HF3b := Lib.hid (HF3.out.below hbn (Nat.le_refl _))
  clear k0 k1 k2 k3 k4 k5 k6 k7 hT hbn H3 HF3
  obtain ⟨k0, k1, k2, k3, k4, k5, k6, k7⟩ := H3b.out.cells
  have info_pdu' : (Tryd.prog.info? 33).map (·.size) = some 8 := by kernel_rfl
  go_upto_region 6 with (first
    | ((have _s := t1); refine wpList_store_row rfl 33 _ _ rfl W4.heap.size (aggU k sq n' ps' mr' (.slice a5 m c5) self d') rfl rfl 33 #[.int .i64 0, .int .i64 0, .int .u32 0, .int .u32 0, .int .u32 0, .slice none 0 0, .bool false, .string ⟨#[]⟩] (heap_alloc_new W4 _) info_pdu' rfl (by simp [aggU, Value.oneCell']) ?_
       rw [World.setRow_alloc_new])
    | (go_at_call 11
       refine (own_few k sq n' ps' mr' a2 m cap2 L' self d' _ H3b.out.rd HN.out.1 HB.out.1 HB.out.2.1 HB.out.2.2.1 HB.out.2.2.2).mono ?_
       rintro e W4 ⟨a5, c5, rfl, hr5, hb4⟩
       have t1 : True := trivial))
  have HU : Hid ((W4.alloc (.cells (aggU k sq n' ps' mr' (.slice a5 m c5) self d') 33)).heap[W4.heap.size]? = some (.cells (aggU k sq n' ps' mr' (.slice a5 m c5) self d') 33 (0, 0))) := Lib.hid (heap_alloc_new W4 _)
  have HRU : Hid (RdI .u32 (W4.alloc (.cells (aggU k sq n' ps' mr' (.slice a5 m c5) self d') 33)) a5 m L') := Lib.hid (hr5.alloc _)
  have H5 := Lib.hid ((H3b.out.below hb4).below ((Below.refl W4.heap.size W4).alloc (Nat.le_refl _) (.cells (aggU k sq n' ps' mr' (.slice a5 m c5) self d') 33)))
  have HF5 := Lib.hid ((HF3b.out.below hb4 (Nat.le_refl _)).alloc (.cells (aggU k sq n' ps' mr' (.slice a5 m c5) self d') 33))
  have HT5 := Lib.hid ((HT3.out.below hb4).alloc (.cells (aggU k sq n' ps' mr' (.slice a5 m c5) self d') 33))
  clear hr5 hb4 t1 k0 k1 k2 k3 k4 k5 k6 k7 H3b HF3b HT3
  generalize W4.alloc (.cells (aggU k sq n' ps' mr' (.slice a5 m c5) self d') 33) = W5 at *
  generalize W4.heap.size = gp at *
  have HO : Hid (∀ w' : World, Below W5.heap.size W5 w' → w'.cell? ⟨g, 0, none⟩ = some (.int .i64 k) ∧ w'.cell? ⟨g, 1, none⟩ = some (.int .i64 sq) ∧ w'.cell? ⟨g, 2, none⟩ = some (.int .i64 n') ∧ w'.cell? ⟨g, 3, none⟩ = some (.int .i64 ps') ∧ w'.cell? ⟨g, 4, none⟩ = some (.int .i64 mr') ∧ w'.cell? ⟨g, 5, none⟩ = some (.slice a2 m cap2) ∧ w'.cell? ⟨g, 6, none⟩ = some (.bool self) ∧ w'.cell? ⟨g, 7, none⟩ = some (.string d') ∧ w'.cell? ⟨gp, 0, none⟩ = some (.int .i64 k) ∧ w'.cell? ⟨gp, 1, none⟩ = some (.int .i64 sq) ∧ w'.cell? ⟨gp, 2, none⟩ = some (.int .u32 n') ∧ w'.cell? ⟨gp, 3, none⟩ = some (.int .u32 ps') ∧ w'.cell? ⟨gp, 4, none⟩ = some (.int .u32 mr') ∧ w'.cell? ⟨gp, 5, none⟩ = some (.slice a5 m c5) ∧ w'.cell? ⟨gp, 6, none⟩ = some (.bool self) ∧ w'.cell? ⟨gp, 7, none⟩ = some (.string d')) := Lib.hid (fun w' hb => by
    obtain ⟨k0, k1, k2, k3, k4, k5, k6, k7⟩ := (H5.out.below hb).cells
    have e := (hb.block gp (Array.getElem?_eq_some_iff.1 HU.out).1).trans HU.out
    exact ⟨k0, k1, k2, k3, k4, k5, k6, k7, Go.Joins.cell_of_block e 0, Go.Joins.cell_of_block e 1, Go.Joins.cell_of_block e 2, Go.Joins.cell_of_block e 3, Go.Joins.cell_of_block e 4, Go.Joins.cell_of_block e 5, Go.Joins.cell_of_block e 6, Go.Joins.cell_of_block e 7⟩)
  have HBY := Lib.hid (fun (w' : World) (hb : Below W5.heap.size W5 w') => bytesV k sq n' ps' mr' a5 m c5 L' self d' w' (HF5.out.below hb (Nat.le_refl _)) (HRU.out.below hb) HN.out.2.1 HB.out.2.2.2 HB.out.1.1)
  have HSI := Lib.hid (fun (w' : World) (hb : Below W5.heap.size W5 w') => Wire.size_any k sq n' ps' mr' a5 m c5 L' self d' w' (HF5.out.below hb (Nat.le_refl _)) (HRU.out.below hb) HN.out.2.1 HB.out.2.2.2 HB.out.1.1)
  have HRC := Lib.hid (fun (w' : World) (hb : Below W5.heap.size W5 w') => rcheck_any k sq n' ps' mr' a2 m cap2 L' self d' w' (H5.out.below hb).rd HN.out.2.2 HB.out.1.1 HB.out.2.1.1 HB.out.2.2.1.1 (fun z hz => (HB.out.2.2.2 z hz).1))
  have HPK := Lib.hid (fun (w' : World) (hb : Below W5.heap.size W5 w') => Wire.pack_any B k sq n' ps' mr' a5 m c5 L' self d' w' (HT5.out.below hb) (HF5.out.below hb (Nat.le_refl _)) (HRU.out.below hb) HN.out.2.1 HB.out.2.2.2 HB.out.1.1)
  have HRP := Lib.hid (fun (w' : World) (hb : Below W5.heap.size W5 w') => Wire.rpack_any k sq n' ps' mr' a2 m cap2 L' self d' w' (H5.out.below hb).rd HN.out.2.2 HB.out.1.1 HB.out.2.1.1 HB.out.2.2.1.1 (fun z hz => (HB.out.2.2.2 z hz).1))
  have HNN : Hid (Wire.NonNeg ⟨k, sq, n', ps', mr', L', self, d'⟩) := Lib.hid ⟨HB.out.1.1, HB.out.2.1.1, HB.out.2.2.1.1, fun z hz => (HB.out.2.2.2 z hz).1⟩
  obtain ⟨P, hP⟩ : ∃ P, Wire.packW ⟨k, sq, n', ps', mr', L', self, d'⟩ = P := ⟨_, rfl⟩
  have HP := Lib.hid hP
  have HSV : Hid (Wire.sizeW ⟨k, sq, n', ps', mr', L', self, d'⟩ = (P.size : Int)) := Lib.hid (by rw [Wire.size_pack, hP])
  clear hP
  obtain ⟨k0, k1, k2, k3, k4, k5, k6, k7, l0, l1, l2, l3, l4, l5, l6, l7⟩ := HO.out _ (Below.refl _ _)
  go_upto_region 7 with (go_at_call 12; refine (HPK.out _ (Below.refl _ _)).mono ?_; rintro e W6 ⟨rfl, hb6⟩; rw [HP.out, HC.out])
  clear k0 k1 k2 k3 k4 k5 k6 k7 l0 l1 l2 l3 l4 l5 l6 l7
  obtain ⟨k0, k1, k2, k3, k4, k5, k6, k7, l0, l1, l2, l3, l4, l5, l6, l7⟩ := HO.out _ hb6
  have hcc : (C != C) = false := by simp
  have hpp : (P.toList != P.toList) = false := by simp
  have hsz : ((P.size : Int) != (P.size : Int)) = false := by simp
  go_upto_if 38 with (first
    | ((have _s := t3); go_at_call 15
       refine (HSI.out _ hb8).mono ?_
       rintro e W9 ⟨rfl, h9⟩
       rw [HSV.out]
       (have hb9 := hb8.trans (h9.mono hb8.size)))
    | ((have _s := t2); go_at_call 14
       refine (HRP.out _ hb7).mono ?_
       rintro e W8 ⟨rfl, h8⟩
       rw [HP.out]
       (have hb8 := hb7.trans (h8.mono hb7.size))
       clear k0 k1 k2 k3 k4 k5 k6 k7 l0 l1 l2 l3 l4 l5 l6 l7
       obtain ⟨k0, k1, k2, k3, k4, k5, k6, k7, l0, l1, l2, l3, l4, l5, l6, l7⟩ := HO.out _ hb8
       have t3 : True := trivial)
    | (go_at_call 13
       refine (HRC.out _ hb6).mono ?_
       rintro e W7 ⟨rfl, h7⟩
       rw [HC.out]
       (have hb7 := hb6.trans (h7.mono hb6.size))
       clear k0 k1 k2 k3 k4 k5 k6 k7 l0 l1 l2 l3 l4 l5 l6 l7
       obtain ⟨k0, k1, k2, k3, k4, k5, k6, k7, l0, l1, l2, l3, l4, l5, l6, l7⟩ := HO.out _ hb7
       have t2 : True := trivial))
  clear k0 k1 k2 k3 k4 k5 k6 k7 l0 l1 l2 l3 l4 l5 l6 l7 h7 h8 h9 hb6 hb7 hb8 t2 t3
  by_cases hc : C = 0
  · subst hc
    have hbk := Wire.pack_sound ⟨k, sq, n', ps', mr', L', self, d'⟩ HC.out
    have hp48 : P.size % 48 = 0 := by rw [← HP.out, Wire.pack_size _ HC.out]; omega
    have hps : P.size ≤ 2100 := by rw [← HP.out]; exact Wire.pack_small _ HC.out
    rw [HP.out] at hbk
    have HSN := Lib.hid hbk
    have h48 : ((P.size : Int) % 48 == 0) = true := by rw [beq_iff_eq]; omega
    have HOP : Hid (∀ w', Below W5.heap.size W5 w' → Calls Tryd.prog 16 #[.pointer (some ⟨B, 0, none⟩), .string P] w' fun e w2 => ∃ a cap, e = .returned (.tuple #[.agg (aggU k sq n' ps' mr' (.slice a m cap) self d'), .int .i64 0]) ∧ RdI .u32 w2 a m L' ∧ Below w'.heap.size w' w2) := Lib.hid (fun w' hb => by
      have := Wire.open_pack B k sq n' ps' mr' m L' self d' w' (HT5.out.below hb) (HF5.out.below hb (Nat.le_refl _)) HML.out.symm HC.out HNN.out
      rw [HP.out] at this; exact this)
    have HSM : Hid (sameU ⟨k, sq, n', ps', mr', L', self, d'⟩ ⟨k, sq, n', ps', mr', L', self, d'⟩ = true) := Lib.hid ((same_iff _ _).2 rfl)
    clear hbk hp48
    go_upto_region 12 with (first
      | ((have _s := t4); refine wpList_store_row rfl 33 _ _ rfl W10.heap.size (aggU k sq n' ps' mr' (.slice a6 m c6) self d') rfl rfl 33 #[.int .i64 0, .int .i64 0, .int .u32 0, .int .u32 0, .int .u32 0, .slice none 0 0, .bool false, .string ⟨#[]⟩] (heap_alloc_new W10 _) info_pdu' rfl (by simp [aggU, Value.oneCell']) ?_
         rw [World.setRow_alloc_new])
      | (go_at_call 16
         refine (HOP.out _ hb9).mono ?_
         rintro e W10 ⟨a6, c6, rfl, hr6, h10⟩
         (have hb10 := hb9.trans (h10.mono hb9.size))
         have t4 : True := trivial))
    have HR11 : Hid (RdI .u32 (W10.alloc (.cells (aggU k sq n' ps' mr' (.slice a6 m c6) self d') 33)) a6 m L') := Lib.hid (hr6.alloc _)
    have HB11 := Lib.hid (hb10.alloc hb10.size (.cells (aggU k sq n' ps' mr' (.slice a6 m c6) self d') 33))
    have e2 := heap_alloc_new W10 (.cells (aggU k sq n' ps' mr' (.slice a6 m c6) self d') 33)
    have HE2 := Lib.hid e2
    clear hb9 hb10 hr6 h10 t4 e2
    generalize W10.alloc (.cells (aggU k sq n' ps' mr' (.slice a6 m c6) self d') 33) = W11 at *
    generalize W10.heap.size = gq at *
    have e2 := HE2.out
    obtain ⟨k0, k1, k2, k3, k4, k5, k6, k7, l0, l1, l2, l3, l4, l5, l6, l7⟩ := HO.out _ HB11.out
    have q0 := Go.Joins.cell_of_block e2 0
    have q1 := Go.Joins.cell_of_block e2 1
    have q2 := Go.Joins.cell_of_block e2 2
    have q3 := Go.Joins.cell_of_block e2 3
    have q4 := Go.Joins.cell_of_block e2 4
    have q5 := Go.Joins.cell_of_block e2 5
    have q6 := Go.Joins.cell_of_block e2 6
    have q7 := Go.Joins.cell_of_block e2 7
    clear e2
    go_wp2_with (first
      | ((have _s := t5); go_at_call 18
         refine (Wire.sound_any B P _ (HT5.out.below hb12) (by omega)).mono ?_
         rintro e W13 ⟨rfl, h13⟩
         rw [HSN.out])
      | (go_at_call 17
         refine (same_any k sq n' ps' mr' a6 m c6 L' self d' k sq n' ps' mr' a2 m cap2 L' self d' _ HR11.out (H5.out.below HB11.out).rd HN.out.2.2 HN.out.2.2 (by have := HB.out.1; omega) (by have := HB.out.2.1; omega) (by have := HB.out.2.2.1; omega) (fun z hz => by have := HB.out.2.2.2 z hz; omega)).mono ?_
         rintro e W12 ⟨rfl, h12⟩
         rw [HSM.out]
         (have hb12 := HB11.out.trans (h12.mono HB11.out.size))
         have t5 : True := trivial))
    go_ret
    exact ⟨rfl, by rw [HG.out]; exact (H5.out.below (hb12.trans (h13.mono hb12.size))).bel⟩
  · have hcb : (C != 0) = true := by simp [hc]
    go_wp2_with fail
    go_ret
    exact ⟨rfl, by rw [HG.out]; exact (H5.out.below hb9).bel⟩

theorem own : ownKnob Tryd.prog.godebug = none := by kernel_rfl
theorem laidOut : laidOutB Tryd.prog = true := by kernel_rfl

set_option maxRecDepth 100000 in
theorem lifted (os : Os) (started : os.Started) (H : Type) (enc : TypeId × Value → H) :
    ReturnsInHanded {} Tryd.checked os 3 .any (fun w args => (Rows.wireBackSpec.pre enc Tryd.prog Tryd.f3 Rows.wireBackRow.domain false w args ∧ laidMetH Tryd.prog Rows.wireBackRow.laid w) ∧ sizedMet enc Tryd.prog Tryd.f3 (OpenSpec.ofChange Rows.wireBackSpec) false w args) (Rows.wireBackSpec.post enc Tryd.prog Tryd.f3 false true false false) := by
  refine Base.law_laid (C := Tryd.checked) own started (by kernel_rfl) Tryd.func3 laidOut (by kernel_rfl) rfl Tryd.underlying4 rfl ?_
    (Base.laid_witness #[.agg #[.int .i64 0, .int .i64 0, .int .i64 0, .int .i64 0, .int .i64 0, .slice none 0 0, .bool false, .string ⟨#[]⟩]] (World.shaped_of_ZipB (by kernel_rfl) (by kernel_rfl)) (by kernel_rfl) (by kernel_rfl) (by kernel_rfl) (by rw [MakeChecks.laidMetH_plain _ _ _ (by kernel_rfl)]; exact laidMet_laidAll _ (by kernel_rfl) (by kernel_rfl))) ?_
  · intro ds h
    match ds, h with
    | [_d0], _ => exact ⟨rfl, rfl, rfl⟩
  · intro W base args ds before hval0 hA0 hlt hsz hL
    have hval : ∀ (j : Nat) t v, Tryd.f3.params[j]? = some t → args[j]? = some v → Value.okWide Tryd.prog W .any base t v := hval0
    have hA : DataW.TrodAll enc Tryd.prog W 0 (fun _ => true) true Tryd.f3.params.toList args.toList ds before := hA0
    clear hval0 hA0
    rw [Tryd.params3] at hA hval hsz
    obtain ⟨v0, vs0, d0, ds0, p0, q0, hargs, rfl, rfl, h0, r0⟩ := trodAll_cons hA
    obtain ⟨rfl, rfl, rfl⟩ := trodAll_nil r0
    obtain rfl : args = #[v0] := by cases args; simp_all
    obtain ⟨x0, w0⟩ := Base.open_shape (s := (.struct [(.int .i64), (.int .i64), (.int .i64), (.int .i64), (.int .i64), (.slice (.int .i64)), .bool, .str])) (by kernel_rfl) (hval 0 24 v0 rfl rfl) h0 (fun x hx => hlt x (by simp [hx])) hsz (j := 0) rfl rfl
    exact walk W v0 x0 w0 hL

theorem over : Rows.wireBackRow.holds Tryd.pinned (OpenSpec.ofChange Rows.wireBackSpec) :=
  OpenClaim.holds_of_wide 3 Tryd.f3 rfl rfl rfl rfl rfl rfl rfl ⟨rfl, rfl, rfl, rfl, rfl⟩ rfl rfl rfl rfl rfl (by kernel_rfl) Tryd.func3 (by kernel_rfl)
    (of_decide_eq_true (by kernel_rfl)) (by unfold Func.isWrapper; first | (rw [if_pos (by decide +kernel)]; kernel_rfl) | (rw [if_neg (by decide +kernel)]; exact ⟨rfl, rfl⟩))
    (fun os started H enc _ => lifted os started H enc)

theorem proved : Rows.WireBackCardSaid :=
  Claim7.holds_tied_plain_at .later [] [.data, .data, .pinned] true Rows.wireBackCard.stood.harness false over (fun _ h => by cases h) (by kernel_rfl) (fun _ h => by cases h) wireBack_row_tie rfl ⟨rfl, rfl⟩ (by kernel_rfl) rfl
    (fun f fn hf hfn => by
      obtain rfl : f = 3 := Option.some.inj ((show Tryd.prog.funcNamed Rows.wireBackRow.func = some 3 by kernel_rfl).symm.trans hf) |>.symm
      obtain rfl : fn = Tryd.f3 := (Option.some.inj (Tryd.func3.symm.trans hfn)).symm
      exact ⟨by kernel_rfl, fun j t ht => by
        rw [Tryd.params3] at ht
        have hm : t ∈ [24] := by simpa using Array.mem_of_getElem? ht
        have hall : ([24].all fun u => !Tryd.prog.wantsStandIn u) = true := by kernel_rfl
        exact (show Tryd.prog.wantsStandIn t = false by simpa using List.all_eq_true.1 hall t hm)⟩)
    (by kernel_rfl)
#print axioms proved
end Go.Proofs.YthigcaakkjfghaaDoor.wireBack
