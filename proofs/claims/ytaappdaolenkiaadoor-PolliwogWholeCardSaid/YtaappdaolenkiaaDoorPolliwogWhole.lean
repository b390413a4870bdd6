/-
  PolliwogWhole is proved: units, packed by hand and by the wire, are the same; another user's frame isn't taken; for every input the law returns true.
-/
import Derived.Test.YtaappdaolenkiaaDoorLaid
import Derived.Test.YtaappdaolenkiaaDoorCards
import Derived.Test.YtaappdaolenkiaaDoorWhole2
import Derived.Deep.RegionHeld3
import Derived.Deep.DeepCutAuto
namespace Go.Proofs.YtaappdaolenkiaaDoor.polliwogWhole
open Go.ChangeShapes Go.WideShapes Go.ChangeAt Go.RowKit
set_option linter.unusedVariables false      -- a walk need not use every bound of an argument

open CrcMath CrcCalls FrameMath Wire
set_option maxRecDepth 100000 in
set_option maxHeartbeats 40000000 in
theorem walk (w : World) (v : Value) (x : Base.Dat) (h0 : Base.RdV w (.slice (.struct [.int .i64, .int .i64, .int .i64, .int .i64, .int .i64, .slice (.int .i64), .bool, .str])) x v) (a1 : Int) (w1 : (Lit.int .u8 a1).wf = true) (hL : laidMetH Tryd.prog Rows.polliwogWholeRow.laid w) :
    Calls Tryd.prog 3 #[v, .int .u8 a1] w fun e w' => e = .returned (.bool true) ∧ Below w.heap.size w w' := by
  obtain ⟨a, m0, cap, rfl, hm, hel⟩ := Wire.open_list w v x h0
  have HF := Lib.hid (Pdu.forms_laid (by kernel_rfl) hL (by simp [Rows.polliwogWholeRow]))
  have HEL := Lib.hid hel
  obtain ⟨b1, b2⟩ := bounds_u8 w1
  obtain ⟨u, rfl⟩ : ∃ u : Nat, a1 = (u : Int) := ⟨a1.toNat, by omega⟩
  have hu256 : u < 256 := by omega
  have HU256 := Lib.hid hu256
  have hz := zero_run
  clear hL h0 x hel b1 b2 w1 hu256
  go_enter Tryd.func3, Tryd.ntmps3
  go_upto_region 2 with (first
    | ((have _s := t2); refine wpList_store_row rfl 27 _ _ rfl _ table rfl rfl 27 zeros (heap_alloc_last _ _) (by rw [table_size]; exact tableInfo) (by rw [table_size, zeros_size]) table_cells ?_
       rw [World.setRow_alloc_new])
    | ((have _s := t1); go_at_call 5; refine (make_any _).mono ?_; rintro e W2 ⟨rfl, hb2⟩; have t2 : True := trivial)
    | (go_at_call 4; refine (new_any _).mono ?_; rintro e W1 ⟨B, rfl, hT, hb1⟩; have t1 : True := trivial))
  have HT3 := Lib.hid ((hT.below hb2).alloc (.cells table 27))
  have HTT := Lib.hid (FrameCalls.tab_new W2 27)
  have HB3 : Hid (Below w.heap.size w (W2.alloc (.cells table 27))) := Lib.hid ((hb1.trans (hb2.mono hb1.size)).alloc (Nat.le_trans hb1.size hb2.size) _)
  clear hT hb1 hb2 t1 t2 hz
  generalize W2.alloc (.cells table 27) = W3 at *
  generalize W2.heap.size = BT at *
  have HF3 := Lib.hid (HF.out.below HB3.out (Nat.le_refl _))
  go_wp2_with fail
  go_loopw [7] (fun i wr => ∃ j : Nat, j ≤ 12 ∧ i = .int .i64 (j : Int) ∧ Hid (Below W3.heap.size W3 wr)) (fun i _ => 12 - (intOf i).toNat)
  case atStart => exact ⟨0, by omega, rfl, Lib.hid (Below.refl _ _)⟩
  case round =>
    obtain ⟨j, hj, rfl, hb⟩ := hrel
    have HBW := Lib.hid (HB3.out.trans (hb.out.mono HB3.out.size))
    by_cases hgo : j < m0 ∧ j < 12
    · obtain ⟨hjm, hj12⟩ := hgo
      obtain ⟨b, off, rfl, hblt, hE⟩ : ∃ b off, a = some ⟨b, off, none⟩ ∧ b < w.heap.size ∧ ∀ i, i < m0 → Elem w b off i := by
        rcases HEL.out with h | h
        · omega
        · exact h
      obtain ⟨k, sq, n, ps, mr, al, capl, L, self, data, ⟨c0, c1, c2, c3, c4, c5, c6, c7⟩, hrl, hll⟩ := hE j hjm
      have hk := fun o => HBW.out.cell (p := ⟨b, o, none⟩) hblt
      have k0 := (hk _).trans c0
      have k1 := (hk _).trans c1
      have k2 := (hk _).trans c2
      have k3 := (hk _).trans c3
      have k4 := (hk _).trans c4
      have k5 := (hk _).trans c5
      have k6 := (hk _).trans c6
      have k7 := (hk _).trans c7
      have HRL := Lib.hid (hrl.below HBW.out)
      have HLL := Lib.hid hll
      have HJ12 := Lib.hid hj12
      have HTR := Lib.hid (HT3.out.below hb.out)
      have HTTR := Lib.hid (HTT.out.below hb.out)
      have HFR := Lib.hid (HF3.out.below hb.out (Nat.le_refl _))
      have h12I : (j : Int) < 12 := by omega
      have hm0I : (j : Int) < (m0 : Int) := by omega
      clear c0 c1 c2 c3 c4 c5 c6 c7 hk hrl hll hE
      go_upto_region 8 with (first
        | ((have _s := t2); refine wpList_store_row rfl 32 _ _ rfl W5.heap.size (Pdu.aggU k sq n' ps' mr' (.slice a5 m c5) self d') rfl rfl 32 #[.int .i64 0, .int .i64 0, .int .u32 0, .int .u32 0, .int .u32 0, .slice none 0 0, .bool false, .string ⟨#[]⟩] (heap_alloc_new W5 _) Pdu.info_pdu rfl (by simp [Value.oneCell']) ?_
           rw [World.setRow_alloc_new])
        | ((have _s := t1); go_at_call 6
           refine (Pdu.own_few k sq n' ps' mr' a2 m cap2 L' self d' _ hr2 HN.out.1 HB.out.1 HB.out.2.1 HB.out.2.2.1 HB.out.2.2.2).mono ?_
           rintro e W5 ⟨a5, c5, rfl, hr5, hb5⟩
           have t2 : True := trivial)
        | (go_at_call 7
           refine (Pdu.few_any k sq n ps mr al L.length capl L self data _ HRL.out HLL.out).mono ?_
           rintro e W4 ⟨lv, rfl, ho, hb4⟩
           obtain ⟨a2, cap2, rfl, hr2⟩ := Pdu.owned ho
           (have BN := Pdu.clampU_bounds n); (have BP := Pdu.clampU_bounds ps); (have BM := Pdu.clampU_bounds mr); (have BL := Pdu.fewL_bounds L)
           (have HM0 : (Pdu.fewL L).length ≤ 140 := Pdu.fewL_len L)
           generalize Pdu.clampU n = n' at *
           generalize Pdu.clampU ps = ps' at *
           generalize Pdu.clampU mr = mr' at *
           generalize Pdu.fewL L = L' at *
           generalize Pdu.cutL data 210 = d' at *
           generalize hml : L'.length = m at *
           (have HML := Lib.hid hml)
           (have HB := Lib.hid (And.intro BN (And.intro BP (And.intro BM BL))))
           (have HN : Hid (m ≤ 1000 ∧ m ≤ 100000 ∧ m ≤ 1000000) := Lib.hid (by omega))
           clear hml BN BP BM BL HM0 k0 k1 k2 k3 k4 k5 k6 k7
           have t1 : True := trivial))
      have HU : Hid ((W5.alloc (.cells (Pdu.aggU k sq n' ps' mr' (.slice a5 m c5) self d') 32)).heap[W5.heap.size]? = some (.cells (Pdu.aggU k sq n' ps' mr' (.slice a5 m c5) self d') 32 (0, 0))) := Lib.hid (heap_alloc_new W5 _)
      have HRU : Hid (Own.RdI .u32 (W5.alloc (.cells (Pdu.aggU k sq n' ps' mr' (.slice a5 m c5) self d') 32)) a5 m L') := Lib.hid (hr5.alloc _)
      have hbb : Below wr.heap.size wr (W5.alloc (.cells (Pdu.aggU k sq n' ps' mr' (.slice a5 m c5) self d') 32)) := (hb4.trans (hb5.mono hb4.size)).alloc (Nat.le_trans hb4.size hb5.size) _
      have HB6 := Lib.hid hbb
      have HT6 := Lib.hid (HTR.out.below hbb)
      have HTT6 := Lib.hid (HTTR.out.below hbb)
      have HF6 := Lib.hid (HFR.out.below hbb (Nat.le_refl _))
      clear hbb hr5 hb5 hb4 hr2 ho t1 t2 HRL HTR HTTR HFR HLL
      generalize W5.alloc (.cells (Pdu.aggU k sq n' ps' mr' (.slice a5 m c5) self d') 32) = W6 at *
      generalize W5.heap.size = gp at *
      have HO : Hid (∀ w' : World, Below W6.heap.size W6 w' → w'.cell? ⟨gp, 0, none⟩ = some (.int .i64 k) ∧ w'.cell? ⟨gp, 1, none⟩ = some (.int .i64 sq) ∧ w'.cell? ⟨gp, 2, none⟩ = some (.int .u32 n') ∧ w'.cell? ⟨gp, 3, none⟩ = some (.int .u32 ps') ∧ w'.cell? ⟨gp, 4, none⟩ = some (.int .u32 mr') ∧ w'.cell? ⟨gp, 5, none⟩ = some (.slice a5 m c5) ∧ w'.cell? ⟨gp, 6, none⟩ = some (.bool self) ∧ w'.cell? ⟨gp, 7, none⟩ = some (.string d')) := Lib.hid (fun w' hb => by
        have e := (hb.block gp (Array.getElem?_eq_some_iff.1 HU.out).1).trans HU.out
        exact ⟨Go.Joins.cell_of_block e 0, Go.Joins.cell_of_block e 1, Go.Joins.cell_of_block e 2, Go.Joins.cell_of_block e 3, Go.Joins.cell_of_block e 4, Go.Joins.cell_of_block e 5, Go.Joins.cell_of_block e 6, Go.Joins.cell_of_block e 7⟩)
      have HCK := Lib.hid (fun (w' : World) (hb : Below W6.heap.size W6 w') => Pdu.checkV k sq n' ps' mr' a5 m c5 L' self d' w' (HF6.out.below hb (Nat.le_refl _)) (HRU.out.below hb) HN.out.2.1 HB.out.2.2.2)
      have HBY := Lib.hid (fun (w' : World) (hb : Below W6.heap.size W6 w') => Pdu.bytesV k sq n' ps' mr' a5 m c5 L' self d' w' (HF6.out.below hb (Nat.le_refl _)) (HRU.out.below hb) HN.out.2.1 HB.out.2.2.2 HB.out.1.1)
      have HPK := Lib.hid (fun (w' : World) (hb : Below W6.heap.size W6 w') => Wire.pack_any B k sq n' ps' mr' a5 m c5 L' self d' w' (HT6.out.below hb) (HF6.out.below hb (Nat.le_refl _)) (HRU.out.below hb) HN.out.2.1 HB.out.2.2.2 HB.out.1.1)
      have HNN : Hid (Wire.NonNeg ⟨k, sq, n', ps', mr', L', self, d'⟩) := Lib.hid ⟨HB.out.1.1, HB.out.2.1.1, HB.out.2.2.1.1, fun z hz => (HB.out.2.2.2 z hz).1⟩
      obtain ⟨P, hP⟩ : ∃ P, Wire.packW ⟨k, sq, n', ps', mr', L', self, d'⟩ = P := ⟨_, rfl⟩
      obtain ⟨C, hC⟩ : ∃ C, Pdu.checkU ⟨k, sq, n', ps', mr', L', self, d'⟩ = C := ⟨_, rfl⟩
      obtain ⟨S, hS⟩ : ∃ S, Pdu.bytesU ⟨k, sq, n', ps', mr', L', self, d'⟩ = S := ⟨_, rfl⟩
      have HP := Lib.hid hP
      have HC := Lib.hid hC
      have HS := Lib.hid hS
      clear hP hC hS
      have hcc : (C != C) = false := by simp
      obtain ⟨l0, l1, l2, l3, l4, l5, l6, l7⟩ := HO.out _ (Below.refl _ _)
      go_upto_region 11 with (first
        | ((have _s := hb7); go_at_call 9
           refine (HCK.out _ hb7).mono ?_
           rintro e W8 ⟨rfl, h8⟩
           rw [HC.out]
           (have hb8 := hb7.trans (h8.mono hb7.size)))
        | (go_at_call 8
           refine (HPK.out _ (Below.refl _ _)).mono ?_
           rintro e W7 ⟨rfl, hb7⟩
           rw [HP.out, HC.out]
           clear l0 l1 l2 l3 l4 l5 l6 l7
           obtain ⟨l0, l1, l2, l3, l4, l5, l6, l7⟩ := HO.out _ hb7))
      clear l0 l1 l2 l3 l4 l5 l6 l7 h8 hb7
      obtain ⟨l0, l1, l2, l3, l4, l5, l6, l7⟩ := HO.out _ hb8
      by_cases hc : C = 0
      · subst hc
        have HFP : Hid (FrameCalls.frameB 0 S = P) := Lib.hid (by rw [← HP.out, ← HS.out]; unfold Wire.packW; rw [if_pos HC.out])
        have HSS : Hid (S.size ≤ 2000) := Lib.hid (by rw [← HS.out]; exact Wire.bytes_small _ HC.out)
        have HBF0 : Hid (∀ w' : World, Below W6.heap.size W6 w' → Calls Tryd.prog 11 #[.agg #[.int .u8 0, .string S], .pointer (some ⟨BT, 0, none⟩)] w' fun e w2 => e = .returned (.tuple #[.string P, .int .i64 0]) ∧ Below w'.heap.size w' w2) := Lib.hid (fun w' h => by
          have := FrameCalls.bytes_frame BT 0 (by decide) S w' (HTT6.out.below h) (by have := HSS.out; omega)
          rw [← HFP.out]; exact this)
        obtain ⟨O, hO⟩ : ∃ O, FrameCalls.frameB (UInt8.ofNat u) S = O := ⟨_, rfl⟩
        have HBFU : Hid (∀ w' : World, Below W6.heap.size W6 w' → Calls Tryd.prog 11 #[.agg #[.int .u8 (u : Int), .string S], .pointer (some ⟨BT, 0, none⟩)] w' fun e w2 => e = .returned (.tuple #[.string O, .int .i64 0]) ∧ Below w'.heap.size w' w2) := Lib.hid (fun w' h => by rw [← hO]; exact FrameCalls.bytes_frame BT u HU256.out S w' (HTT6.out.below h) (by have := HSS.out; omega))
        have HOSN : Hid ((decide (O.size % 48 = 0) && fits O.data.toList) = true) := Lib.hid (by rw [← hO]; exact Wire.frame_sound _ _)
        have HOS : Hid (O.size ≤ 2100) := Lib.hid (by rw [← hO, FrameCalls.frameB_size]; have := cellsN_room S.size; have := HSS.out; omega)
        have HO0 : Hid (u = 0 → O = P) := Lib.hid (fun h => by rw [← hO, ← HFP.out, h]; rfl)
        have HO3 : Hid (u ≠ 0 → Wire.codeW O = 3) := Lib.hid (fun h => by
          rw [← hO]
          refine Wire.other_code _ (fun e => h ?_) S (by have := HSS.out; omega)
          have e2 := congrArg UInt8.toNat e
          rw [UInt8.toNat_ofNat'] at e2
          have := HU256.out
          have e3 : (0 : UInt8).toNat = 0 := rfl
          omega)
        clear hO
        have HPB : Hid (∀ w' : World, Below W6.heap.size W6 w' → Calls Tryd.prog 12 #[.pointer (some ⟨BT, 0, none⟩), .string P] w' fun e w2 => e = .returned (.tuple #[.agg #[.int .u8 0, .string S], .int .i64 0]) ∧ Below w'.heap.size w' w2) := Lib.hid (fun w' h => FrameCalls.parse_back BT 0 S P w' (HTT6.out.below h) HFP.out (by have := HSS.out; omega))
        have HPP : Hid (∀ w' : World, Below W6.heap.size W6 w' → Calls Tryd.prog 13 #[.string S] w' fun e w2 => ∃ a cap, e = .returned (.tuple #[.agg (Pdu.aggU k sq n' ps' mr' (.slice a m cap) self d'), .int .i64 0]) ∧ Own.RdI .u32 w2 a m L' ∧ Below w'.heap.size w' w2) := Lib.hid (fun w' h => Wire.parse_pack k sq n' ps' mr' m L' self d' S w' (HF6.out.below h (Nat.le_refl _)) HML.out.symm HS.out HC.out HNN.out)
        have info_f : (Tryd.prog.info? 44).map (·.size) = some 2 := by kernel_rfl
        have hpp : (P.toList != P.toList) = false := by simp
        have hss : (S.toList != S.toList) = false := by simp
        go_upto_region 14 with (first
          | ((have _s := t3); refine wpList_store_row rfl 44 _ _ rfl W11.heap.size #[.int .u8 0, .string S] rfl rfl 44 #[.int .u8 0, .string ⟨#[]⟩] (heap_alloc_new W11 _) info_f rfl (by simp [Value.oneCell']) ?_
             rw [World.setRow_alloc_new])
          | ((have _s := t2); go_at_call 12
             refine (HPB.out _ hb10).mono ?_
             rintro e W11 ⟨rfl, h11⟩
             (have hb11 := hb10.trans (h11.mono hb10.size))
             have t3 : True := trivial)
          | ((have _s := t1); go_at_call 11
             refine (HBF0.out _ hb9).mono ?_
             rintro e W10 ⟨rfl, h10⟩
             (have hb10 := hb9.trans (h10.mono hb9.size))
             have t2 : True := trivial)
          | (go_at_call 10
             refine (HBY.out _ hb8).mono ?_
             rintro e W9 ⟨rfl, h9⟩
             rw [HS.out]
             (have hb9 := hb8.trans (h9.mono hb8.size))
             have t1 : True := trivial))
        have HB12 := Lib.hid (hb11.alloc hb11.size (.cells #[.int .u8 0, .string S] 44))
        have HGF := Lib.hid (heap_alloc_new W11 (.cells #[.int .u8 0, .string S] 44))
        clear l0 l1 l2 l3 l4 l5 l6 l7 h9 h10 h11 hb8 hb9 hb10 hb11 t1 t2 t3
        generalize W11.alloc (.cells #[.int .u8 0, .string S] 44) = W12 at *
        generalize W11.heap.size = gf at *
        have f1 : W12.cell? ⟨gf, 1, none⟩ = some (.string S) := Go.Joins.cell_of_block HGF.out 1
        go_upto_region 15 with (first
          | ((have _s := t4); refine wpList_store_row rfl 32 _ _ rfl W13.heap.size (Pdu.aggU k sq n' ps' mr' (.slice a6 m c6) self d') rfl rfl 32 #[.int .i64 0, .int .i64 0, .int .u32 0, .int .u32 0, .int .u32 0, .slice none 0 0, .bool false, .string ⟨#[]⟩] (heap_alloc_new W13 _) Pdu.info_pdu rfl (by simp [Value.oneCell']) ?_
             rw [World.setRow_alloc_new])
          | (go_at_call 13
             refine (HPP.out _ HB12.out).mono ?_
             rintro e W13 ⟨a6, c6, rfl, hr6, h13⟩
             have t4 : True := trivial))
        have hb13 := HB12.out.trans (h13.mono HB12.out.size)
        have HB14 := Lib.hid (hb13.alloc hb13.size (.cells (Pdu.aggU k sq n' ps' mr' (.slice a6 m c6) self d') 32))
        have HGQ := Lib.hid (heap_alloc_new W13 (.cells (Pdu.aggU k sq n' ps' mr' (.slice a6 m c6) self d') 32))
        have HR14 := Lib.hid (hr6.alloc (.cells (Pdu.aggU k sq n' ps' mr' (.slice a6 m c6) self d') 32))
        have hgfl := (Array.getElem?_eq_some_iff.1 HGF.out).1
        have HGF14 := Lib.hid ((((Below.refl W13.heap.size W13).alloc (Nat.le_refl _) (.cells (Pdu.aggU k sq n' ps' mr' (.slice a6 m c6) self d') 32)).block gf (Nat.lt_of_lt_of_le hgfl h13.size)).trans ((h13.block gf hgfl).trans HGF.out))
        clear hr6 h13 hb13 t4 f1 hgfl HGF HB12
        generalize W13.alloc (.cells (Pdu.aggU k sq n' ps' mr' (.slice a6 m c6) self d') 32) = W14 at *
        generalize W13.heap.size = gq at *
        have HBQ := Lib.hid (fun (w' : World) (hb : Below W14.heap.size W14 w') => Pdu.bytesV k sq n' ps' mr' a6 m c6 L' self d' w' (HF6.out.below (HB14.out.trans (hb.mono HB14.out.size)) (Nat.le_refl _)) (HR14.out.below hb) HN.out.2.1 HB.out.2.2.2 HB.out.1.1)
        have H614 : Hid (∀ w', Below W14.heap.size W14 w' → Below W6.heap.size W6 w') := Lib.hid (fun w' h => HB14.out.trans (h.mono HB14.out.size))
        have HO2 : Hid (∀ w' : World, Below W14.heap.size W14 w' → w'.cell? ⟨gp, 0, none⟩ = some (.int .i64 k) ∧ w'.cell? ⟨gp, 1, none⟩ = some (.int .i64 sq) ∧ w'.cell? ⟨gp, 2, none⟩ = some (.int .u32 n') ∧ w'.cell? ⟨gp, 3, none⟩ = some (.int .u32 ps') ∧ w'.cell? ⟨gp, 4, none⟩ = some (.int .u32 mr') ∧ w'.cell? ⟨gp, 5, none⟩ = some (.slice a5 m c5) ∧ w'.cell? ⟨gp, 6, none⟩ = some (.bool self) ∧ w'.cell? ⟨gp, 7, none⟩ = some (.string d') ∧
            w'.cell? ⟨gq, 0, none⟩ = some (.int .i64 k) ∧ w'.cell? ⟨gq, 1, none⟩ = some (.int .i64 sq) ∧ w'.cell? ⟨gq, 2, none⟩ = some (.int .u32 n') ∧ w'.cell? ⟨gq, 3, none⟩ = some (.int .u32 ps') ∧ w'.cell? ⟨gq, 4, none⟩ = some (.int .u32 mr') ∧ w'.cell? ⟨gq, 5, none⟩ = some (.slice a6 m c6) ∧ w'.cell? ⟨gq, 6, none⟩ = some (.bool self) ∧ w'.cell? ⟨gq, 7, none⟩ = some (.string d') ∧ w'.cell? ⟨gf, 0, none⟩ = some (.int .u8 0) ∧ Below W14.heap.size W14 w') := Lib.hid (fun w' hb => by
          obtain ⟨l0, l1, l2, l3, l4, l5, l6, l7⟩ := HO.out w' (H614.out w' hb)
          have e := (hb.block gq (Array.getElem?_eq_some_iff.1 HGQ.out).1).trans HGQ.out
          have e2 := (hb.block gf (Array.getElem?_eq_some_iff.1 HGF14.out).1).trans HGF14.out
          exact ⟨l0, l1, l2, l3, l4, l5, l6, l7, Go.Joins.cell_of_block e 0, Go.Joins.cell_of_block e 1, Go.Joins.cell_of_block e 2, Go.Joins.cell_of_block e 3, Go.Joins.cell_of_block e 4, Go.Joins.cell_of_block e 5, Go.Joins.cell_of_block e 6, Go.Joins.cell_of_block e 7, Go.Joins.cell_of_block e2 0, hb⟩)
        obtain ⟨l0, l1, l2, l3, l4, l5, l6, l7, q0, q1, q2, q3, q4, q5, q6, q7, f0, _⟩ := HO2.out W14 (Below.refl _ _)
        have h00 : ((0 : Int) != 0) = false := by decide
        go_cut [93] (fun s93 wx => s93 = .bool false ∧ Hid (Below W14.heap.size W14 wx))
        case first =>
          go_region_held3 (fun w' => w'.cell? ⟨gp, 0, none⟩ = some (.int .i64 k) ∧ w'.cell? ⟨gp, 1, none⟩ = some (.int .i64 sq) ∧ w'.cell? ⟨gp, 2, none⟩ = some (.int .u32 n') ∧ w'.cell? ⟨gp, 3, none⟩ = some (.int .u32 ps') ∧ w'.cell? ⟨gp, 4, none⟩ = some (.int .u32 mr') ∧ w'.cell? ⟨gp, 5, none⟩ = some (.slice a5 m c5) ∧ w'.cell? ⟨gp, 6, none⟩ = some (.bool self) ∧ w'.cell? ⟨gp, 7, none⟩ = some (.string d') ∧
            w'.cell? ⟨gq, 0, none⟩ = some (.int .i64 k) ∧ w'.cell? ⟨gq, 1, none⟩ = some (.int .i64 sq) ∧ w'.cell? ⟨gq, 2, none⟩ = some (.int .u32 n') ∧ w'.cell? ⟨gq, 3, none⟩ = some (.int .u32 ps') ∧ w'.cell? ⟨gq, 4, none⟩ = some (.int .u32 mr') ∧ w'.cell? ⟨gq, 5, none⟩ = some (.slice a6 m c6) ∧ w'.cell? ⟨gq, 6, none⟩ = some (.bool self) ∧ w'.cell? ⟨gq, 7, none⟩ = some (.string d') ∧ w'.cell? ⟨gf, 0, none⟩ = some (.int .u8 0) ∧ Below W14.heap.size W14 w')
            (first | (with_reducible assumption) | exact HO2.out _ (Below.refl _ _).drew | exact HO2.out _ hb15 | exact HO2.out _ hb16)
            (first
              | ((have _s := hb15)
                 go_at_call 10
                 refine (HBY.out _ (H614.out _ hb15)).mono ?_
                 rintro e W16 ⟨rfl, h16⟩
                 rw [HS.out]
                 (have hb16 := hb15.trans (h16.mono hb15.size)))
              | (go_at_call 10
                 (have hb0 : Below W14.heap.size W14 W14.drew := (Below.refl _ _).drew)
                 refine (HBQ.out _ hb0).mono ?_
                 rintro e W15 ⟨rfl, h15⟩
                 rw [HS.out]
                 (have hb15 := hb0.trans (h15.mono hb0.size))))
          all_goals go_wp2_with fail
          all_goals go_meet
          all_goals exact ⟨rfl, Lib.hid hb16⟩
        case rest =>
          obtain ⟨rfl, HB16⟩ := hcut
          clear l0 l1 l2 l3 l4 l5 l6 l7 q0 q1 q2 q3 q4 q5 q6 q7 f0 h00 hpp hss
          have HX16 := Lib.hid (H614.out _ HB16.out)
          obtain ⟨l0, l1, l2, l3, l4, l5, l6, l7⟩ := HO.out _ HX16.out
          by_cases hu0 : u = 0
          · have hub : ((u : Int) == 0) = true := by simp [hu0]
            obtain rfl : O = P := HO0.out hu0
            have h00 : ((0 : Int) == 0) = true := by decide
            have HOP : Hid (∀ w', Below W6.heap.size W6 w' → Calls Tryd.prog 14 #[.pointer (some ⟨B, 0, none⟩), .string O] w' fun e w2 => ∃ a cap, e = .returned (.tuple #[.agg (Pdu.aggU k sq n' ps' mr' (.slice a m cap) self d'), .int .i64 0]) ∧ Own.RdI .u32 w2 a m L' ∧ Below w'.heap.size w' w2) := Lib.hid (fun w' h => by
              have := Wire.open_pack B k sq n' ps' mr' m L' self d' w' (HT6.out.below h) (HF6.out.below h (Nat.le_refl _)) HML.out.symm HC.out HNN.out
              rw [HP.out] at this; exact this)
            clear hu0
            go_upto_region 19 with (first
              | ((have _s := t3); refine wpList_store_row rfl 32 _ _ rfl W19.heap.size (Pdu.aggU k sq n' ps' mr' (.slice a7 m c7) self d') rfl rfl 32 #[.int .i64 0, .int .i64 0, .int .u32 0, .int .u32 0, .int .u32 0, .slice none 0 0, .bool false, .string ⟨#[]⟩] (heap_alloc_new W19 _) Pdu.info_pdu rfl (by simp [Value.oneCell']) ?_
                 rw [World.setRow_alloc_new])
              | ((have _s := t2); go_at_call 14
                 refine (HOP.out _ hb18).mono ?_
                 rintro e W19 ⟨a7, c7, rfl, _, h19⟩
                 (have hb19 := hb18.trans (h19.mono hb18.size))
                 have t3 : True := trivial)
              | ((have _s := t1); go_at_call 11
                 refine (HBFU.out _ hb17).mono ?_
                 rintro e W18 ⟨rfl, h18⟩
                 (have hb18 := hb17.trans (h18.mono hb17.size))
                 have t2 : True := trivial)
              | (go_at_call 10
                 refine (HBY.out _ HX16.out).mono ?_
                 rintro e W17 ⟨rfl, h17⟩
                 rw [HS.out]
                 (have hb17 := HX16.out.trans (h17.mono HX16.out.size))
                 have t1 : True := trivial))
            have HB20 := Lib.hid (hb19.alloc hb19.size (.cells (Pdu.aggU k sq n' ps' mr' (.slice a7 m c7) self d') 32))
            clear l0 l1 l2 l3 l4 l5 l6 l7 h17 h18 h19 hb17 hb18 hb19 t1 t2 t3
            generalize W19.alloc (.cells (Pdu.aggU k sq n' ps' mr' (.slice a7 m c7) self d') 32) = W20 at *
            generalize W19.heap.size = gz at *
            go_wp2_with (go_at_call 15
                         refine (Wire.sound_any B O _ (HT6.out.below HB20.out) (by have := HOS.out; omega)).mono ?_
                         rintro e W21 ⟨rfl, h21⟩
                         rw [HOSN.out])
            have HBE := Lib.hid (hb.out.trans ((HB6.out.trans ((HB20.out.trans (h21.mono HB20.out.size)).mono HB6.out.size)).mono hb.out.size))
            go_roundw
            case rel => exact ⟨j + 1, HJ12.out, by go_num, HBE⟩
            case measure => simp [intOf]; have := HJ12.out; omega
          · have hub : ((u : Int) == 0) = false := by rw [beq_eq_false_iff_ne]; omega
            have h30 : ((3 : Int) == 0) = false := by decide
            have HC3 := Lib.hid (HO3.out hu0)
            clear hu0
            go_upto_region 19 with (first
              | ((have _s := t3); refine wpList_store_row rfl 32 _ _ rfl W19.heap.size Pdu.zeroC rfl rfl 32 #[.int .i64 0, .int .i64 0, .int .u32 0, .int .u32 0, .int .u32 0, .slice none 0 0, .bool false, .string ⟨#[]⟩] (heap_alloc_new W19 _) Pdu.info_pdu rfl (by simp [Value.oneCell']) ?_
                 rw [World.setRow_alloc_new])
              | ((have _s := t2); go_at_call 14
                 refine (Wire.open_bad O (by have := HOS.out; omega) 3 HC3.out (by decide) B _ (HT6.out.below hb18) (HF6.out.below hb18 (Nat.le_refl _))).mono ?_
                 rintro e W19 ⟨rfl, h19⟩
                 (have hb19 := hb18.trans (h19.mono hb18.size))
                 have t3 : True := trivial)
              | ((have _s := t1); go_at_call 11
                 refine (HBFU.out _ hb17).mono ?_
                 rintro e W18 ⟨rfl, h18⟩
                 (have hb18 := hb17.trans (h18.mono hb17.size))
                 have t2 : True := trivial)
              | (go_at_call 10
                 refine (HBY.out _ HX16.out).mono ?_
                 rintro e W17 ⟨rfl, h17⟩
                 rw [HS.out]
                 (have hb17 := HX16.out.trans (h17.mono HX16.out.size))
                 have t1 : True := trivial))
            have HB20 := Lib.hid (hb19.alloc hb19.size (.cells Pdu.zeroC 32))
            clear l0 l1 l2 l3 l4 l5 l6 l7 h17 h18 h19 hb17 hb18 hb19 t1 t2 t3
            generalize W19.alloc (.cells Pdu.zeroC 32) = W20 at *
            generalize W19.heap.size = gz at *
            go_wp2_with (go_at_call 15
                         refine (Wire.sound_any B O _ (HT6.out.below HB20.out) (by have := HOS.out; omega)).mono ?_
                         rintro e W21 ⟨rfl, h21⟩
                         rw [HOSN.out])
            have HBE := Lib.hid (hb.out.trans ((HB6.out.trans ((HB20.out.trans (h21.mono HB20.out.size)).mono HB6.out.size)).mono hb.out.size))
            go_roundw
            case rel => exact ⟨j + 1, HJ12.out, by go_num, HBE⟩
            case measure => simp [intOf]; have := HJ12.out; omega
      · have hcb : (C != 0) = true := by simp [hc]
        have HBE := Lib.hid (hb.out.trans ((HB6.out.trans (hb8.mono HB6.out.size)).mono hb.out.size))
        go_wp2_with fail
        go_roundw
        case rel => exact ⟨j + 1, HJ12.out, by go_num, HBE⟩
        case measure => simp [intOf]; have := HJ12.out; omega
    · by_cases hjm : j < m0
      · have h12 : ¬ ((j : Int) < 12) := by omega
        have hm0I : (j : Int) < (m0 : Int) := by omega
        go_wp2_with (go_at_call 16
                     refine (Wire.size_any 10 0 0 0 0 none 0 0 [] false ⟨#[]⟩ _ (HF3.out.below hb.out (Nat.le_refl _)) ⟨rfl, fun h => absurd h (by omega)⟩ (by omega) (fun z hz => by simp at hz) (by omega)).mono ?_
                     rintro e W9 ⟨rfl, h9⟩
                     rw [show Wire.sizeW ⟨10, 0, 0, 0, 0, [], false, ⟨#[]⟩⟩ = 48 from Wire.u10_size])
        go_ret
        exact ⟨rfl, HBW.out.trans (h9.mono HBW.out.size)⟩
      · have hd : decide (j < m0) = false := decide_eq_false hjm
        have hm0I : ¬ ((j : Int) < (m0 : Int)) := by omega
        clear hgo
        go_wp2_with (go_at_call 16
                     refine (Wire.size_any 10 0 0 0 0 none 0 0 [] false ⟨#[]⟩ _ (HF3.out.below hb.out (Nat.le_refl _)) ⟨rfl, fun h => absurd h (by omega)⟩ (by omega) (fun z hz => by simp at hz) (by omega)).mono ?_
                     rintro e W9 ⟨rfl, h9⟩
                     rw [show Wire.sizeW ⟨10, 0, 0, 0, 0, [], false, ⟨#[]⟩⟩ = 48 from Wire.u10_size])
        go_ret
        exact ⟨rfl, HBW.out.trans (h9.mono HBW.out.size)⟩

theorem own : ownKnob Tryd.prog.godebug = none := by kernel_rfl
theorem laidOut : laidOutB Tryd.prog = true := by kernel_rfl

set_option maxRecDepth 100000 in
theorem lifted (os : Os) (started : os.Started) (H : Type) (enc : TypeId × Value → H) :
    ReturnsInHanded {} Tryd.checked os 3 .any (fun w args => (Rows.polliwogWholeSpec.pre enc Tryd.prog Tryd.f3 Rows.polliwogWholeRow.domain false w args ∧ laidMetH Tryd.prog Rows.polliwogWholeRow.laid w) ∧ sizedMet enc Tryd.prog Tryd.f3 (OpenSpec.ofChange Rows.polliwogWholeSpec) false w args) (Rows.polliwogWholeSpec.post enc Tryd.prog Tryd.f3 false true false false) := by
  refine Base.law_laid (C := Tryd.checked) own started (by kernel_rfl) Tryd.func3 laidOut (by kernel_rfl) rfl Tryd.underlying4 rfl ?_
    (Base.laid_witness #[.slice none 0 0, .int .u8 0] (World.shaped_of_ZipB (by kernel_rfl) (by kernel_rfl)) (by kernel_rfl) (by kernel_rfl) (by kernel_rfl) (by rw [MakeChecks.laidMetH_plain _ _ _ (by kernel_rfl)]; exact laidMet_laidAll _ (by kernel_rfl) (by kernel_rfl))) ?_
  · intro ds h
    match ds, h with
    | [_d0, _d1], _ => exact ⟨rfl, rfl, rfl⟩
  · intro W base args ds before hval0 hA0 hlt hsz hL
    have hval : ∀ (j : Nat) t v, Tryd.f3.params[j]? = some t → args[j]? = some v → Value.okWide Tryd.prog W .any base t v := hval0
    have hA : DataW.TrodAll enc Tryd.prog W 0 (fun _ => true) true Tryd.f3.params.toList args.toList ds before := hA0
    clear hval0 hA0
    rw [Tryd.params3] at hA hval hsz
    obtain ⟨v0, vs0, d0, ds0, p0, q0, hargs, rfl, rfl, h0, r0⟩ := trodAll_cons hA
    obtain ⟨v1, vs1, d1, ds1, p1, q1, rfl, rfl, rfl, h1, r1⟩ := trodAll_cons r0
    obtain ⟨rfl, rfl, rfl⟩ := trodAll_nil r1
    obtain rfl : args = #[v0, v1] := by cases args; simp_all
    obtain ⟨x0, w0⟩ := Base.open_shape (s := (.slice (.struct [(.int .i64), (.int .i64), (.int .i64), (.int .i64), (.int .i64), (.slice (.int .i64)), .bool, .str]))) (by kernel_rfl) (hval 0 22 v0 rfl rfl) h0 (fun x hx => hlt x (by simp [hx])) hsz (j := 0) rfl rfl
    obtain ⟨a1, rfl, rfl, rfl, w1⟩ := open_int Tryd.underlying5 (hval 1 5 v1 rfl rfl) h1
    exact walk W v0 x0 w0 a1 w1 hL

theorem over : Rows.polliwogWholeRow.holds Tryd.pinned (OpenSpec.ofChange Rows.polliwogWholeSpec) :=
  OpenClaim.holds_of_wide 3 Tryd.f3 rfl rfl rfl rfl rfl rfl rfl ⟨rfl, rfl, rfl, rfl, rfl⟩ rfl rfl rfl rfl rfl (by kernel_rfl) Tryd.func3 (by kernel_rfl)
    (of_decide_eq_true (by kernel_rfl)) (by unfold Func.isWrapper; first | (rw [if_pos (by decide +kernel)]; kernel_rfl) | (rw [if_neg (by decide +kernel)]; exact ⟨rfl, rfl⟩))
    (fun os started H enc _ => lifted os started H enc)

theorem proved : Rows.PolliwogWholeCardSaid :=
  Claim7.holds_tied_plain_at .later [] [.data, .data, .pinned] true Rows.polliwogWholeCard.stood.harness false over (fun _ h => by cases h) (by kernel_rfl) (fun _ h => by cases h) polliwogWhole_row_tie rfl ⟨rfl, rfl⟩ (by kernel_rfl) rfl
    (fun f fn hf hfn => by
      obtain rfl : f = 3 := Option.some.inj ((show Tryd.prog.funcNamed Rows.polliwogWholeRow.func = some 3 by kernel_rfl).symm.trans hf) |>.symm
      obtain rfl : fn = Tryd.f3 := (Option.some.inj (Tryd.func3.symm.trans hfn)).symm
      exact ⟨by kernel_rfl, fun j t ht => by
        rw [Tryd.params3] at ht
        have hm : t ∈ [22, 5] := by simpa using Array.mem_of_getElem? ht
        have hall : ([22, 5].all fun u => !Tryd.prog.wantsStandIn u) = true := by kernel_rfl
        exact (show Tryd.prog.wantsStandIn t = false by simpa using List.all_eq_true.1 hall t hm)⟩)
    (by kernel_rfl)
#print axioms proved
end Go.Proofs.YtaappdaolenkiaaDoor.polliwogWhole
