/-
  WireReads is proved: of any bytes, also with a sum that fits, there is the unit whose frame they are, or what is wrong; for every input the law returns true.
-/
import Derived.Test.YthigcaakkjfghaaDoorLaid
import Derived.Test.YthigcaakkjfghaaDoorCards
import Derived.Test.YthigcaakkjfghaaDoorWireAll
import Derived.Test.YthigcaakkjfghaaDoorPduLaw2
import Derived.Deep.RegionHeld3
import Derived.Deep.DeepCutAuto
namespace Go.Proofs.YthigcaakkjfghaaDoor.wireReads
open Go.ChangeShapes Go.WideShapes Go.ChangeAt Go.RowKit
set_option linter.unusedVariables false      -- a walk need not use every bound of an argument

open CrcMath CrcCalls FrameMath Wire
def snd (X : ByteArray) : Bool := decide (X.size % 48 = 0) && fits X.data.toList
set_option maxRecDepth 100000 in
set_option maxHeartbeats 40000000 in
theorem walk (w : World) (a0 : ByteArray) (w0 : a0.size ≤ 140737488351232) (hL : laidMetH Tryd.prog Rows.wireReadsRow.laid w) :
    Calls Tryd.prog 4 #[.string a0] w fun e w' => e = .returned (.bool true) ∧ Below w.heap.size w w' := by
  have HF := Lib.hid (Pdu.forms_laid (by kernel_rfl) hL (by simp [Rows.wireReadsRow]))
  obtain ⟨c, hc⟩ : ∃ c, cutL a0 700 = c := ⟨_, rfl⟩
  have hcs : c.size ≤ 700 := by rw [← hc]; exact (cutL_le a0 700).1
  have HC := Lib.hid hc
  clear hc hL w0
  go_enter Tryd.func4, Tryd.ntmps4
  go_wp2_with fail
  refine (Wire.awake_any _ HF.out).mono ?_; rintro e W1 ⟨rfl, hb1⟩
  have HB1 := Lib.hid hb1
  have HF1 := Lib.hid (HF.out.below hb1 (Nat.le_refl _))
  clear hb1
  go_wp2_with fail
  refine (cut_any _ _ 700 _ rfl).mono ?_; rintro e w' ⟨rfl, rfl⟩
  rw [HC.out]
  go_wp2_with fail
  refine (new_any _).mono ?_; rintro e W2 ⟨B, rfl, hT, hb2⟩
  have HT2 := Lib.hid hT
  have HF2 := Lib.hid (HF1.out.below hb2 (Nat.le_refl _))
  have HB2 := Lib.hid (HB1.out.trans (hb2.mono HB1.out.size))
  clear hT hb2 HB1 HF1
  go_wp2_with fail
  refine (rsum_any c _ (by omega)).mono ?_; rintro e w' ⟨rfl, rfl⟩
  go_wp2_with fail
  refine (four_any _ (sum c.data.toList) _ rfl).mono ?_; rintro e w4 ⟨rfl, hb4⟩
  have hadd : ∀ w, (Op.stringOp .add c (wordB (sum c.data.toList))).run Tryd.prog w = .ok (.string (sealB c)) w := fun w => by
    rw [run_string_add_sum _ _ _ (by rw [wordB_size]; omega), sealB_eq]
  have HT4 := Lib.hid ((HT2.out.below hb4).alloc (.cells #[.string c, .string (sealB c)] 9))
  have HF4 := Lib.hid ((HF2.out.below hb4 (Nat.le_refl _)).alloc (.cells #[.string c, .string (sealB c)] 9))
  have HB4 : Hid (Below w.heap.size w (w4.alloc (.cells #[.string c, .string (sealB c)] 9))) := Lib.hid ((HB2.out.trans (hb4.mono HB2.out.size)).alloc (Nat.le_trans HB2.out.size hb4.size) _)
  have hX : ∀ k, k < 2 → ∃ X : ByteArray, X.size ≤ 1000 ∧ (w4.alloc (.cells #[.string c, .string (sealB c)] 9)).cell? ⟨w4.heap.size, k, none⟩ = some (.string X) := fun k hk => by
    match k, hk with
    | 0, _ => exact ⟨c, by omega, by rw [World.cell?_alloc_at _ _ _ _ rfl]; rfl⟩
    | 1, _ => exact ⟨sealB c, by rw [sealB_size]; omega, by rw [World.cell?_alloc_at _ _ _ _ rfl]; rfl⟩
  have HX := Lib.hid hX
  have hlt : w4.heap.size < (w4.alloc (.cells #[.string c, .string (sealB c)] 9)).heap.size := by simp
  clear hX hb4 HT2 HF2 HB2
  go_wp2_with fail
  generalize w4.alloc (.cells #[.string c, .string (sealB c)] 9) = w5 at *
  generalize w4.heap.size = g at *
  clear hadd hcs
  go_loopw [26] (fun i wr => ∃ k : Nat, k ≤ 2 ∧ i = .int .i64 k ∧ Hid (Below w5.heap.size w5 wr)) (fun i _ => 2 - (intOf i).toNat)
  case atStart => exact ⟨0, by omega, rfl, Lib.hid (Below.refl _ _)⟩
  case round =>
    obtain ⟨j, hj, rfl, hb⟩ := hrel
    by_cases hlt2 : j < 2
    · obtain ⟨X, hXs, hc0⟩ := HX.out j hlt2
      have hck : wr.cell? ⟨g, j, none⟩ = some (.string X) := (hb.out.cell (p := ⟨g, j, none⟩) hlt).trans hc0
      obtain ⟨k, sq, n, ps, mr, L, sf, d, m, c0, hml, hm, bn, bp, bm, bl, hok, hp, hr⟩ := wire_pair X hXs
      have HML := Lib.hid hml
      have HM := Lib.hid hm
      have HBB := Lib.hid (And.intro bn (And.intro bp (And.intro bm bl)))
      have HOK := Lib.hid hok
      have HPP := Lib.hid hp
      have HRP := Lib.hid hr
      have HSM : Hid (Pdu.sameU ⟨k, sq, n, ps, mr, L, sf, d⟩ ⟨k, sq, n, ps, mr, L, sf, d⟩ = true) := Lib.hid ((Pdu.same_iff _ _).2 rfl)
      have HTr := Lib.hid (HT4.out.below hb.out)
      have HFr := Lib.hid (HF4.out.below hb.out (Nat.le_refl _))
      have HLT := Lib.hid hlt2
      have HBR := Lib.hid (Below.refl wr.heap.size wr)
      clear hml hm bn bp bm bl hok hp hr hc0 hj
      go_upto_region 9 with (first
        | ((have _s := t1); refine wpList_store_row rfl 33 _ _ rfl W6.heap.size (Pdu.aggU k sq n ps mr (.slice a m cap) sf d) rfl rfl 33 #[.int .i64 0, .int .i64 0, .int .u32 0, .int .u32 0, .int .u32 0, .slice none 0 0, .bool false, .string ⟨#[]⟩] (heap_alloc_new W6 _) Pdu.info_pdu rfl (by simp [Value.oneCell']) ?_
           rw [World.setRow_alloc_new])
        | (go_at_call 16
           refine (HPP.out B _ HTr.out HFr.out).mono ?_
           rintro e W6 ⟨a, cap, rfl, hr6, hb6⟩
           have t1 : True := trivial))
      have HB7 : Hid (Below wr.heap.size wr (W6.alloc (.cells (Pdu.aggU k sq n ps mr (.slice a m cap) sf d) 33))) := Lib.hid (hb6.alloc hb6.size _)
      have HU7 : Hid ((W6.alloc (.cells (Pdu.aggU k sq n ps mr (.slice a m cap) sf d) 33)).heap[W6.heap.size]? = some (.cells (Pdu.aggU k sq n ps mr (.slice a m cap) sf d) 33 (0, 0))) := Lib.hid (heap_alloc_new W6 _)
      have HR7 : Hid (Own.RdI .u32 (W6.alloc (.cells (Pdu.aggU k sq n ps mr (.slice a m cap) sf d) 33)) a m L) := Lib.hid (hr6.alloc _)
      clear hr6 hb6 t1 hck HBR
      generalize W6.alloc (.cells (Pdu.aggU k sq n ps mr (.slice a m cap) sf d) 33) = W7 at *
      generalize W6.heap.size = gp at *
      go_upto_region 10 with (first
        | ((have _s := t2); refine wpList_store_row rfl 24 _ _ rfl W8.heap.size (Pdu.aggR k sq n ps mr (.slice a2 m cap2) sf d) rfl rfl 24 Pdu.zeroR (heap_alloc_new W8 _) info_refp rfl (by simp [Value.oneCell']) ?_
           rw [World.setRow_alloc_new])
        | (go_at_call 22
           refine (HRP.out _).mono ?_
           rintro e W8 ⟨a2, cap2, rfl, hr8, hb8⟩
           have t2 : True := trivial))
      have hup := (Array.getElem?_eq_some_iff.1 HU7.out).1
      have HB9 : Hid (Below wr.heap.size wr (W8.alloc (.cells (Pdu.aggR k sq n ps mr (.slice a2 m cap2) sf d) 24))) := Lib.hid ((HB7.out.trans (hb8.mono HB7.out.size)).alloc (Nat.le_trans HB7.out.size hb8.size) _)
      have h79 : Below W7.heap.size W7 (W8.alloc (.cells (Pdu.aggR k sq n ps mr (.slice a2 m cap2) sf d) 24)) := hb8.alloc hb8.size _
      have HU9 := Lib.hid ((h79.block gp hup).trans HU7.out)
      have HR9 := Lib.hid (HR7.out.below h79)
      have HX9 : Hid ((W8.alloc (.cells (Pdu.aggR k sq n ps mr (.slice a2 m cap2) sf d) 24)).heap[W8.heap.size]? = some (.cells (Pdu.aggR k sq n ps mr (.slice a2 m cap2) sf d) 24 (0, 0))) := Lib.hid (heap_alloc_new W8 _)
      have HRX9 : Hid (Own.RdI .i64 (W8.alloc (.cells (Pdu.aggR k sq n ps mr (.slice a2 m cap2) sf d) 24)) a2 m L) := Lib.hid (hr8.alloc _)
      clear hr8 hb8 t2 HB7 HU7 HR7 h79 hup
      generalize W8.alloc (.cells (Pdu.aggR k sq n ps mr (.slice a2 m cap2) sf d) 24) = W9 at *
      generalize W8.heap.size = gx at *
      go_cut [10] (fun s10 wx => s10 = .bool (snd X) ∧ Hid (Below W9.heap.size W9 wx))
      case first =>
        by_cases h0 : X.size = 0
        · obtain rfl := FrameCalls.empty_of h0
          have HV : Hid (snd ⟨#[]⟩ = false) := Lib.hid (by decide +kernel)
          go_quiet (fail)
          go_wp2_with fail
          go_meet
          exact ⟨by rw [HV.out], Lib.hid (Own.below_drewN (Below.refl _ _) _)⟩
        · have he := FrameCalls.isEmpty_no h0
          have he2 : (!X.toList.isEmpty) = true := by rw [he]; rfl
          by_cases h48 : X.size % 48 = 0
          · obtain ⟨m4, hm0⟩ : ∃ m4, X.size = m4 + 4 := ⟨X.size - 4, by omega⟩
            have hmI : (X.size : Int) - 4 = (m4 : Int) := by omega
            have hm2 : (m4 : Int) ≤ (X.size : Int) := by omega
            have hb48 : ((X.size : Int) % 48 == 0) = true := by rw [beq_iff_eq]; omega
            have hb48t : ((X.size : Int).tmod 48 == 0) = true := by rw [Int.tmod_eq_emod_of_nonneg (by omega)]; exact hb48
            have hwr : IntKind.i64.wrap ((X.size : Int) - 4) = (m4 : Int) := by rw [IntKind.wrap_i64]; omega
            have hwm : IntKind.i64.wrap (m4 : Int) = (m4 : Int) := by rw [IntKind.wrap_i64]; omega
            have hm00 : (0 : Int) ≤ (m4 : Int) := by omega
            have hfe := fits_eq X m4 hm0
            have HV : Hid (snd X = fits X.data.toList) := Lib.hid (by unfold snd; rw [decide_eq_true h48]; rfl)
            have HXS : Hid ((X.extract 0 m4).size ≤ 140737488351232) := Lib.hid (by rw [ByteArray.size_extract]; omega)
            obtain ⟨R, hR⟩ : ∃ R, sum (X.extract 0 m4).data.toList = R := ⟨_, rfl⟩
            have HRR := Lib.hid hR
            rw [hR] at hfe
            clear hm0 h48 h0 hR
            go_region_held3 (fun _ => True) (first | trivial)
              (first
                | (go_at_call 21
                   refine (rsum_any (X.extract 0 m4) _ HXS.out).mono ?_
                   rintro e w' ⟨rfl, rfl⟩
                   rw [HRR.out])
                | (go_at_call 20
                   refine (four_any _ R _ rfl).mono ?_
                   rintro e w10 ⟨rfl, h10⟩))
            all_goals go_wp2_with fail
            all_goals go_meet
            all_goals exact ⟨by rw [HV.out], Lib.hid ((Below.refl _ _).drew.trans (h10.mono (by simp)))⟩
          · have hb48 : ((X.size : Int) % 48 == 0) = false := by rw [beq_eq_false_iff_ne]; omega
            have HV : Hid (snd X = false) := Lib.hid (by unfold snd; rw [decide_eq_false h48]; rfl)
            clear h48 h0
            go_quiet (fail)
            go_wp2_with fail
            go_meet
            exact ⟨by rw [HV.out], Lib.hid (Own.below_drewN (Below.refl _ _) _)⟩
      case rest =>
        obtain ⟨rfl, HBX⟩ := hcut
        have HO : Hid (∀ w' : World, Below W9.heap.size W9 w' → w'.cell? ⟨gx, 0, none⟩ = some (.int .i64 k) ∧ w'.cell? ⟨gx, 1, none⟩ = some (.int .i64 sq) ∧ w'.cell? ⟨gx, 2, none⟩ = some (.int .i64 n) ∧ w'.cell? ⟨gx, 3, none⟩ = some (.int .i64 ps) ∧ w'.cell? ⟨gx, 4, none⟩ = some (.int .i64 mr) ∧ w'.cell? ⟨gx, 5, none⟩ = some (.slice a2 m cap2) ∧ w'.cell? ⟨gx, 6, none⟩ = some (.bool sf) ∧ w'.cell? ⟨gx, 7, none⟩ = some (.string d) ∧ w'.cell? ⟨gp, 0, none⟩ = some (.int .i64 k) ∧ w'.cell? ⟨gp, 1, none⟩ = some (.int .i64 sq) ∧ w'.cell? ⟨gp, 2, none⟩ = some (.int .u32 n) ∧ w'.cell? ⟨gp, 3, none⟩ = some (.int .u32 ps) ∧ w'.cell? ⟨gp, 4, none⟩ = some (.int .u32 mr) ∧ w'.cell? ⟨gp, 5, none⟩ = some (.slice a m cap) ∧ w'.cell? ⟨gp, 6, none⟩ = some (.bool sf) ∧ w'.cell? ⟨gp, 7, none⟩ = some (.string d)) := Lib.hid (fun w' hb => by
          have e1 := (hb.block gx (Array.getElem?_eq_some_iff.1 HX9.out).1).trans HX9.out
          have e := (hb.block gp (Array.getElem?_eq_some_iff.1 HU9.out).1).trans HU9.out
          exact ⟨Go.Joins.cell_of_block e1 0, Go.Joins.cell_of_block e1 1, Go.Joins.cell_of_block e1 2, Go.Joins.cell_of_block e1 3, Go.Joins.cell_of_block e1 4, Go.Joins.cell_of_block e1 5, Go.Joins.cell_of_block e1 6, Go.Joins.cell_of_block e1 7, Go.Joins.cell_of_block e 0, Go.Joins.cell_of_block e 1, Go.Joins.cell_of_block e 2, Go.Joins.cell_of_block e 3, Go.Joins.cell_of_block e 4, Go.Joins.cell_of_block e 5, Go.Joins.cell_of_block e 6, Go.Joins.cell_of_block e 7⟩)
        obtain ⟨k0, k1, k2, k3, k4, k5, k6, k7, l0, l1, l2, l3, l4, l5, l6, l7⟩ := HO.out _ HBX.out
        have hcc : (c0 != c0) = false := by simp
        have hss : (snd X != snd X) = false := by simp
        have hTW : ∀ w', Below W9.heap.size W9 w' → Below wr.heap.size wr w' := fun w' h => HB9.out.trans (h.mono HB9.out.size)
        have HTW := Lib.hid hTW
        clear hTW
        go_upto_region 13 with (first
          | ((have _s := hb10); go_at_call 18
             refine (sound_any B X _ (HTr.out.below (HTW.out _ hb10)) (by omega)).mono ?_
             rintro e W11 ⟨rfl, h11⟩
             rw [show (decide (X.size % 48 = 0) && fits X.data.toList) = snd X from rfl]
             (have hb11 := hb10.trans (h11.mono hb10.size)))
          | (go_at_call 17
             refine (Pdu.same_any k sq n ps mr a m cap L sf d k sq n ps mr a2 m cap2 L sf d _ (HR9.out.below HBX.out) (HRX9.out.below HBX.out) (by have := HM.out; omega) (by have := HM.out; omega) (by have := HBB.out.1; omega) (by have := HBB.out.2.1; omega) (by have := HBB.out.2.2.1; omega) (fun z hz => by have := HBB.out.2.2.2 z hz; omega)).mono ?_
             rintro e W10 ⟨rfl, h10⟩
             rw [HSM.out]
             (have hb10 := HBX.out.trans (h10.mono HBX.out.size))))
        clear k0 k1 k2 k3 k4 k5 k6 k7 l0 l1 l2 l3 l4 l5 l6 l7 h10 h11 hb10
        obtain ⟨k0, k1, k2, k3, k4, k5, k6, k7, l0, l1, l2, l3, l4, l5, l6, l7⟩ := HO.out _ hb11
        obtain ⟨P, hP⟩ : ∃ P, packW ⟨k, sq, n, ps, mr, L, sf, d⟩ = P := ⟨_, rfl⟩
        obtain ⟨C, hC⟩ : ∃ C, Pdu.checkU ⟨k, sq, n, ps, mr, L, sf, d⟩ = C := ⟨_, rfl⟩
        have HP := Lib.hid hP
        have HCK := Lib.hid hC
        have HCZ : Hid (c0 = 0 → C = 0 ∧ P = X) := Lib.hid (fun h => by rw [← hP, ← hC]; exact HOK.out h)
        clear hP hC
        by_cases hc : c0 = 0
        · obtain ⟨rfl, rfl⟩ := HCZ.out hc
          subst hc
          have hpp : (P.toList != P.toList) = false := by simp
          go_wp2_with (go_at_call 12
                       refine (pack_any B k sq n ps mr a m cap L sf d _ (HTr.out.below (HTW.out _ hb11)) (HFr.out.below (HTW.out _ hb11) (Nat.le_refl _)) (HR9.out.below hb11) HM.out HBB.out.2.2.2 HBB.out.1.1).mono ?_
                       rintro e W12 ⟨rfl, h12⟩
                       rw [HP.out, HCK.out])
          have HBE := Lib.hid (hb.out.trans ((HTW.out _ (hb11.trans (h12.mono hb11.size))).mono hb.out.size))
          go_roundw
          case rel => exact ⟨j + 1, HLT.out, by go_num, HBE⟩
          case measure => simp [intOf]; have := HLT.out; omega
        · have hcb : (c0 == 0) = false := by simp [hc]
          go_wp2_with (go_at_call 12
                       refine (pack_any B k sq n ps mr a m cap L sf d _ (HTr.out.below (HTW.out _ hb11)) (HFr.out.below (HTW.out _ hb11) (Nat.le_refl _)) (HR9.out.below hb11) HM.out HBB.out.2.2.2 HBB.out.1.1).mono ?_
                       rintro e W12 ⟨rfl, h12⟩
                       rw [HP.out, HCK.out])
          have HBE := Lib.hid (hb.out.trans ((HTW.out _ (hb11.trans (h12.mono hb11.size))).mono hb.out.size))
          go_roundw
          case rel => exact ⟨j + 1, HLT.out, by go_num, HBE⟩
          case measure => simp [intOf]; have := HLT.out; omega
    · obtain rfl : j = 2 := by omega
      have HBF := Lib.hid (HB4.out.trans (hb.out.mono HB4.out.size))
      go_wp2_with fail
      go_ret
      exact ⟨rfl, HBF.out⟩

theorem own : ownKnob Tryd.prog.godebug = none := by kernel_rfl
theorem laidOut : laidOutB Tryd.prog = true := by kernel_rfl

set_option maxRecDepth 100000 in
theorem lifted (os : Os) (started : os.Started) (H : Type) (enc : TypeId × Value → H) :
    ReturnsInHanded {} Tryd.checked os 4 .any (fun w args => (Rows.wireReadsSpec.pre enc Tryd.prog Tryd.f4 Rows.wireReadsRow.domain false w args ∧ laidMetH Tryd.prog Rows.wireReadsRow.laid w) ∧ sizedMet enc Tryd.prog Tryd.f4 (OpenSpec.ofChange Rows.wireReadsSpec) false w args) (Rows.wireReadsSpec.post enc Tryd.prog Tryd.f4 false true false false) := by
  refine Base.law_laid (C := Tryd.checked) own started (by kernel_rfl) Tryd.func4 laidOut (by kernel_rfl) rfl Tryd.underlying4 rfl ?_
    (Base.laid_witness #[.string ⟨#[]⟩] (World.shaped_of_ZipB (by kernel_rfl) (by kernel_rfl)) (by kernel_rfl) (by kernel_rfl) (by kernel_rfl) (by rw [MakeChecks.laidMetH_plain _ _ _ (by kernel_rfl)]; exact laidMet_laidAll _ (by kernel_rfl) (by kernel_rfl))) ?_
  · intro ds h
    match ds, h with
    | [_d0], _ => exact ⟨rfl, rfl, rfl⟩
  · intro W base args ds before hval0 hA0 hlt hsz hL
    have hval : ∀ (j : Nat) t v, Tryd.f4.params[j]? = some t → args[j]? = some v → Value.okWide Tryd.prog W .any base t v := hval0
    have hA : DataW.TrodAll enc Tryd.prog W 0 (fun _ => true) true Tryd.f4.params.toList args.toList ds before := hA0
    clear hval0 hA0
    rw [Tryd.params4] at hA hval hsz
    obtain ⟨v0, vs0, d0, ds0, p0, q0, hargs, rfl, rfl, h0, r0⟩ := trodAll_cons hA
    obtain ⟨rfl, rfl, rfl⟩ := trodAll_nil r0
    obtain rfl : args = #[v0] := by cases args; simp_all
    obtain ⟨a0, rfl, rfl, rfl, _⟩ := Go.ChangeMaps.open_string Tryd.underlying9 (hval 0 9 v0 rfl rfl) h0
    have w0 : a0.size ≤ 140737488351232 := by have := sized_string hsz (j := 0) rfl rfl; simpa [reachBytes] using this
    exact walk W a0 w0 hL

theorem over : Rows.wireReadsRow.holds Tryd.pinned (OpenSpec.ofChange Rows.wireReadsSpec) :=
  OpenClaim.holds_of_wide 4 Tryd.f4 rfl rfl rfl rfl rfl rfl rfl ⟨rfl, rfl, rfl, rfl, rfl⟩ rfl rfl rfl rfl rfl (by kernel_rfl) Tryd.func4 (by kernel_rfl)
    (of_decide_eq_true (by kernel_rfl)) (by unfold Func.isWrapper; first | (rw [if_pos (by decide +kernel)]; kernel_rfl) | (rw [if_neg (by decide +kernel)]; exact ⟨rfl, rfl⟩))
    (fun os started H enc _ => lifted os started H enc)

theorem proved : Rows.WireReadsCardSaid :=
  Claim7.holds_tied_plain_at .later [] [.data, .data, .pinned] true Rows.wireReadsCard.stood.harness false over (fun _ h => by cases h) (by kernel_rfl) (fun _ h => by cases h) wireReads_row_tie rfl ⟨rfl, rfl⟩ (by kernel_rfl) rfl
    (fun f fn hf hfn => by
      obtain rfl : f = 4 := Option.some.inj ((show Tryd.prog.funcNamed Rows.wireReadsRow.func = some 4 by kernel_rfl).symm.trans hf) |>.symm
      obtain rfl : fn = Tryd.f4 := (Option.some.inj (Tryd.func4.symm.trans hfn)).symm
      exact ⟨by kernel_rfl, fun j t ht => by
        rw [Tryd.params4] at ht
        have hm : t ∈ [9] := by simpa using Array.mem_of_getElem? ht
        have hall : ([9].all fun u => !Tryd.prog.wantsStandIn u) = true := by kernel_rfl
        exact (show Tryd.prog.wantsStandIn t = false by simpa using List.all_eq_true.1 hall t hm)⟩)
    (by kernel_rfl)
#print axioms proved
end Go.Proofs.YthigcaakkjfghaaDoor.wireReads
