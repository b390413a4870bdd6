/-
  WireFlips is proved: a packed unit with any bits turned within 32 is told, or the same; for every input the law returns true.
-/
import Derived.Test.YthigcaakkjfghaaDoorLaid
import Derived.Test.YthigcaakkjfghaaDoorCards
import Derived.Test.YthigcaakkjfghaaDoorWire3
import Derived.Test.YthigcaakkjfghaaDoorPduLaw2
import Derived.Test.YthigcaakkjfghaaDoorPduRef5
import Derived.Test.YthigcaakkjfghaaDoorWire4
namespace Go.Proofs.YthigcaakkjfghaaDoor.wireFlips
open Go.ChangeShapes Go.WideShapes Go.ChangeAt Go.RowKit
set_option linter.unusedVariables false      -- a walk need not use every bound of an argument

open Pdu Own
set_option maxRecDepth 100000 in
set_option maxHeartbeats 4000000 in
theorem walk (w : World) (v : Value) (x : Base.Dat) (h0 : Base.RdV w (.struct [.int .i64, .int .i64, .int .i64, .int .i64, .int .i64, .slice (.int .i64), .bool, .str]) x v) (at0 : Int) (wa : (Lit.int .i64 at0).wf = true) (mask : Int) (wm : (Lit.int .u32 mask).wf = true) (hL : laidMetH Tryd.prog Rows.wireFlipsRow.laid w) :
    Calls Tryd.prog 5 #[v, .int .i64 at0, .int .u32 mask] w fun e w' => e = .returned (.bool true) ∧ Below w.heap.size w w' := by
  have HA := Lib.hid (bounds_i64 wa)
  have HMK := Lib.hid (bounds_u32 wm)
  clear wa wm
  obtain ⟨k, sq, n, ps, mr, a, cap, L, self, data, rfl, hL0, hll⟩ := open_pdu w v x h0
  have HF := Lib.hid (forms_laid (by kernel_rfl) hL (by simp [Rows.wireFlipsRow]))
  clear hL h0 x
  have H0 : Hid (RAt w (w.alloc (.cells (aggR k sq n ps mr (.slice a L.length cap) self data) 24)) w.heap.size k sq n ps mr a L.length cap L self data) := Lib.hid (RAt.new hL0)
  have HLL := Lib.hid hll
  clear hL0 hll
  go_enter Tryd.func5, Tryd.ntmps5
  go_wp2_with fail
  refine (Wire.awake_any _ (HF.out.alloc _)).mono ?_; rintro e W1 ⟨rfl, hb1⟩
  have HF1 := Lib.hid ((HF.out.alloc _).below hb1 (Nat.le_refl _))
  have H1 := Lib.hid (H0.out.below hb1)
  clear hb1 H0
  generalize hgg : w.heap.size = g at *
  have HG := Lib.hid hgg
  clear hgg
  obtain ⟨k0, k1, k2, k3, k4, k5, k6, k7⟩ := H1.out.cells
  have z0 : W1.frozen? ⟨g, 0, none⟩ = false := frozen_of_row _ _ _ _ _ H1.out.blk
  go_upto_region 4 with (first
    | (go_at_call 9
       refine (few_any k sq n ps mr a L.length cap L self data _ H1.out.rd HLL.out).mono ?_; rintro e W2 ⟨lv, rfl, ho, hb2⟩
       obtain ⟨a2, cap2, rfl, hr2⟩ := owned ho
       (have hblk := (H1.out.below hb2).blk)
       clear k0 k1 k2 k3 k4 k5 k6 k7 z0)
    | (refine wpList_store_row rfl 24 _ _ rfl g (aggR k sq (clampU n) (clampU ps) (clampU mr) (.slice a2 (fewL L).length cap2) self (cutL data 210)) rfl rfl 24 _ hblk info_ref rfl (by simp [aggR, Value.oneCell']) ?_))
  have H3 : Hid (RAt w (W2.setRow g (aggR k sq (clampU n) (clampU ps) (clampU mr) (.slice a2 (fewL L).length cap2) self (cutL data 210))) g k sq (clampU n) (clampU ps) (clampU mr) a2 (fewL L).length cap2 (fewL L) self (cutL data 210)) := Lib.hid (few_at H1.out ho hb2)
  generalize W2.setRow g (aggR k sq (clampU n) (clampU ps) (clampU mr) (.slice a2 (fewL L).length cap2) self (cutL data 210)) = W3 at *
  clear ho hb2 hblk hr2 H1 HF1
  have HF3 : Hid (Forms W3) := Lib.hid (HF.out.below H3.out.bel (by rw [HG.out]; exact Nat.le_refl _))
  obtain ⟨BN, BP, BM, BL⟩ : (0 ≤ clampU n ∧ clampU n ≤ 4294967295) ∧ (0 ≤ clampU ps ∧ clampU ps ≤ 4294967295) ∧ (0 ≤ clampU mr ∧ clampU mr ≤ 4294967295) ∧ (∀ z ∈ fewL L, 0 ≤ z ∧ z ≤ 4294967295) := ⟨clampU_bounds _, clampU_bounds _, clampU_bounds _, fewL_bounds _⟩
  have HM : Hid ((fewL L).length ≤ 140) := Lib.hid (fewL_len L)
  have HD : Hid ((cutL data 210).size ≤ 210) := Lib.hid (cutL_le data 210).1
  generalize clampU n = n' at *
  generalize clampU ps = ps' at *
  generalize clampU mr = mr' at *
  generalize fewL L = L' at *
  generalize cutL data 210 = d' at *
  generalize hm : L'.length = m at *
  have HML := Lib.hid hm
  clear hm HLL HF
  have HB := Lib.hid (And.intro BN (And.intro BP (And.intro BM BL)))
  clear BN BP BM BL
  obtain ⟨k0, k1, k2, k3, k4, k5, k6, k7⟩ := H3.out.cells
  have HN : Hid (m ≤ 1000 ∧ m ≤ 100000 ∧ m ≤ 1000000) := Lib.hid (by have h1 := HM.out; omega)
  obtain ⟨C, hC⟩ : ∃ C, checkU ⟨k, sq, n', ps', mr', L', self, d'⟩ = C := ⟨_, rfl⟩
  have HC := Lib.hid hC
  clear hC
  obtain ⟨S, hS⟩ : ∃ S, bytesU ⟨k, sq, n', ps', mr', L', self, d'⟩ = S := ⟨_, rfl⟩
  have HS := Lib.hid hS
  clear hS
  go_upto_region 5 with (go_at_call 10; refine (Wire.new_any _).mono ?_; rintro e W3b ⟨B, rfl, hT, hbn⟩)
  have HT3 := Lib.hid hT
  have H3b := Lib.hid (H3.out.below hbn)
  have HF3b := Lib.hid (HF3.out.below hbn (Nat.le_refl _))
  clear k0 k1 k2 k3 k4 k5 k6 k7 hT hbn H3 HF3
  obtain ⟨k0, k1, k2, k3, k4, k5, k6, k7⟩ := H3b.out.cells
  have HNN : Hid (Wire.NonNeg ⟨k, sq, n', ps', mr', L', self, d'⟩) := Lib.hid ⟨HB.out.1.1, HB.out.2.1.1, HB.out.2.2.1.1, fun z hz => (HB.out.2.2.2 z hz).1⟩
  obtain ⟨P, hP⟩ : ∃ P, Wire.packW ⟨k, sq, n', ps', mr', L', self, d'⟩ = P := ⟨_, rfl⟩
  have HP := Lib.hid hP
  clear hP
  go_upto_region 6 with (first
    | ((have _s := t1); go_at_call 12
       refine (Wire.pack_any B k sq n' ps' mr' a5 m c5 L' self d' _ HT4.out HF4.out HR4.out HN.out.2.1 HB.out.2.2.2 HB.out.1.1).mono ?_
       rintro e W5 ⟨rfl, h5⟩
       rw [HP.out, HC.out])
    | (go_at_call 11
       refine (own_few k sq n' ps' mr' a2 m cap2 L' self d' _ H3b.out.rd HN.out.1 HB.out.1 HB.out.2.1 HB.out.2.2.1 HB.out.2.2.2).mono ?_
       rintro e W4 ⟨a5, c5, rfl, hr5, hb4⟩
       (have HR4 := Lib.hid hr5)
       (have HT4 := Lib.hid (HT3.out.below hb4))
       (have HF4 := Lib.hid (HF3b.out.below hb4 (Nat.le_refl _)))
       (have H4 := Lib.hid (H3b.out.below hb4))
       clear hb4 hr5
       have t1 : True := trivial))
  have H5 := Lib.hid (H4.out.below h5)
  have HT5 := Lib.hid (HT4.out.below h5)
  have HF5 := Lib.hid (HF4.out.below h5 (Nat.le_refl _))
  clear h5 t1 HR4 HT4 HF4 H4 H3b HT3 HF3b k0 k1 k2 k3 k4 k5 k6 k7
  obtain ⟨k0, k1, k2, k3, k4, k5, k6, k7⟩ := H5.out.cells
  by_cases hc : C = 0
  · subst hc
    have hps : P.size ≤ 800 := by rw [← HP.out]; exact Wire.pack_800 _ HC.out
    obtain ⟨at_, hat⟩ : ∃ at_, max (-40) (min at0 (8 * (P.size : Int) + 4)) = at_ := ⟨_, rfl⟩
    have HAT : Hid (-1000 ≤ at_ ∧ at_ ≤ 100000) := Lib.hid (by omega)
    obtain ⟨T, hT0⟩ : ∃ T, FrameCalls.turnB P mask at_ = T := ⟨_, rfl⟩
    have hts : T.size ≤ 800 := by rw [← hT0, FrameCalls.turnB_size]; exact hps
    have HTR : Hid (T ≠ P → Wire.codeW T = 4 ∧ CrcMath.fits T.data.toList = false) := Lib.hid (by
      rw [← hT0, ← HP.out]; exact Wire.turned_code _ HC.out mask at_)
    have HT0 := Lib.hid hT0
    clear hT0
    go_upto_region 9 with (go_at_call 23; refine (FrameCalls.flipf_any P at_ mask _ (by omega) HAT.out.1 HAT.out.2 HMK.out.1 (by have := HMK.out.2; omega)).mono ?_; rintro e W6 ⟨rfl, h6⟩; rw [HT0.out])
    have H6 := Lib.hid (H5.out.below h6)
    have HT6 := Lib.hid (HT5.out.below h6)
    have HF6 := Lib.hid (HF5.out.below h6 (Nat.le_refl _))
    clear h6 H5 HT5 HF5 hat k0 k1 k2 k3 k4 k5 k6 k7
    by_cases hTP : T = P
    · subst hTP
      have hss : (T.toList == T.toList) = true := by simp
      have HOP : Hid (∀ w', CrcCalls.Tab w' B → Forms w' → Calls Tryd.prog 16 #[.pointer (some ⟨B, 0, none⟩), .string T] w' fun e w2 => ∃ a cap, e = .returned (.tuple #[.agg (aggU k sq n' ps' mr' (.slice a m cap) self d'), .int .i64 0]) ∧ RdI .u32 w2 a m L' ∧ Below w'.heap.size w' w2) := Lib.hid (fun w' hT hF => by
        have := Wire.open_pack B k sq n' ps' mr' m L' self d' w' hT hF HML.out.symm HC.out HNN.out
        rw [HP.out] at this; exact this)
      have HSM : Hid (sameU ⟨k, sq, n', ps', mr', L', self, d'⟩ ⟨k, sq, n', ps', mr', L', self, d'⟩ = true) := Lib.hid ((same_iff _ _).2 rfl)
      have info_pdu' : (Tryd.prog.info? 33).map (·.size) = some 8 := by kernel_rfl
      go_upto_region 10 with (first
        | ((have _s := t4); refine wpList_store_row rfl 33 _ _ rfl W10.heap.size (aggU k sq n' ps' mr' (.slice a6 m c6) self d') rfl rfl 33 #[.int .i64 0, .int .i64 0, .int .u32 0, .int .u32 0, .int .u32 0, .slice none 0 0, .bool false, .string ⟨#[]⟩] (heap_alloc_new W10 _) info_pdu' rfl (by simp [aggU, Value.oneCell']) ?_
           rw [World.setRow_alloc_new])
        | (go_at_call 16
           refine (HOP.out _ HT6.out HF6.out).mono ?_
           rintro e W10 ⟨a6, c6, rfl, hr6, h10⟩
           have t4 : True := trivial))
      have HR11 : Hid (RdI .u32 (W10.alloc (.cells (aggU k sq n' ps' mr' (.slice a6 m c6) self d') 33)) a6 m L') := Lib.hid (hr6.alloc _)
      have H11 := Lib.hid ((H6.out.below h10).below ((Below.refl _ _).alloc (Nat.le_refl _) (.cells (aggU k sq n' ps' mr' (.slice a6 m c6) self d') 33)))
      have HE2 := Lib.hid (heap_alloc_new W10 (.cells (aggU k sq n' ps' mr' (.slice a6 m c6) self d') 33))
      clear hr6 h10 t4 H6 HT6 HF6
      generalize W10.alloc (.cells (aggU k sq n' ps' mr' (.slice a6 m c6) self d') 33) = W11 at *
      generalize W10.heap.size = gq at *
      have e2 := HE2.out
      obtain ⟨k0, k1, k2, k3, k4, k5, k6, k7⟩ := H11.out.cells
      have q0 := Go.Joins.cell_of_block e2 0
      have q1 := Go.Joins.cell_of_block e2 1
      have q2 := Go.Joins.cell_of_block e2 2
      have q3 := Go.Joins.cell_of_block e2 3
      have q4 := Go.Joins.cell_of_block e2 4
      have q5 := Go.Joins.cell_of_block e2 5
      have q6 := Go.Joins.cell_of_block e2 6
      have q7 := Go.Joins.cell_of_block e2 7
      clear e2
      go_wp2_with (go_at_call 17
                   refine (same_any k sq n' ps' mr' a6 m c6 L' self d' k sq n' ps' mr' a2 m cap2 L' self d' _ HR11.out H11.out.rd HN.out.2.2 HN.out.2.2 (by have := HB.out.1; omega) (by have := HB.out.2.1; omega) (by have := HB.out.2.2.1; omega) (fun z hz => by have := HB.out.2.2.2 z hz; omega)).mono ?_
                   rintro e W12 ⟨rfl, h12⟩
                   rw [HSM.out])
      go_ret
      exact ⟨rfl, by rw [HG.out]; exact (H11.out.below h12).bel⟩
    · have hne : (T.toList == P.toList) = false := by
        rw [beq_eq_false_iff_ne]
        intro e
        rw [ByteArray.toList_eq, ByteArray.toList_eq] at e
        exact hTP (str_ext e)
      have HC4 : Hid (Wire.codeW T = 4) := Lib.hid (HTR.out hTP).1
      have HSN : Hid ((decide (T.size % 48 = 0) && CrcMath.fits T.data.toList) = false) := Lib.hid (by rw [(HTR.out hTP).2]; simp)
      clear hTP
      go_upto_region 10 with (first
        | ((have _s := t4); refine wpList_store_row rfl 33 _ _ rfl W10.heap.size zeroC rfl rfl 33 #[.int .i64 0, .int .i64 0, .int .u32 0, .int .u32 0, .int .u32 0, .slice none 0 0, .bool false, .string ⟨#[]⟩] (heap_alloc_new W10 _) info_pdu rfl (by simp [Value.oneCell']) ?_
           rw [World.setRow_alloc_new])
        | (go_at_call 16
           refine (Wire.open_bad T (by omega) 4 HC4.out (by decide) B _ HT6.out HF6.out).mono ?_
           rintro e W10 ⟨rfl, h10⟩
           have t4 : True := trivial))
      have H11 := Lib.hid ((H6.out.below h10).below ((Below.refl _ _).alloc (Nat.le_refl _) (.cells zeroC 33)))
      have HT11 := Lib.hid ((HT6.out.below h10).alloc (.cells zeroC 33))
      have HQ0 : Hid ((W10.alloc (.cells zeroC 33)).cell? ⟨W10.heap.size, 0, none⟩ = some (.int .i64 0) ∧ W10.heap.size < (W10.alloc (.cells zeroC 33)).heap.size) := Lib.hid ⟨Go.Joins.cell_of_block (heap_alloc_new W10 _) 0, by simp⟩
      clear h10 t4 H6 HT6 HF6
      generalize W10.alloc (.cells zeroC 33) = W11 at *
      generalize W10.heap.size = gq at *
      go_wp2_with (go_at_call 18
                   refine (Wire.sound_any B T _ HT11.out (by omega)).mono ?_
                   rintro e W12 ⟨rfl, h12⟩
                   rw [HSN.out]
                   (have q0 : W12.cell? ⟨gq, 0, none⟩ = some (.int .i64 0) := (h12.cell (p := ⟨gq, 0, none⟩) HQ0.out.2).trans HQ0.out.1))
      go_ret
      exact ⟨rfl, by rw [HG.out]; exact (H11.out.below h12).bel⟩
  · have hcb : (C != 0) = true := by simp [hc]
    have hcc : (C == C) = true := by simp
    go_wp2_with (go_at_call 13
                 refine (rcheck_any k sq n' ps' mr' a2 m cap2 L' self d' _ H5.out.rd HN.out.2.2 HB.out.1.1 HB.out.2.1.1 HB.out.2.2.1.1 (fun z hz => (HB.out.2.2.2 z hz).1)).mono ?_
                 rintro e W7 ⟨rfl, h7⟩
                 rw [HC.out])
    go_ret
    exact ⟨rfl, by rw [HG.out]; exact (H5.out.below h7).bel⟩

theorem own : ownKnob Tryd.prog.godebug = none := by kernel_rfl
theorem laidOut : laidOutB Tryd.prog = true := by kernel_rfl

set_option maxRecDepth 100000 in
theorem lifted (os : Os) (started : os.Started) (H : Type) (enc : TypeId × Value → H) :
    ReturnsInHanded {} Tryd.checked os 5 .any (fun w args => (Rows.wireFlipsSpec.pre enc Tryd.prog Tryd.f5 Rows.wireFlipsRow.domain false w args ∧ laidMetH Tryd.prog Rows.wireFlipsRow.laid w) ∧ sizedMet enc Tryd.prog Tryd.f5 (OpenSpec.ofChange Rows.wireFlipsSpec) false w args) (Rows.wireFlipsSpec.post enc Tryd.prog Tryd.f5 false true false false) := by
  refine Base.law_laid (C := Tryd.checked) own started (by kernel_rfl) Tryd.func5 laidOut (by kernel_rfl) rfl Tryd.underlying4 rfl ?_
    (Base.laid_witness #[.agg #[.int .i64 0, .int .i64 0, .int .i64 0, .int .i64 0, .int .i64 0, .slice none 0 0, .bool false, .string ⟨#[]⟩], .int .i64 0, .int .u32 0] (World.shaped_of_ZipB (by kernel_rfl) (by kernel_rfl)) (by kernel_rfl) (by kernel_rfl) (by kernel_rfl) (by rw [MakeChecks.laidMetH_plain _ _ _ (by kernel_rfl)]; exact laidMet_laidAll _ (by kernel_rfl) (by kernel_rfl))) ?_
  · intro ds h
    match ds, h with
    | [_d0, _d1, _d2], _ => exact ⟨rfl, rfl, rfl⟩
  · intro W base args ds before hval0 hA0 hlt hsz hL
    have hval : ∀ (j : Nat) t v, Tryd.f5.params[j]? = some t → args[j]? = some v → Value.okWide Tryd.prog W .any base t v := hval0
    have hA : DataW.TrodAll enc Tryd.prog W 0 (fun _ => true) true Tryd.f5.params.toList args.toList ds before := hA0
    clear hval0 hA0
    rw [Tryd.params5] at hA hval hsz
    obtain ⟨v0, vs0, d0, ds0, p0, q0, hargs, rfl, rfl, h0, r0⟩ := trodAll_cons hA
    obtain ⟨v1, vs1, d1, ds1, p1, q1, rfl, rfl, rfl, h1, r1⟩ := trodAll_cons r0
    obtain ⟨v2, vs2, d2, ds2, p2, q2, rfl, rfl, rfl, h2, r2⟩ := trodAll_cons r1
    obtain ⟨rfl, rfl, rfl⟩ := trodAll_nil r2
    obtain rfl : args = #[v0, v1, v2] := by cases args; simp_all
    obtain ⟨x0, w0⟩ := Base.open_shape (s := (.struct [(.int .i64), (.int .i64), (.int .i64), (.int .i64), (.int .i64), (.slice (.int .i64)), .bool, .str])) (by kernel_rfl) (hval 0 24 v0 rfl rfl) h0 (fun x hx => hlt x (by simp [hx])) hsz (j := 0) rfl rfl
    obtain ⟨a1, rfl, rfl, rfl, w1⟩ := open_int Tryd.underlying3 (hval 1 3 v1 rfl rfl) h1
    obtain ⟨a2, rfl, rfl, rfl, w2⟩ := open_int Tryd.underlying29 (hval 2 29 v2 rfl rfl) h2
    exact walk W v0 x0 w0 a1 w1 a2 w2 hL

theorem over : Rows.wireFlipsRow.holds Tryd.pinned (OpenSpec.ofChange Rows.wireFlipsSpec) :=
  OpenClaim.holds_of_wide 5 Tryd.f5 rfl rfl rfl rfl rfl rfl rfl ⟨rfl, rfl, rfl, rfl, rfl⟩ rfl rfl rfl rfl rfl (by kernel_rfl) Tryd.func5 (by kernel_rfl)
    (of_decide_eq_true (by kernel_rfl)) (by unfold Func.isWrapper; first | (rw [if_pos (by decide +kernel)]; kernel_rfl) | (rw [if_neg (by decide +kernel)]; exact ⟨rfl, rfl⟩))
    (fun os started H enc _ => lifted os started H enc)

theorem proved : Rows.WireFlipsCardSaid :=
  Claim7.holds_tied_plain_at .later [] [.data, .data, .pinned] true Rows.wireFlipsCard.stood.harness false over (fun _ h => by cases h) (by kernel_rfl) (fun _ h => by cases h) wireFlips_row_tie rfl ⟨rfl, rfl⟩ (by kernel_rfl) rfl
    (fun f fn hf hfn => by
      obtain rfl : f = 5 := Option.some.inj ((show Tryd.prog.funcNamed Rows.wireFlipsRow.func = some 5 by kernel_rfl).symm.trans hf) |>.symm
      obtain rfl : fn = Tryd.f5 := (Option.some.inj (Tryd.func5.symm.trans hfn)).symm
      exact ⟨by kernel_rfl, fun j t ht => by
        rw [Tryd.params5] at ht
        have hm : t ∈ [24, 3, 29] := by simpa using Array.mem_of_getElem? ht
        have hall : ([24, 3, 29].all fun u => !Tryd.prog.wantsStandIn u) = true := by kernel_rfl
        exact (show Tryd.prog.wantsStandIn t = false by simpa using List.all_eq_true.1 hall t hm)⟩)
    (by kernel_rfl)
#print axioms proved
end Go.Proofs.YthigcaakkjfghaaDoor.wireFlips
