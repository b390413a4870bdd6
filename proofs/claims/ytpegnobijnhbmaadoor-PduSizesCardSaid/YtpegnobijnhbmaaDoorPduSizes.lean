/-
  PduSizes is proved: a unit's bytes are as many as its data, rounded up to words, and its words; for every input the law returns true.
-/
import Derived.Test.YtpegnobijnhbmaaDoorLaid
import Derived.Test.YtpegnobijnhbmaaDoorCards
import Derived.Test.YtpegnobijnhbmaaDoorPduLaw
import Derived.Test.YtpegnobijnhbmaaDoorPduAwake
namespace Go.Proofs.YtpegnobijnhbmaaDoor.pduSizes
open Go.ChangeShapes Go.WideShapes Go.ChangeAt Go.RowKit
set_option linter.unusedVariables false      -- a walk need not use every bound of an argument

open Pdu Own
set_option maxRecDepth 100000 in
set_option maxHeartbeats 4000000 in
theorem walk (w : World) (v : Value) (x : Base.Dat) (h0 : Base.RdV w (.struct [.int .i64, .int .i64, .int .i64, .int .i64, .int .i64, .slice (.int .i64), .bool, .str]) x v) (hL : laidMetH Tryd.prog Rows.pduSizesRow.laid w) :
    Calls Tryd.prog 7 #[v] w fun e w' => e = .returned (.bool true) ∧ Below w.heap.size w w' := by
  obtain ⟨k, sq, n, ps, mr, a, cap, L, self, data, rfl, hL0, hll⟩ := open_pdu w v x h0
  have HF := Lib.hid (forms_laid (by kernel_rfl) hL (by simp [Rows.pduSizesRow]))
  clear hL h0 x
  have H0 : Hid (RAt w (w.alloc (.cells (aggR k sq n ps mr (.slice a L.length cap) self data) 24)) w.heap.size k sq n ps mr a L.length cap L self data) := Lib.hid (RAt.new hL0)
  have HLL := Lib.hid hll
  clear hL0 hll
  go_enter Tryd.func7, Tryd.ntmps7
  go_wp2_with fail
  refine (awake_any _ (HF.out.alloc _)).mono ?_; rintro e W1 ⟨rfl, hb1⟩
  have HF1 := Lib.hid ((HF.out.alloc _).below hb1 (Nat.le_refl _))
  have H1 := Lib.hid (H0.out.below hb1)
  clear hb1 H0
  generalize hgg : w.heap.size = g at *
  have HG := Lib.hid hgg
  clear hgg
  obtain ⟨k0, k1, k2, k3, k4, k5, k6, k7⟩ := H1.out.cells
  have z0 : W1.frozen? ⟨g, 0, none⟩ = false := frozen_of_row _ _ _ _ _ H1.out.blk
  go_upto_region 4 with (first
    | (go_at_call 9
       refine (few_any k sq n ps mr a L.length cap L self data _ H1.out.rd HLL.out).mono ?_; rintro e W2 ⟨lv, rfl, ho, hb2⟩
       obtain ⟨a2, cap2, rfl, hr2⟩ := owned ho
       (have hblk := (H1.out.below hb2).blk)
       clear k0 k1 k2 k3 k4 k5 k6 k7 z0)
    | (refine wpList_store_row rfl 24 _ _ rfl g (aggR k sq (clampU n) (clampU ps) (clampU mr) (.slice a2 (fewL L).length cap2) self (cutL data 210)) rfl rfl 24 _ hblk info_ref rfl (by simp [aggR, Value.oneCell']) ?_))
  have H3 : Hid (RAt w (W2.setRow g (aggR k sq (clampU n) (clampU ps) (clampU mr) (.slice a2 (fewL L).length cap2) self (cutL data 210))) g k sq (clampU n) (clampU ps) (clampU mr) a2 (fewL L).length cap2 (fewL L) self (cutL data 210)) := Lib.hid (few_at H1.out ho hb2)
  generalize W2.setRow g (aggR k sq (clampU n) (clampU ps) (clampU mr) (.slice a2 (fewL L).length cap2) self (cutL data 210)) = W3 at *
  clear ho hb2 hblk hr2 H1 HF1
  have HF3 : Hid (Forms W3) := Lib.hid (HF.out.below H3.out.bel (by rw [HG.out]; exact Nat.le_refl _))
  obtain ⟨BN, BP, BM, BL⟩ : (0 ≤ clampU n ∧ clampU n ≤ 4294967295) ∧ (0 ≤ clampU ps ∧ clampU ps ≤ 4294967295) ∧ (0 ≤ clampU mr ∧ clampU mr ≤ 4294967295) ∧ (∀ z ∈ fewL L, 0 ≤ z ∧ z ≤ 4294967295) := ⟨clampU_bounds _, clampU_bounds _, clampU_bounds _, fewL_bounds _⟩
  have HM : Hid ((fewL L).length ≤ 140) := Lib.hid (fewL_len L)
  have HD : Hid ((cutL data 210).size ≤ 210) := Lib.hid (cutL_le data 210).1
  generalize clampU n = n' at *
  generalize clampU ps = ps' at *
  generalize clampU mr = mr' at *
  generalize fewL L = L' at *
  generalize cutL data 210 = d' at *
  generalize hm : L'.length = m at *
  have HML := Lib.hid hm
  clear hm HLL HF
  have HB := Lib.hid (And.intro BN (And.intro BP (And.intro BM BL)))
  clear BN BP BM BL
  obtain ⟨k0, k1, k2, k3, k4, k5, k6, k7⟩ := H3.out.cells
  obtain ⟨C, hC⟩ : ∃ C, checkU ⟨k, sq, n', ps', mr', L', self, d'⟩ = C := ⟨_, rfl⟩
  have HC := Lib.hid hC
  clear hC
  go_upto_if 10 with (go_at_call 12; refine (rcheck_any k sq n' ps' mr' a2 m cap2 L' self d' _ H3.out.rd (by have := HM.out; omega) HB.out.1.1 HB.out.2.1.1 HB.out.2.2.1.1 (fun z hz => (HB.out.2.2.2 z hz).1)).mono ?_; rintro e W4 ⟨rfl, hb4⟩; rw [HC.out])
  have H4 := Lib.hid (H3.out.below hb4)
  have HF4 := Lib.hid (HF3.out.below hb4 (Nat.le_refl _))
  clear hb4 k0 k1 k2 k3 k4 k5 k6 k7
  obtain ⟨k0, k1, k2, k3, k4, k5, k6, k7⟩ := H4.out.cells
  clear H3 HF3 W3
  have HM5 : Hid (m ≤ 1000) := Lib.hid (by have := HM.out; omega)
  have HM6 : Hid (m ≤ 100000) := Lib.hid (by have := HM.out; omega)
  by_cases hc0 : C = 0
  · have hlen := bytes_len ⟨k, sq, n', ps', mr', L', self, d'⟩ (by rw [HC.out]; exact hc0)
    simp only at hlen
    rw [HML.out] at hlen
    obtain ⟨S, hS⟩ : ∃ S, bytesU ⟨k, sq, n', ps', mr', L', self, d'⟩ = S := ⟨_, rfl⟩
    rw [hS] at hlen
    have HS := Lib.hid hS
    have HLEN := Lib.hid hlen
    subst hc0
    clear hS hlen
    have hm140 : (m : Int) ≤ 140 := by have := HM.out; omega
    have hd210 : (d'.size : Int) ≤ 210 := by have := HD.out; omega
    go_upto_if 22 with (go_at_call 20; refine (hasSQ_any k _).mono ?_; rintro e W5 ⟨rfl, hb5⟩)
    have H5 := Lib.hid (H4.out.below hb5)
    have HF5 := Lib.hid (HF4.out.below hb5 (Nat.le_refl _))
    clear hb5 k0 k1 k2 k3 k4 k5 k6 k7 H4 HF4
    obtain ⟨b, hb⟩ : ∃ b, hasSQ k = b := ⟨_, rfl⟩
    have HBQ := Lib.hid hb
    rw [hb]
    clear hb
    obtain ⟨P, hP⟩ : ∃ P, decide (k = 10 ∨ k = 11) = P := ⟨_, rfl⟩
    obtain ⟨R, hR⟩ : ∃ R, decide (k = 11 ∨ k = 12) = R := ⟨_, rfl⟩
    have HP := Lib.hid hP
    have HR := Lib.hid hR
    clear hP hR
    obtain ⟨t1, ht1⟩ : ∃ t1 : Int, t1 = 1 + (m : Int) + (if b then 1 else 0) := ⟨_, rfl⟩
    obtain ⟨t2, ht2⟩ : ∃ t2 : Int, t2 = t1 + (if P then 1 else 0) := ⟨_, rfl⟩
    obtain ⟨t3, ht3⟩ : ∃ t3 : Int, t3 = t2 + (if R then 1 else 0) := ⟨_, rfl⟩
    have b1 : 1 ≤ t1 ∧ t1 ≤ 200 := by rw [ht1]; split <;> omega
    have b2 : 1 ≤ t2 ∧ t2 ≤ 300 := by rw [ht2]; split <;> omega
    have b3 : 1 ≤ t3 ∧ t3 ≤ 400 := by rw [ht3]; split <;> omega
    have HT1 := Lib.hid ht1
    have HT2 := Lib.hid ht2
    have HT3 := Lib.hid ht3
    clear ht1 ht2 ht3
    go_cut [3] (fun s3 wx => s3 = .int .i64 t1 ∧ wx = W5)
    case first =>
      cases b
      all_goals go_wp2_with fail
      all_goals go_meet
      all_goals exact ⟨by rw [HT1.out]; simp, rfl⟩
    case rest =>
      obtain ⟨rfl, rfl⟩ := hcut
      obtain ⟨k0, k1, k2, k3, k4, k5, k6, k7⟩ := H5.out.cells
      go_upto_region 9 with (fail)
      go_cut [32] (fun s32 wx => s32 = .bool P ∧ wx = wc)
      case first =>
        by_cases h10 : k = 10
        · have hb : (k == 10) = true := by simp [h10]
          have H10 := Lib.hid h10
          clear h10
          go_wp2_with fail
          go_meet
          exact ⟨by rw [← HP.out]; simp [H10.out], rfl⟩
        · have hb : (k == 10) = false := by simp [h10]
          have H10 := Lib.hid h10
          clear h10
          go_wp2_with fail
          go_meet
          exact ⟨by rw [← HP.out]; have h := H10.out; by_cases h11 : k = 11 <;> simp [h, h11], rfl⟩
      case rest =>
        obtain ⟨rfl, rfl⟩ := hcut
        go_upto_if 32 with (fail)
        go_cut [3] (fun s3 wx => s3 = .int .i64 t2 ∧ wx = wc)
        case first =>
          cases P
          all_goals go_wp2_with fail
          all_goals go_meet
          all_goals exact ⟨by rw [HT2.out]; simp, rfl⟩
        case rest =>
          obtain ⟨rfl, rfl⟩ := hcut
          go_upto_region 11 with (fail)
          go_cut [42] (fun s42 wx => s42 = .bool R ∧ wx = wc)
          case first =>
            by_cases h10 : k = 11
            · have hb : (k == 11) = true := by simp [h10]
              have H10 := Lib.hid h10
              clear h10
              go_wp2_with fail
              go_meet
              exact ⟨by rw [← HR.out]; simp [H10.out], rfl⟩
            · have hb : (k == 11) = false := by simp [h10]
              have H10 := Lib.hid h10
              clear h10
              go_wp2_with fail
              go_meet
              exact ⟨by rw [← HR.out]; have h := H10.out; by_cases h11 : k = 12 <;> simp [h, h11], rfl⟩
          case rest =>
            obtain ⟨rfl, rfl⟩ := hcut
            go_upto_if 42 with (fail)
            go_cut [3] (fun s3 wx => s3 = .int .i64 t3 ∧ wx = wc)
            case first =>
              cases R
              all_goals go_wp2_with fail
              all_goals go_meet
              all_goals exact ⟨by rw [HT3.out]; simp, rfl⟩
            case rest =>
              obtain ⟨rfl, rfl⟩ := hcut
              have HFIN : Hid (((S.size : Int)) = ((d'.size : Int) + 3) / 4 * 4 + 4 * t3) := Lib.hid (by
                rw [HLEN.out, HT3.out, HT2.out, HT1.out, ← HP.out, ← HR.out, HBQ.out]
                by_cases e1 : k = 10 <;> by_cases e2 : k = 11 <;> by_cases e3 : k = 12 <;> simp [e1, e2, e3] <;> omega)
              obtain ⟨q, hq⟩ : ∃ q : Int, ((d'.size : Int) + 3) / 4 = q := ⟨_, rfl⟩
              rw [hq] at HFIN
              have hq2 : ((d'.size : Int) + 3).tdiv 4 = q := by rw [Int.tdiv_eq_ediv_of_nonneg (by omega)]; exact hq
              have hq3 : 0 ≤ q ∧ q ≤ 54 := by omega
              have hsz : (S.size : Int) = q * 4 + 4 * t3 := HFIN.out
              clear hm140 b1 b2 HLEN HT1 HT2 HT3 HP HR HBQ HFIN hq
              have hsl : (S.size : Int) ≤ 2000 := by omega
              go_upto_region 13 with (fail)
              go_region_held3 (fun w' => w'.cell? ⟨g, 0, none⟩ = some (.int .i64 k) ∧ w'.cell? ⟨g, 1, none⟩ = some (.int .i64 sq) ∧ w'.cell? ⟨g, 2, none⟩ = some (.int .i64 n') ∧ w'.cell? ⟨g, 3, none⟩ = some (.int .i64 ps') ∧ w'.cell? ⟨g, 4, none⟩ = some (.int .i64 mr') ∧ w'.cell? ⟨g, 5, none⟩ = some (.slice a2 m cap2) ∧ w'.cell? ⟨g, 6, none⟩ = some (.bool self) ∧ w'.cell? ⟨g, 7, none⟩ = some (.string d') ∧ Below wc.heap.size wc w')
                (first | (with_reducible assumption) | exact ⟨k0, k1, k2, k3, k4, k5, k6, k7, (Below.refl _ _).drew⟩ | exact ⟨r0, r1, r2, r3, r4, r5, r6, r7, hb8⟩ | exact ⟨s0, s1, s2, s3, s4, s5, s6, s7, hb9⟩)
                (first
                  | (go_at_call 10
                     (have H6 := H5.out.below (by first | exact (Below.refl _ _).drew | assumption))
                     refine (own_few k sq n' ps' mr' a2 m cap2 L' self d' _ H6.rd HM5.out HB.out.1 HB.out.2.1 HB.out.2.2.1 HB.out.2.2.2).mono ?_
                     rintro e w6 ⟨a6, c6, rfl, hr6, hb6⟩
                     (have H7 := H6.below hb6)
                     (have hb8 : Below wc.heap.size wc w6 := ((Below.refl _ _).drew).trans (hb6.mono (by simp)))
                     obtain ⟨r0, r1, r2, r3, r4, r5, r6, r7⟩ := H7.cells)
                  | (go_at_call 13
                     refine (bytesV k sq n' ps' mr' a6 m c6 L' self d' _ (HF5.out.below hb8 (Nat.le_refl _)) hr6 HM6.out HB.out.2.2.2 HB.out.1.1).mono ?_
                     rintro e w7 ⟨rfl, hb7⟩
                     rw [HS.out]
                     (have H9 := H7.below hb7)
                     (have hb9 : Below wc.heap.size wc w7 := hb8.trans (hb7.mono hb8.size))
                     obtain ⟨s0, s1, s2, s3, s4, s5, s6, s7⟩ := H9.cells))
              all_goals go_wp2_with fail
              all_goals go_ret
              all_goals
                refine ⟨congrArg (fun b => Ending.returned (Value.bool b)) ?_, by rw [HG.out]; exact H9.bel⟩
                have hw : ∀ x : Int, -1000000 ≤ x → x ≤ 1000000 → IntKind.i64.wrap x = x := by
                  intro x h1 h2
                  rw [IntKind.wrap_i64]
                  omega
                rw [hw ((d'.size : Int) + 3) (by omega) (by omega), hq2, hw q (by omega) (by omega), hw (q * 4) (by omega) (by omega), hw (4 * t3) (by omega) (by omega), hw (q * 4 + 4 * t3) (by omega) (by omega)]
                exact beq_self_eq_true _
  · have e1 : bytesU ⟨k, sq, n', ps', mr', L', self, d'⟩ = ⟨#[]⟩ := by unfold bytesU; rw [if_neg (by rw [HC.out]; exact hc0)]
    have HE1 := Lib.hid e1
    clear e1
    have hcb : (C != 0) = true := by simp [hc0]
    go_wp2_with (first
      | (go_at_call 10
         refine (own_few k sq n' ps' mr' a2 m cap2 L' self d' _ H4.out.rd HM5.out HB.out.1 HB.out.2.1 HB.out.2.2.1 HB.out.2.2.2).mono ?_
         rintro e W5 ⟨a5, c5, rfl, hr5, hb5⟩)
      | (go_at_call 13
         refine (bytesV k sq n' ps' mr' a5 m c5 L' self d' _ (HF4.out.below hb5 (Nat.le_refl _)) hr5 HM6.out HB.out.2.2.2 HB.out.1.1).mono ?_
         rintro e W6 ⟨rfl, hb6⟩
         rw [HE1.out]))
    go_ret
    exact ⟨rfl, by rw [HG.out]; exact ((H4.out.below hb5).below hb6).bel⟩

theorem own : ownKnob Tryd.prog.godebug = none := by kernel_rfl
theorem laidOut : laidOutB Tryd.prog = true := by kernel_rfl

set_option maxRecDepth 100000 in
theorem lifted (os : Os) (started : os.Started) (H : Type) (enc : TypeId × Value → H) :
    ReturnsInHanded {} Tryd.checked os 7 .any (fun w args => (Rows.pduSizesSpec.pre enc Tryd.prog Tryd.f7 Rows.pduSizesRow.domain false w args ∧ laidMetH Tryd.prog Rows.pduSizesRow.laid w) ∧ sizedMet enc Tryd.prog Tryd.f7 (OpenSpec.ofChange Rows.pduSizesSpec) false w args) (Rows.pduSizesSpec.post enc Tryd.prog Tryd.f7 false true false false) := by
  refine Base.law_laid (C := Tryd.checked) own started (by kernel_rfl) Tryd.func7 laidOut (by kernel_rfl) rfl Tryd.underlying4 rfl ?_
    (Base.laid_witness #[.agg #[.int .i64 0, .int .i64 0, .int .i64 0, .int .i64 0, .int .i64 0, .slice none 0 0, .bool false, .string ⟨#[]⟩]] (World.shaped_of_ZipB (by kernel_rfl) (by kernel_rfl)) (by kernel_rfl) (by kernel_rfl) (by kernel_rfl) (by rw [MakeChecks.laidMetH_plain _ _ _ (by kernel_rfl)]; exact laidMet_laidAll _ (by kernel_rfl) (by kernel_rfl))) ?_
  · intro ds h
    match ds, h with
    | [_d0], _ => exact ⟨rfl, rfl, rfl⟩
  · intro W base args ds before hval0 hA0 hlt hsz hL
    have hval : ∀ (j : Nat) t v, Tryd.f7.params[j]? = some t → args[j]? = some v → Value.okWide Tryd.prog W .any base t v := hval0
    have hA : DataW.TrodAll enc Tryd.prog W 0 (fun _ => true) true Tryd.f7.params.toList args.toList ds before := hA0
    clear hval0 hA0
    rw [Tryd.params7] at hA hval hsz
    obtain ⟨v0, vs0, d0, ds0, p0, q0, hargs, rfl, rfl, h0, r0⟩ := trodAll_cons hA
    obtain ⟨rfl, rfl, rfl⟩ := trodAll_nil r0
    obtain rfl : args = #[v0] := by cases args; simp_all
    obtain ⟨x0, w0⟩ := Base.open_shape (s := (.struct [(.int .i64), (.int .i64), (.int .i64), (.int .i64), (.int .i64), (.slice (.int .i64)), .bool, .str])) (by kernel_rfl) (hval 0 24 v0 rfl rfl) h0 (fun x hx => hlt x (by simp [hx])) hsz (j := 0) rfl rfl
    exact walk W v0 x0 w0 hL

theorem over : Rows.pduSizesRow.holds Tryd.pinned (OpenSpec.ofChange Rows.pduSizesSpec) :=
  OpenClaim.holds_of_wide 7 Tryd.f7 rfl rfl rfl rfl rfl rfl rfl ⟨rfl, rfl, rfl, rfl, rfl⟩ rfl rfl rfl rfl rfl (by kernel_rfl) Tryd.func7 (by kernel_rfl)
    (of_decide_eq_true (by kernel_rfl)) (by unfold Func.isWrapper; first | (rw [if_pos (by decide +kernel)]; kernel_rfl) | (rw [if_neg (by decide +kernel)]; exact ⟨rfl, rfl⟩))
    (fun os started H enc _ => lifted os started H enc)

theorem proved : Rows.PduSizesCardSaid :=
  Claim7.holds_tied_plain_at .later [] [.data] true Rows.pduSizesCard.stood.harness false over (fun _ h => by cases h) (by kernel_rfl) (fun _ h => by cases h) pduSizes_row_tie rfl ⟨rfl, rfl⟩ (by kernel_rfl) rfl
    (fun f fn hf hfn => by
      obtain rfl : f = 7 := Option.some.inj ((show Tryd.prog.funcNamed Rows.pduSizesRow.func = some 7 by kernel_rfl).symm.trans hf) |>.symm
      obtain rfl : fn = Tryd.f7 := (Option.some.inj (Tryd.func7.symm.trans hfn)).symm
      exact ⟨by kernel_rfl, fun j t ht => by
        rw [Tryd.params7] at ht
        have hm : t ∈ [24] := by simpa using Array.mem_of_getElem? ht
        have hall : ([24].all fun u => !Tryd.prog.wantsStandIn u) = true := by kernel_rfl
        exact (show Tryd.prog.wantsStandIn t = false by simpa using List.all_eq_true.1 hall t hm)⟩)
    (by kernel_rfl)
#print axioms proved
end Go.Proofs.YtpegnobijnhbmaaDoor.pduSizes
