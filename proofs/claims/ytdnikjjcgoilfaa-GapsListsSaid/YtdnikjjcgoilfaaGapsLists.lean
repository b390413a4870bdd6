/-
  GapsLists is proved: a set's pairs are the document's, for any base, and make the set again; for every input the law returns true.
-/
import Derived.Test.YtdnikjjcgoilfaaBase
import Derived.Test.YtdnikjjcgoilfaaGapsG
import Derived.Test.YtdnikjjcgoilfaaGapsB
import Derived.Deep.RegionHeld3
import Derived.Laws.BitsLemmas
namespace Go.Proofs.Ytdnikjjcgoilfaa.gapsLists
open Go.ChangeShapes Go.WideShapes Go.ChangeAt Go.RowKit
set_option linter.unusedVariables false      -- a walk need not use every bound of an argument

open Gaps SpanMath
theorem and255 (n : Int) : bits .and .i64 n 255 = n % 256 := by
  have h31 : (BitVec.ofInt 64 255).toNat = 2 ^ 8 - 1 := by decide
  have key : (BitVec.ofInt 64 n &&& BitVec.ofInt 64 255).toNat = (n % ((2 ^ 64 : Nat) : Int)).toNat % 2 ^ 8 := by
    rw [BitVec.toNat_and, BitVec.toNat_ofInt, h31, Nat.and_two_pow_sub_one_eq_mod]
  show IntKind.i64.wrap ((BitVec.ofInt 64 n &&& BitVec.ofInt 64 255).toNat : Nat) = n % 256
  rw [key, IntKind.wrap_i64]
  omega
theorem and255_le (n : Int) : 0 ≤ bits .and .i64 n 255 ∧ bits .and .i64 n 255 ≤ 255 := by rw [and255]; omega
theorem way_of (b x : Int) (h0 : 0 ≤ x) (h1 : x < 16777216) : wayI b ((b + x) % 16777216) = x := by unfold wayI; omega
theorem cntR_nums {R : List Sp} (hn : Norm R) (hs : Small R) : ∀ k, k ≤ R.length → cntR R k = ((nums (R.take k)).length : Int)
  | 0, _ => by simp [cntR, nums]
  | k + 1, h => by
    have hk : k < R.length := h
    have hm : R.getD k (0, 0) ∈ R := by simp [List.getD, hk]
    have h1 := hn.2 _ hm
    have h2 := hs.2 _ hm
    rw [cntR, cntR_nums hn hs k (by omega), nums_take R k hk, List.length_append, run_len]
    generalize R.getD k (0, 0) = x at *
    rw [if_pos (by omega)]
    omega
theorem count_nums {R : List Sp} (b : Int) (hn : Norm R) (hs : Small R) : countL (flatB b R) = ((nums R).length : Int) := by
  rw [count_flat, cntR_nums hn hs _ (Nat.le_refl _), List.take_length]
theorem rise_flat {b far : Int} (hf : far < 16777216) : ∀ {R : List Sp} {least : Int}, Norm R → (∀ x ∈ R, least ≤ x.1 ∧ x.2 ≤ far) → 0 ≤ least → riseL b far least (flatB b R) = true
  | [], _, _, _, _ => rfl
  | x :: R, least, hn, hb, h0 => by
    rw [norm_cons] at hn
    obtain ⟨hn1, hn2, hn3⟩ := hn
    have hx := hb x (by simp)
    show riseL b far least ((b + x.1) % 16777216 :: (b + x.2) % 16777216 :: flatB b R) = true
    rw [riseL, way_of b x.1 (by omega) (by omega), if_neg (by omega), riseL, way_of b x.2 (by omega) (by omega), if_neg (by omega)]
    exact rise_flat hf hn3 (fun y hy => ⟨by have := hn1 y hy; omega, (hb y (by simp [hy])).2⟩) (by omega)
theorem spans_flat {b : Int} {R : List Sp} (h : ∀ x ∈ R, 0 ≤ x.1 ∧ x.2 < 16777216 ∧ x.1 < x.2) : spansOf b (flatB b R) = R := by
  unfold spansOf
  rw [flatB_len, show 2 * R.length / 2 = R.length from by omega]
  apply List.ext_getElem (by simp)
  intro i h1 h2
  simp only [List.getElem_map, List.getElem_range]
  obtain ⟨e1, e2⟩ := flatB_get b R i h2
  rw [e1, e2]
  have hm := h (R.getD i (0, 0)) (by simp [List.getD, h2])
  rw [way_of _ _ hm.1 (by omega), way_of _ _ (by omega) hm.2.1]
  simp [List.getD, h2]
theorem set_back {b q : Int} {R : List Sp} (hn : Norm R) (h : ∀ x ∈ R, 0 ≤ x.1 ∧ x.2 ≤ q) (h0 : 0 ≤ q) (h1 : q ≤ 8388608) : goodS b ((b + q) % 16777216) (flatB b R) = true ∧ setL b ((b + q) % 16777216) (flatB b R) = R := by
  have hg : goodS b ((b + q) % 16777216) (flatB b R) = true := by
    unfold goodS
    rw [way_of b q h0 (by omega), flatB_len, rise_flat (by omega) hn h (Int.le_refl _)]
    simp; omega
  refine ⟨hg, ?_⟩
  rw [setL, if_pos hg]
  exact spans_flat fun x hx => by have := h x hx; have := hn.2 x hx; omega
theorem rising_last {K : List Int} (hK : Rising K) (h : 0 < K.length) : ∀ z ∈ K, z ≤ K.getD (K.length - 1) 0 := fun z hz => by
  obtain ⟨i, hi, rfl⟩ := List.mem_iff_getElem.1 hz
  have h2 : K.length - 1 < K.length := by omega
  simp only [List.getD, List.getElem?_eq_getElem h2, Option.getD_some]
  by_cases e : i = K.length - 1
  · subst e; exact Int.le_refl _
  · have := List.pairwise_iff_getElem.1 hK i (K.length - 1) hi h2 (by omega)
    omega
def posL (A : List Int) : List Int := A.filter fun z => decide (0 ≤ z)
theorem pos_len (A : List Int) : (posL A).length ≤ A.length := List.length_filter_le _ _
theorem pos_snoc (A : List Int) (x : Int) : posL (A ++ [x]) = if 0 ≤ x then posL A ++ [x] else posL A := by
  unfold posL
  rw [List.filter_append]
  by_cases h : 0 ≤ x
  · simp [h]
  · simp [h]
set_option maxRecDepth 100000 in
set_option maxHeartbeats 8000000 in
theorem walk (w : World) (a0 : Int) (w0 : (Lit.int .i64 a0).wf = true) (v1 : Value) (D : List (Int × Int)) (w1 : Base.Pairs w v1 D) (far : Int) (w2 : (Lit.int .i64 far).wf = true) :
    Calls Try.prog 3 #[.int .i64 a0, v1, .int .i64 far] w fun e w' => e = .returned (.bool true) ∧ Below w.heap.size w w' := by
  obtain ⟨x1, x2⟩ := bounds_i64 w0
  obtain ⟨a, n, cap, rfl, hf, hr⟩ := Law03.rd_pairs w1
  obtain ⟨S, hS, hsm⟩ := Law03.few_set D
  obtain ⟨R, hR, hRs⟩ := few_pos hS
  have HL := Lib.hid hr
  have HS := Lib.hid hS
  have HSM := Lib.hid hsm
  have HR := Lib.hid hR
  have HRS := Lib.hid hRs
  clear w0 w1 w2 hr hf hS hsm hR hRs
  go_enter Try.func3, Try.ntmps3
  go_wp2_with fail
  refine (gawake_any _).mono ?_; rintro e W1 ⟨rfl, hb1⟩
  have B1 := Lib.hid hb1
  clear hb1
  go_wp2_with fail
  refine (Law03.few_any a n cap D _ (HL.out.below B1.out)).mono ?_; rintro e W2 ⟨f1, f2, A, rfl, hown, hown2, hj, hb2⟩
  obtain ⟨aF, nF, cF, rfl, hfF, hrF⟩ := hown.form
  obtain ⟨aA, nA, cA, rfl, hfA, hrA⟩ := hown2.form
  have B2 := Lib.hid (B1.out.trans (hb2.mono B1.out.size))
  have HRF := Lib.hid hrF
  have HFF := Lib.hid hfF
  have HAR : Hid (Own.RdI .i64 W2 aA nA A) := Lib.hid hrA
  have HJ := Lib.hid hj
  have HAL : Hid (A.length ≤ 200) := Lib.hid (Law03.just_len hj (Law03.inSp_few D))
  have HAN : Hid (A.length = nA) := Lib.hid hrA.1.symm
  have hnA : (nA : Int) ≤ 200 := by have := HAL.out; rw [HAN.out] at this; omega
  clear hown hown2 hj hb2 hrF hfF hfA hrA
  go_wp2_with fail
  go_loopw [9, 27] (fun s9 s27 wr => ∃ (i : Nat) (O : List Int), i ≤ nA ∧ s27 = .int .i64 (i : Int) ∧ Hid (O = posL (A.take i)) ∧ Hid (Own.OwnI .i64 3 wr W2.heap.size s9 O) ∧ Hid (Below W2.heap.size W2 wr)) (fun _ s27 _ => nA - (intOf s27).toNat)
  case atStart => exact ⟨0, [], Nat.zero_le _, rfl, Lib.hid rfl, Lib.hid Own.OwnI.nil, Lib.hid (Below.refl _ _)⟩
  case round =>
    obtain ⟨i, O, hi, rfl, HO, ho, hb⟩ := hrel
    by_cases hlt : i < nA
    · obtain ⟨bb, of, rfl, _, hc⟩ := (HAR.out.below hb.out).at_ hlt
      obtain ⟨x, hx⟩ : ∃ x, A.getD i 0 = x := ⟨_, rfl⟩
      rw [hx] at hc
      have hil : i < A.length := by have := HAN.out; omega
      have HTK : Hid (A.take (i + 1) = A.take i ++ [x]) := Lib.hid (by rw [View.take_succ' A 0 i hil, hx])
      have hxb := Law03.inSp_few D x ((HJ.out.2 x).1 (by rw [← hx]; simp [List.getD, hil]))
      obtain ⟨xa, xb⟩ := hxb
      have HLT := Lib.hid hlt
      have hki : (i : Int) < (nA : Int) := by omega
      have hin : (i : Int) ≤ 200 := by omega
      have HLEN : Hid (O.length + 1 ≤ 1000000) := Lib.hid (by rw [HO.out]; have := pos_len (A.take i); rw [List.length_take] at this; omega)
      have HW : Hid (W2.heap.size ≤ wr.heap.size) := Lib.hid hb.out.size
      obtain ⟨av, nv, cv, rfl, hfv, hrv⟩ := ho.out.form
      clear hx hlt hi hil hfv hrv
      by_cases hpos : 0 ≤ x
      · have HN : Hid (O ++ [x] = posL (A.take (i + 1))) := Lib.hid (by rw [HTK.out, pos_snoc, if_pos hpos, HO.out])
        go_wp2_with (at_builtin; refine Own.wpList_appI infoI (by decide) rfl (.tmp 33) (.tmp 35) 24 rfl Try.underlying24 W2.heap.size _ _ rfl (ho.out.below ((Below.refl _ _).alloc (Nat.le_refl _) _)) _ 1 1 [_] rfl (Own.rdI_lit1_at _ _ _ _ _ rfl) (fun h => by cases h) HLEN.out (by have := HW.out; simp; omega) ?_; intro v8 w8 hown8 hgrow8; have HO8 := Lib.hid hown8; have HB8 : Hid (Below W2.heap.size W2 w8) := Lib.hid (Own.own_grown (hb.out.alloc HW.out _) (by have := HW.out; simp; omega) hgrow8 (ho.out.below ((Below.refl _ _).alloc (Nat.le_refl _) _))); clear hown8 hgrow8)
        go_roundw
        case rel => exact ⟨i + 1, O ++ [x], HLT.out, by go_num, HN, HO8, HB8⟩
        case measure => simp [intOf]; have := HLT.out; omega
      · have HN : Hid (O = posL (A.take (i + 1))) := Lib.hid (by rw [HTK.out, pos_snoc, if_neg hpos, HO.out])
        go_wp2_with fail
        go_roundw
        case rel => exact ⟨i + 1, O, HLT.out, by go_num, HN, ho, hb⟩
        case measure => simp [intOf]; have := HLT.out; omega
    · obtain rfl : i = nA := by omega
      have HK : Hid (O = posL A) := Lib.hid (by rw [HO.out, List.take_of_length_le (by have := HAN.out; omega)])
      have HKR : Hid (Rising O) := Lib.hid (by rw [HK.out]; exact HJ.out.1.filter _)
      have HKM : Hid (∀ z, z ∈ O ↔ (z ∈ nums S ∧ z ∈ nums [(0, 8388609)])) := Lib.hid (fun z => by
        have h1 := HS.out.2 z
        have h2 := HJ.out.2 z
        have h3 : z ∈ nums [(0, 8388609)] ↔ 0 ≤ z ∧ z < 8388609 := by rw [mem_nums]; simp
        rw [HK.out, h1, h3]
        unfold posL
        rw [List.mem_filter, h2, decide_eq_true_eq]
        constructor
        · rintro ⟨h4, h5⟩; exact ⟨h4, h5, by have := Law03.inSp_few D z h4; omega⟩
        · rintro ⟨h4, h5, _⟩; exact ⟨h4, h5⟩)
      have HKB : Hid (∀ z ∈ O, 0 ≤ z ∧ z < 100) := Lib.hid (fun z hz => by
        obtain ⟨h1, h2⟩ := (HKM.out z).1 hz
        have h4 := Law03.inSp_few D z ((HS.out.2 z).1 h1)
        have h3 : z ∈ nums [(0, 8388609)] ↔ 0 ≤ z ∧ z < 8388609 := by rw [mem_nums]; simp
        have := h3.1 h2
        omega)
      have HKS : Hid (IsSet R (fun z => z ∈ O)) := Lib.hid ⟨HR.out.1, fun z => (HR.out.2 z).trans (HKM.out z).symm⟩
      have HNK : Hid (nums R = O) := Lib.hid (HKS.out.nums HKR.out (fun _ => Iff.rfl))
      obtain ⟨aK, k, cK, rfl, hfK, hrK⟩ := ho.out.form
      have hk : O.length = k := hrK.1.symm
      have HKL := Lib.hid hk
      have HK200 : Hid (k ≤ 200) := Lib.hid (by rw [← hk, HK.out]; have := pos_len A; have := HAL.out; omega)
      have RK := Lib.hid hrK
      have HRFr := Lib.hid (HRF.out.below hb.out)
      have B3 := Lib.hid (B2.out.trans (hb.out.mono B2.out.size))
      clear hlt hi hfK hrK ho hb HRF HAR hk HO HL HAN hnA
      go_wp2_with fail
      refine (SeqCalls.sof_any a0 _).mono ?_; rintro e w2 ⟨rfl, rfl⟩
      obtain ⟨b, hb⟩ : ∃ b, a0 % 16777216 = b := ⟨_, rfl⟩
      rw [hb]
      have hbb : 0 ≤ b ∧ b < 16777216 := by omega
      obtain ⟨b0, b1⟩ := hbb
      clear hb
      go_wp2_with fail
      refine (SpanCalls.of_any aF nF cF (Law03.fewL D) S _ HRFr.out HFF.out (Law03.few_near D) HS.out).mono ?_; rintro e W4 ⟨v4, rfl, ho4, hb4⟩
      obtain ⟨a4, n4, c4, rfl, hf4, hr4⟩ := ho4.form
      have B4 := Lib.hid (B3.out.trans (hb4.mono B3.out.size))
      have R4 := Lib.hid hr4
      have F4 := Lib.hid hf4
      have RK4 := Lib.hid (RK.out.below hb4)
      clear ho4 hb4 hr4 hf4 RK HRFr
      go_wp2_with fail
      refine (glist_any b a4 n4 c4 S S R _ R4.out F4.out (Law03.near_small HSM.out) (Law03.set_again HS.out) (by have := HSM.out.1; omega) HR.out (by have := HRS.out.1; omega)).mono ?_; rintro e W5 ⟨v5, rfl, ho5, hb5⟩
      obtain ⟨a5, c5, rfl, hf5, hr5⟩ := Gaps.own_rd ho5
      have B5 := Lib.hid (B4.out.trans (hb5.mono B4.out.size))
      have RK5 := Lib.hid (RK4.out.below hb5)
      obtain ⟨n5, hn5⟩ : ∃ n, (flatB b R).length = n := ⟨_, rfl⟩
      rw [hn5] at hr5 hf5 ⊢
      have HN5 : Hid (n5 ≤ 2000) := Lib.hid (by rw [← hn5, flatB_len]; have := HRS.out.1; omega)
      have R5 := Lib.hid hr5
      have F5 := Lib.hid hf5
      clear ho5 hb5 hr5 hf5 RK4 R4 F4 hn5
      go_wp2_with fail
      refine (rpairs_any b aK k cK O _ RK5.out (by have := HK200.out; omega) ⟨b0, b1⟩ (fun z hz => by have := HKB.out z hz; omega) HKR.out).mono ?_; rintro e W6 ⟨v6, S6, rfl, hS6, ho6, hb6⟩
      obtain rfl : S6 = R := IsSet.ext hS6 HKS.out
      obtain ⟨a6, n6, c6, rfl, hf6, hr6⟩ := ho6.form
      have B6 := Lib.hid (B5.out.trans (hb6.mono B5.out.size))
      have RK6 := Lib.hid (RK5.out.below hb6)
      have R56 := Lib.hid (R5.out.below hb6)
      have R6 := Lib.hid hr6
      have HFP : Hid (∀ z ∈ flatB b S6, 0 ≤ z ∧ z < 4294967296) := Lib.hid (fun z hz => by
        obtain ⟨i, hi, rfl⟩ := List.mem_iff_getElem.1 hz
        have := flatB_at b S6 i hi
        simp only [List.getD, List.getElem?_eq_getElem hi, Option.getD_some] at this
        rw [this]; omega)
      clear ho6 hb6 hr6 hf6 RK5 R5 hS6
      have HCN : Hid (countL (flatB b S6) = (k : Int)) := Lib.hid (by rw [count_nums b HR.out.1 HRS.out, HNK.out, HKL.out])
      have HSB : Hid (∀ q : Int, 0 ≤ q → q ≤ 8388608 → (∀ x ∈ S6, x.2 ≤ q) → goodS b ((b + q) % 16777216) (flatB b S6) = true ∧ setL b ((b + q) % 16777216) (flatB b S6) = S6) := Lib.hid (fun q h0 h1 h2 => set_back HR.out.1 (fun x hx => ⟨by
        have h3 := HR.out.1.2 x hx
        have h4 : x.1 ∈ O := (HKS.out.2 _).1 (mem_nums.2 ⟨x, hx, Int.le_refl _, h3⟩)
        exact (HKB.out _ h4).1, h2 x hx⟩) h0 h1)
      have HEND : Hid (∀ x ∈ S6, x.2 - 1 ∈ O) := Lib.hid (fun x hx => by
        have h3 := HR.out.1.2 x hx
        exact (HKS.out.2 _).1 (mem_nums.2 ⟨x, hx, by omega, by omega⟩))
      have HL6 : Hid ((flatB b S6).length ≤ 2000) := Lib.hid (by rw [flatB_len]; have := HRS.out.1; omega)
      generalize hP : flatB b S6 = P at *
      clear hP
      go_wp2_with fail
      refine (same_any a5 n5 c5 P a6 n6 c6 P _ R56.out R6.out (by have := HN5.out; omega) (by have := R6.out.1; have := HL6.out; omega) HFP.out).mono ?_; rintro e W7 ⟨rfl, hb7⟩
      have hsame : decide (P = P) = true := by simp
      rw [hsame]
      have B7 := Lib.hid (B6.out.trans (hb7.mono B6.out.size))
      have RK7 := Lib.hid (RK6.out.below hb7)
      have R57 := Lib.hid (R56.out.below hb7)
      clear hb7 hsame RK6 R56 R6
      go_wp2_with fail
      refine (count_any a5 n5 c5 P _ R57.out F5.out (by have := HN5.out; omega)).mono ?_; rintro e W8 ⟨rfl, hb8⟩
      rw [HCN.out]
      have B8 := Lib.hid (B7.out.trans (hb8.mono B7.out.size))
      have RK8 := Lib.hid (RK7.out.below hb8)
      have R58 := Lib.hid (R57.out.below hb8)
      have hkk : ((k : Int) != (k : Int)) = false := by simp
      clear hb8 RK7 R57
      obtain ⟨m, hm⟩ : ∃ m, bits .and .i64 far 255 = m := ⟨_, rfl⟩
      have hmb := and255_le far
      rw [hm] at hmb
      obtain ⟨ma, mb⟩ := hmb
      have hk2 : (k : Int) ≤ 200 := by have := HK200.out; omega
      by_cases hz : 0 < k
      · obtain ⟨bk, ok, rfl, _, hck⟩ := RK8.out.at_ (k := k - 1) (by omega)
        obtain ⟨x, hx⟩ : ∃ x, O.getD (k - 1) 0 = x := ⟨_, rfl⟩
        rw [hx] at hck
        have hxm : x ∈ O := by rw [← hx]; have := HKL.out; simp [List.getD, show k - 1 < O.length by omega]
        have hxb := HKB.out x hxm
        obtain ⟨xa, xb⟩ := hxb
        have HTOP : Hid (∀ y ∈ S6, y.2 ≤ x + 1) := Lib.hid (fun y hy => by
          have h1 := rising_last HKR.out (by have := HKL.out; omega) _ (HEND.out y hy)
          rw [HKL.out, hx] at h1
          omega)
        have hkp : (k : Int) > 0 := by omega
        have hidx : ((k : Int) - 1).toNat = k - 1 := by omega
        have hin0 : (0 : Int) ≤ (k : Int) - 1 := by omega
        have hil : k - 1 < k := by omega
        clear hx hxm hz
        go_wp2_with fail
        refine (SeqCalls.add_any _ _ _).mono ?_; rintro e w2 ⟨rfl, rfl⟩
        have hsb := HSB.out (x + 1 + m) (by omega) (by omega) (fun y hy => by have := HTOP.out y hy; omega)
        have HG := Lib.hid hsb.1
        have HSL := Lib.hid hsb.2
        clear hsb HSB
        go_wp2_with fail
        refine (gset_any b ((b + (x + 1 + m)) % 16777216) a5 n5 c5 P _ R58.out F5.out (by have := HN5.out; omega)).mono ?_; rintro e W9 ⟨v9, rfl, ho9, hb9⟩
        rw [HG.out]
        rw [HSL.out] at ho9
        obtain ⟨a9, n9, c9, rfl, hf9, hr9⟩ := ho9.form
        have B9 := Lib.hid (B8.out.trans (hb9.mono B8.out.size))
        have R9 := Lib.hid hr9
        have RK9 := Lib.hid (RK8.out.below hb9)
        clear ho9 hb9 hr9 hf9 RK8 R58
        go_wp2_with fail
        refine (SpanCalls.list_any a9 n9 c9 S6 _ R9.out HRS.out HR.out.1).mono ?_; rintro e W10 ⟨v10, rfl, ho10, hb10⟩
        rw [HNK.out] at ho10
        obtain ⟨a10, n10, c10, rfl, hf10, hr10⟩ := ho10.form
        have B10 := Lib.hid (B9.out.trans (hb10.mono B9.out.size))
        have RK10 := Lib.hid (RK9.out.below hb10)
        have R10 := Lib.hid hr10
        clear ho10 hb10 hr10 hf10 R9 RK9
        go_wp2_with fail
        refine (Ref.rsame_any a10 n10 c10 O _ _ cK O _ R10.out RK10.out (by have := R10.out.1; have := HKL.out; have := HK200.out; omega) (by have := HK200.out; omega)).mono ?_; rintro e W11 ⟨rfl, hb11⟩
        have hsame : decide (O = O) = true := by simp
        rw [hsame]
        have B11 := Lib.hid (B10.out.trans (hb11.mono B10.out.size))
        clear hb11 hsame
        go_wp2_with fail
        go_ret
        exact ⟨rfl, B11.out⟩
      · obtain rfl : k = 0 := by omega
        have HTOP : Hid (∀ y ∈ S6, y.2 ≤ 0) := Lib.hid (fun y hy => by
          have h1 := HEND.out y hy
          have h2 := HKL.out
          rw [List.length_eq_zero_iff] at h2
          rw [h2] at h1
          simp at h1)
        clear hz
        go_wp2_with fail
        refine (SeqCalls.add_any _ _ _).mono ?_; rintro e w2 ⟨rfl, rfl⟩
        have hsb := HSB.out (m) (by omega) (by omega) (fun y hy => by have := HTOP.out y hy; omega)
        have HG := Lib.hid hsb.1
        have HSL := Lib.hid hsb.2
        clear hsb HSB
        go_wp2_with fail
        refine (gset_any b ((b + (m)) % 16777216) a5 n5 c5 P _ R58.out F5.out (by have := HN5.out; omega)).mono ?_; rintro e W9 ⟨v9, rfl, ho9, hb9⟩
        rw [HG.out]
        rw [HSL.out] at ho9
        obtain ⟨a9, n9, c9, rfl, hf9, hr9⟩ := ho9.form
        have B9 := Lib.hid (B8.out.trans (hb9.mono B8.out.size))
        have R9 := Lib.hid hr9
        have RK9 := Lib.hid (RK8.out.below hb9)
        clear ho9 hb9 hr9 hf9 RK8 R58
        go_wp2_with fail
        refine (SpanCalls.list_any a9 n9 c9 S6 _ R9.out HRS.out HR.out.1).mono ?_; rintro e W10 ⟨v10, rfl, ho10, hb10⟩
        rw [HNK.out] at ho10
        obtain ⟨a10, n10, c10, rfl, hf10, hr10⟩ := ho10.form
        have B10 := Lib.hid (B9.out.trans (hb10.mono B9.out.size))
        have RK10 := Lib.hid (RK9.out.below hb10)
        have R10 := Lib.hid hr10
        clear ho10 hb10 hr10 hf10 R9 RK9
        go_wp2_with fail
        refine (Ref.rsame_any a10 n10 c10 O _ _ cK O _ R10.out RK10.out (by have := R10.out.1; have := HKL.out; have := HK200.out; omega) (by have := HK200.out; omega)).mono ?_; rintro e W11 ⟨rfl, hb11⟩
        have hsame : decide (O = O) = true := by simp
        rw [hsame]
        have B11 := Lib.hid (B10.out.trans (hb11.mono B10.out.size))
        clear hb11 hsame
        go_wp2_with fail
        go_ret
        exact ⟨rfl, B11.out⟩

theorem own : ownKnob Try.prog.godebug = none := by kernel_rfl
theorem laidOut : laidOutB Try.prog = true := by kernel_rfl

set_option maxRecDepth 100000 in
theorem lifted (os : Os) (started : os.Started) (H : Type) (enc : TypeId × Value → H) :
    ReturnsInHanded {} Try.checked os 3 .any (Rows.gapsListsSpec.pre6 enc Try.prog Try.f3 Rows.gapsListsRow.domain false) (Rows.gapsListsSpec.post enc Try.prog Try.f3 false true false false) := by
  refine Base.law_lifted (C := Try.checked) own started (by kernel_rfl) Try.func3 laidOut (by kernel_rfl) rfl Try.underlying4 rfl ?_
    (ChangeSpec.witness6 (enc := enc) (C := Try.checked) false ⟨#[], #[.int .i64 0, .slice none 0 0, .int .i64 0], []⟩ 8 (by kernel_rfl) (by kernel_rfl) (by kernel_rfl) (by kernel_rfl)) ?_
  · intro ds h
    match ds, h with
    | [_d0, _d1, _d2], _ => exact ⟨rfl, rfl, rfl⟩
  · intro W base args ds before hval0 hA0 hlt hsz
    have hval : ∀ (j : Nat) t v, Try.f3.params[j]? = some t → args[j]? = some v → Value.okWide Try.prog W .any base t v := hval0
    have hA : DataW.TrodAll enc Try.prog W 0 (fun _ => true) true Try.f3.params.toList args.toList ds before := hA0
    clear hval0 hA0
    rw [Try.params3] at hA hval hsz
    obtain ⟨v0, vs0, d0, ds0, p0, q0, hargs, rfl, rfl, h0, r0⟩ := trodAll_cons hA
    obtain ⟨v1, vs1, d1, ds1, p1, q1, rfl, rfl, rfl, h1, r1⟩ := trodAll_cons r0
    obtain ⟨v2, vs2, d2, ds2, p2, q2, rfl, rfl, rfl, h2, r2⟩ := trodAll_cons r1
    obtain ⟨rfl, rfl, rfl⟩ := trodAll_nil r2
    obtain rfl : args = #[v0, v1, v2] := by cases args; simp_all
    obtain ⟨a0, rfl, rfl, rfl, w0⟩ := open_int Try.underlying3 (hval 0 3 v0 rfl rfl) h0
    obtain ⟨a1, w1⟩ := Base.open_pairs Try.underlying22 Try.underlying56 (by kernel_rfl) rfl rfl rfl rfl Try.underlying3 (by kernel_rfl) (hval 1 22 v1 rfl rfl) h1 (fun x hx => hlt x (by simp [hx]))
    obtain ⟨a2, rfl, rfl, rfl, w2⟩ := open_int Try.underlying3 (hval 2 3 v2 rfl rfl) h2
    exact walk W a0 w0 v1 a1 w1 a2 w2

theorem over : Rows.gapsListsRow.holds Try.pinned (OpenSpec.ofChange Rows.gapsListsSpec) :=
  OpenClaim.holds_of_wide 3 Try.f3 rfl rfl rfl rfl rfl rfl rfl ⟨rfl, rfl, rfl, rfl, rfl⟩ rfl rfl rfl rfl rfl (by kernel_rfl) Try.func3 (by kernel_rfl)
    (of_decide_eq_true (by kernel_rfl)) (by unfold Func.isWrapper; first | (rw [if_pos (by decide +kernel)]; kernel_rfl) | (rw [if_neg (by decide +kernel)]; exact ⟨rfl, rfl⟩))
    (fun os started H enc _ => lifted os started H enc)

theorem proved : Rows.GapsListsSaid :=
  over
#print axioms proved
end Go.Proofs.Ytdnikjjcgoilfaa.gapsLists
