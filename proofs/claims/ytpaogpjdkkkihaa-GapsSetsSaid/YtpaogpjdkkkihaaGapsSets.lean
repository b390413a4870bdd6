/-
  GapsSets is proved: of any numbers there is the set whose pairs they are, or they are none; for every input the law returns true.
-/
import Derived.Test.YtpaogpjdkkkihaaBase
import Derived.Test.YtpaogpjdkkkihaaGapsE
import Derived.Test.YtpaogpjdkkkihaaBaseC
import Derived.Laws.BitsLemmas
namespace Go.Proofs.Ytpaogpjdkkkihaa.gapsSets
open Go.ChangeShapes Go.WideShapes Go.ChangeAt Go.RowKit
set_option linter.unusedVariables false      -- a walk need not use every bound of an argument

open Gaps SpanMath Own
theorem and63 (n : Int) : bits .and .i64 n 63 = n % 64 := by
  have h31 : (BitVec.ofInt 64 63).toNat = 2 ^ 6 - 1 := by decide
  have key : (BitVec.ofInt 64 n &&& BitVec.ofInt 64 63).toNat = (n % ((2 ^ 64 : Nat) : Int)).toNat % 2 ^ 6 := by
    rw [BitVec.toNat_and, BitVec.toNat_ofInt, h31, Nat.and_two_pow_sub_one_eq_mod]
  show IntKind.i64.wrap ((BitVec.ofInt 64 n &&& BitVec.ofInt 64 63).toNat : Nat) = n % 64
  rw [key, IntKind.wrap_i64]
  omega
theorem and63_le (n : Int) : 0 ≤ bits .and .i64 n 63 ∧ bits .and .i64 n 63 ≤ 63 := by rw [and63]; omega
theorem mod_same {L : List Int} (h : ∀ z ∈ L, 0 ≤ z ∧ z < 16777216) : modL L = L := by
  unfold modL
  exact (List.map_congr_left fun z hz => by have := h z hz; show z % 16777216 = z; omega).trans (List.map_id L)
theorem near_add {b : Int} {L : List Int} {x : Int} (h : ∀ z ∈ L, Near3 b z) (hx : Near3 b x) : ∀ z ∈ L ++ [x], Near3 b z := fun z hz => by
  rcases List.mem_append.1 hz with hz | hz
  · exact h z hz
  · obtain rfl := List.mem_singleton.1 hz; exact hx
theorem near_in {b x : Int} (hb : 0 ≤ b ∧ b < 16777216) (h1 : -300 ≤ x) (h2 : x ≤ 300) : Near3 b ((b + x) % 16777216) := by
  unfold Near3 wayI; omega
set_option maxRecDepth 100000 in
set_option maxHeartbeats 8000000 in
theorem walk (w : World) (a0 : Int) (w0 : (Lit.int .i64 a0).wf = true) (a1 : Int) (w0' : (Lit.int .i64 a1).wf = true) (v1 : Value) (T : List Int) (w1 : Base.IntSliceC .i64 8 w v1 T) :
    Calls Try.prog 4 #[.int .i64 a0, .int .i64 a1, v1] w fun e w' => e = .returned (.bool true) ∧ Below w.heap.size w w' := by
  obtain ⟨⟨a, cap, rfl, hbig, hwf, hcs⟩, a', cap', e1, hlc, hcm, hnil⟩ := w1
  cases e1
  obtain ⟨n, hn⟩ : ∃ n, T.length = n := ⟨_, rfl⟩
  have hrd : RdI .i64 w a n T := ⟨hn.symm, fun h0 => by
    rcases hcs with rfl | ⟨b, off, rfl, hb, hc⟩
    · simp at hn; omega
    · exact ⟨b, off, rfl, hb, fun i hi => hc i (by omega)⟩⟩
  have HB : Hid (∀ z ∈ T, -9223372036854775808 ≤ z ∧ z ≤ 9223372036854775807) := Lib.hid (fun z hz => bounds_i64 (hwf z hz))
  rw [hn] at hlc ⊢
  have HN := Lib.hid hn
  unfold maxLen at hcm
  have hn64 : (n : Int) ≤ 281474976710656 := by omega
  have HR := Lib.hid hrd
  clear hrd hcs hwf hn hbig w0 w0'
  by_cases h20 : 20 < n
  · have hne : 0 < n := by omega
    obtain ⟨b, off, rfl, hbl, _⟩ := HR.out.at_ hne
    have HR20 : Hid (RdI .i64 w (some ⟨b, off, none⟩) 20 (T.take 20)) := Lib.hid ⟨by rw [List.length_take]; have := HN.out; omega, fun _ => ⟨b, off, rfl, hbl, fun i hi => by
      obtain ⟨b', off', e, _, hc⟩ := HR.out.at_ (k := i) (by omega)
      cases e
      rw [hc, View.getD_take T 0 i 20 hi]⟩⟩
    have HB20 : Hid (∀ z ∈ T.take 20, -9223372036854775808 ≤ z ∧ z ≤ 9223372036854775807) := Lib.hid (fun z hz => HB.out z (List.mem_of_mem_take hz))
    have hd : decide ((20 : Int) < (n : Int)) = true := decide_eq_true (by omega)
    have hc20 : 20 ≤ cap := by omega
    clear hnil hne
    generalize T.take 20 = L at *
    go_enter Try.func4, Try.ntmps4
    go_wp2_with fail
    refine (gawake_any _).mono ?_; rintro e W1 ⟨rfl, hb1⟩
    have B1 := Lib.hid hb1
    have RL := Lib.hid (HR20.out.below hb1)
    clear hb1 HR HR20 HB
    go_wp2_with fail
    refine (SeqCalls.sof_any a0 _).mono ?_; rintro e w2 ⟨rfl, rfl⟩
    go_wp2_with fail
    refine (SeqCalls.sof_any a1 _).mono ?_; rintro e w2 ⟨rfl, rfl⟩
    obtain ⟨b, hb⟩ : ∃ b, a0 % 16777216 = b := ⟨_, rfl⟩
    obtain ⟨t, ht⟩ : ∃ t, a1 % 16777216 = t := ⟨_, rfl⟩
    rw [hb, ht]
    have hbb : 0 ≤ b ∧ b < 16777216 := by omega
    have htt : 0 ≤ t ∧ t < 16777216 := by omega
    obtain ⟨b0, b1⟩ := hbb
    obtain ⟨t0, t1⟩ := htt
    clear hb ht
    go_wp2_with fail
    go_loopw [9, 29] (fun s9 s29 wr => ∃ (i : Nat) (O : List Int), i ≤ 20 ∧ s29 = .int .i64 (i : Int) ∧ Hid (O.length = i) ∧ Hid (∀ z ∈ O, Near3 b z) ∧ Hid (OwnI .i64 3 wr W1.heap.size s9 O) ∧ Hid (Below W1.heap.size W1 wr)) (fun _ s29 _ => 20 - (intOf s29).toNat)
    case atStart => exact ⟨0, [], Nat.zero_le _, rfl, Lib.hid rfl, Lib.hid (by simp), Lib.hid OwnI.nil, Lib.hid (Below.refl _ _)⟩
    case round =>
      obtain ⟨i, O, hi, rfl, HOL, HOB, ho, hb⟩ := hrel
      obtain ⟨av, nv, cv, rfl, hfv, hrv⟩ := ho.out.form
      have hnv : nv = i := by rw [hrv.1, HOL.out]
      subst hnv
      have RV := Lib.hid hrv
      have FV := Lib.hid hfv
      clear hrv hfv
      by_cases hlt : nv < 20
      · obtain ⟨bb, of, e, _, hc⟩ := (RL.out.below hb.out).at_ hlt
        obtain ⟨x, hx⟩ : ∃ x, L.getD nv 0 = x := ⟨_, rfl⟩
        rw [hx] at hc
        have hxb := HB20.out x (by rw [← hx]; have := RL.out.1; simp [List.getD, show nv < L.length by omega])
        obtain ⟨xa, xb⟩ := hxb
        have HLT := Lib.hid hlt
        have hki : (nv : Int) < (20 : Int) := by omega
        have hn20 : (20 : Nat) ≤ 20 := Nat.le_refl _
        have hnz : (nv : Int) ≤ 20 := by omega
        have HOS : Hid (Below W1.heap.size W1 wr → W1.heap.size ≤ wr.heap.size) := Lib.hid (fun h => h.size)
        have HLEN : Hid (O.length + 1 ≤ 1000000) := Lib.hid (by rw [HOL.out]; omega)
        have HW : Hid (W1.heap.size ≤ wr.heap.size) := Lib.hid hb.out.size
        cases e
        clear hx hlt hi
        by_cases hlo : -300 ≤ x
        · by_cases hhi : x ≤ 300
          · go_wp2_with fail
            refine (SeqCalls.of_any _ _ (by omega) (by omega)).mono ?_; rintro e w2 ⟨rfl, rfl⟩
            have HZ : Hid (Near3 b ((b + x) % 16777216)) := Lib.hid (near_in ⟨b0, b1⟩ hlo hhi)
            generalize (b + x) % 16777216 = z at *
            go_wp2_with (at_builtin; refine Own.wpList_appI infoI (by decide) rfl (.tmp 51) (.tmp 53) 24 rfl Try.underlying24 W1.heap.size _ _ rfl (ho.out.below ((Below.refl _ _).alloc (Nat.le_refl _) _)) _ 1 1 [_] rfl (Own.rdI_lit1_at _ _ _ _ _ rfl) (fun h => by cases h) HLEN.out (by have := HW.out; simp; omega) ?_; intro v8 w8 hown8 hgrow8; have HO8 := Lib.hid hown8; have HB8 : Hid (Below W1.heap.size W1 w8) := Lib.hid (Own.own_grown (hb.out.alloc HW.out _) (by have := HW.out; simp; omega) hgrow8 (ho.out.below ((Below.refl _ _).alloc (Nat.le_refl _) _))); clear hown8 hgrow8)
            go_roundw
            case rel => exact ⟨nv + 1, O ++ [z], HLT.out, by go_num, Lib.hid (by rw [List.length_append, HOL.out]; rfl), Lib.hid (near_add HOB.out HZ.out), HO8, HB8⟩
            case measure => simp [intOf]; have := HLT.out; omega
          · obtain ⟨m, hm⟩ : ∃ m, bits .and .i64 x 63 = m := ⟨_, rfl⟩
            have hmb := and63_le x
            rw [hm] at hmb
            obtain ⟨ma, mb⟩ := hmb
            go_wp2_with fail
            refine (SeqCalls.of_any _ _ (by omega) (by omega)).mono ?_; rintro e w2 ⟨rfl, rfl⟩
            have HZ : Hid (Near3 b ((b + 4 * m) % 16777216)) := Lib.hid (near_in ⟨b0, b1⟩ (by omega) (by omega))
            generalize (b + 4 * m) % 16777216 = z at *
            go_wp2_with (at_builtin; refine Own.wpList_appI infoI (by decide) rfl (.tmp 51) (.tmp 53) 24 rfl Try.underlying24 W1.heap.size _ _ rfl (ho.out.below ((Below.refl _ _).alloc (Nat.le_refl _) _)) _ 1 1 [_] rfl (Own.rdI_lit1_at _ _ _ _ _ rfl) (fun h => by cases h) HLEN.out (by have := HW.out; simp; omega) ?_; intro v8 w8 hown8 hgrow8; have HO8 := Lib.hid hown8; have HB8 : Hid (Below W1.heap.size W1 w8) := Lib.hid (Own.own_grown (hb.out.alloc HW.out _) (by have := HW.out; simp; omega) hgrow8 (ho.out.below ((Below.refl _ _).alloc (Nat.le_refl _) _))); clear hown8 hgrow8)
            go_roundw
            case rel => exact ⟨nv + 1, O ++ [z], HLT.out, by go_num, Lib.hid (by rw [List.length_append, HOL.out]; rfl), Lib.hid (near_add HOB.out HZ.out), HO8, HB8⟩
            case measure => simp [intOf]; have := HLT.out; omega
        · obtain ⟨m, hm⟩ : ∃ m, bits .and .i64 x 63 = m := ⟨_, rfl⟩
          have hmb := and63_le x
          rw [hm] at hmb
          obtain ⟨ma, mb⟩ := hmb
          go_wp2_with fail
          refine (SeqCalls.of_any _ _ (by omega) (by omega)).mono ?_; rintro e w2 ⟨rfl, rfl⟩
          have HZ : Hid (Near3 b ((b + 4 * m) % 16777216)) := Lib.hid (near_in ⟨b0, b1⟩ (by omega) (by omega))
          generalize (b + 4 * m) % 16777216 = z at *
          go_wp2_with (at_builtin; refine Own.wpList_appI infoI (by decide) rfl (.tmp 51) (.tmp 53) 24 rfl Try.underlying24 W1.heap.size _ _ rfl (ho.out.below ((Below.refl _ _).alloc (Nat.le_refl _) _)) _ 1 1 [_] rfl (Own.rdI_lit1_at _ _ _ _ _ rfl) (fun h => by cases h) HLEN.out (by have := HW.out; simp; omega) ?_; intro v8 w8 hown8 hgrow8; have HO8 := Lib.hid hown8; have HB8 : Hid (Below W1.heap.size W1 w8) := Lib.hid (Own.own_grown (hb.out.alloc HW.out _) (by have := HW.out; simp; omega) hgrow8 (ho.out.below ((Below.refl _ _).alloc (Nat.le_refl _) _))); clear hown8 hgrow8)
          go_roundw
          case rel => exact ⟨nv + 1, O ++ [z], HLT.out, by go_num, Lib.hid (by rw [List.length_append, HOL.out]; rfl), Lib.hid (near_add HOB.out HZ.out), HO8, HB8⟩
          case measure => simp [intOf]; have := HLT.out; omega
      · obtain rfl : nv = 20 := by omega
        clear hlt hi
        have hnv : 20 ≤ 20 := Nat.le_refl _
        go_wp2_with fail
        refine (nums_any av 20 cv O _ RV.out (by omega)).mono ?_; rintro e W2 ⟨v2, rfl, ho2, hb2⟩
        have HOB2 : Hid (∀ z ∈ O, 0 ≤ z ∧ z < 16777216) := Lib.hid (fun z hz => ⟨(HOB.out z hz).1, (HOB.out z hz).2.1⟩)
        rw [mod_same HOB2.out] at ho2
        obtain ⟨a2, c2, rfl, hf2, hr2⟩ := own_rd ho2
        rw [HOL.out] at hr2 hf2 ⊢
        have HS : Hid (W1.heap.size ≤ wr.heap.size) := Lib.hid hb.out.size
        have B2 := Lib.hid (B1.out.trans ((hb.out.trans (hb2.mono HS.out)).mono B1.out.size))
        have R2 := Lib.hid hr2
        have F2 := Lib.hid hf2
        have RV2 := Lib.hid (RV.out.below hb2)
        clear ho2 hb2 hr2 hf2 ho hb HS
        go_wp2_with fail
        refine (gset_any b t a2 20 c2 O _ R2.out F2.out (by omega)).mono ?_; rintro e W3 ⟨v3, rfl, ho3, hb3⟩
        obtain ⟨a3, n3, c3, rfl, hf3, hr3⟩ := ho3.form
        have B3 := Lib.hid (B2.out.trans (hb3.mono B2.out.size))
        have R3 := Lib.hid hr3
        have F3 := Lib.hid hf3
        have RV3 := Lib.hid (RV2.out.below hb3)
        clear ho3 hb3 hr3 hf3 R2 F2 RV2
        have HSS := Lib.hid (set_small (b := b) (t := t) (L := O) (by rw [HOL.out]; exact hnv) HOB.out)
        have HFL : Hid (goodS b t O = true → flatB b (setL b t O) = O) := Lib.hid (fun h => flat_set h ⟨b0, b1⟩ HOB2.out)
        go_wp2_with fail
        refine (rset_any b t av 20 cv O _ RV3.out hnv ⟨b0, b1⟩ ⟨t0, t1⟩ HOB.out).mono ?_; rintro e W4 ⟨v4, rfl, ho4, hlen4, hb4⟩
        rw [out_set] at ho4 hlen4
        obtain ⟨a4, n4, c4, rfl, hf4, hr4⟩ := ho4.form
        have B4 := Lib.hid (B3.out.trans (hb4.mono B3.out.size))
        have R34 := Lib.hid (R3.out.below hb4)
        have R4 := Lib.hid hr4
        have RV4 := Lib.hid (RV3.out.below hb4)
        have HLEN4 := Lib.hid hlen4
        clear ho4 hb4 hr4 hf4 R3 RV3 hlen4
        generalize setL b t O = S at *
        generalize goodS b t O = G at *
        cases G
        all_goals
          go_wp2_with fail
          refine (SpanCalls.list_any a3 n3 c3 S _ R34.out HSS.out.2.1 HSS.out.1).mono ?_; rintro e W5 ⟨v5, rfl, ho5, hb5⟩
          obtain ⟨a5, n5, c5, rfl, hf5, hr5⟩ := ho5.form
          have B5 := Lib.hid (B4.out.trans (hb5.mono B4.out.size))
          have R35 := Lib.hid (R34.out.below hb5)
          have R45 := Lib.hid (R4.out.below hb5)
          have R5 := Lib.hid hr5
          have RV5 := Lib.hid (RV4.out.below hb5)
          clear ho5 hb5 hr5 hf5 R34 R4 RV4
          go_wp2_with fail
          refine (Ref.rsame_any a5 n5 c5 (nums S) a4 n4 c4 (nums S) _ R5.out R45.out (by have := R5.out.1; have := HLEN4.out; omega) (by have := R45.out.1; have := HLEN4.out; omega)).mono ?_; rintro e W6 ⟨rfl, hb6⟩
          have hsame : decide (nums S = nums S) = true := by simp
          rw [hsame]
          have B6 := Lib.hid (B5.out.trans (hb6.mono B5.out.size))
          have R36 := Lib.hid (R35.out.below hb6)
          have RV6 := Lib.hid (RV5.out.below hb6)
          clear hb6 hsame R35 R45 R5 RV5
          go_wp2_with fail
        · go_ret
          exact ⟨rfl, B6.out⟩
        · refine (glist_any b a3 n3 c3 S S S _ R36.out F3.out (Law03.near_small HSS.out.2.1) ⟨HSS.out.1, fun n => mem_nums⟩ (by have := HSS.out.2.1.1; omega) (both_self HSS.out.1 (fun x hx => by have := HSS.out.2.2 x hx; omega)) (by have := HSS.out.2.1.1; omega)).mono ?_; rintro e W7 ⟨v7, rfl, ho7, hb7⟩
          rw [HFL.out (by trivial)] at ho7
          obtain ⟨a7, c7, rfl, hf7, hr7⟩ := own_rd ho7
          rw [HOL.out] at hr7 ⊢
          have B7 := Lib.hid (B6.out.trans (hb7.mono B6.out.size))
          have R7 := Lib.hid hr7
          have RV7 := Lib.hid (RV6.out.below hb7)
          clear ho7 hb7 hr7 hf7 R36 RV6
          go_wp2_with fail
          refine (same_any a7 20 c7 O av 20 cv O _ R7.out RV7.out (by omega) (by omega) (fun z hz => by have := HOB2.out z hz; omega)).mono ?_; rintro e W8 ⟨rfl, hb8⟩
          have hsame : decide (O = O) = true := by simp
          rw [hsame]
          have B8 := Lib.hid (B7.out.trans (hb8.mono B7.out.size))
          clear hb8 hsame
          go_wp2_with fail
          go_ret
          exact ⟨rfl, B8.out⟩
        
  · have hd : decide ((20 : Int) < (n : Int)) = false := decide_eq_false (by omega)
    have hnn : n ≤ 20 := by omega
    go_enter Try.func4, Try.ntmps4
    go_wp2_with fail
    refine (gawake_any _).mono ?_; rintro e W1 ⟨rfl, hb1⟩
    have B1 := Lib.hid hb1
    have RL := Lib.hid (HR.out.below hb1)
    clear hb1 HR
    go_wp2_with fail
    refine (SeqCalls.sof_any a0 _).mono ?_; rintro e w2 ⟨rfl, rfl⟩
    go_wp2_with fail
    refine (SeqCalls.sof_any a1 _).mono ?_; rintro e w2 ⟨rfl, rfl⟩
    obtain ⟨b, hb⟩ : ∃ b, a0 % 16777216 = b := ⟨_, rfl⟩
    obtain ⟨t, ht⟩ : ∃ t, a1 % 16777216 = t := ⟨_, rfl⟩
    rw [hb, ht]
    have hbb : 0 ≤ b ∧ b < 16777216 := by omega
    have htt : 0 ≤ t ∧ t < 16777216 := by omega
    obtain ⟨b0, b1⟩ := hbb
    obtain ⟨t0, t1⟩ := htt
    clear hb ht
    go_wp2_with fail
    go_loopw [9, 29] (fun s9 s29 wr => ∃ (i : Nat) (O : List Int), i ≤ n ∧ s29 = .int .i64 (i : Int) ∧ Hid (O.length = i) ∧ Hid (∀ z ∈ O, Near3 b z) ∧ Hid (OwnI .i64 3 wr W1.heap.size s9 O) ∧ Hid (Below W1.heap.size W1 wr)) (fun _ s29 _ => n - (intOf s29).toNat)
    case atStart => exact ⟨0, [], Nat.zero_le _, rfl, Lib.hid rfl, Lib.hid (by simp), Lib.hid OwnI.nil, Lib.hid (Below.refl _ _)⟩
    case round =>
      obtain ⟨i, O, hi, rfl, HOL, HOB, ho, hb⟩ := hrel
      obtain ⟨av, nv, cv, rfl, hfv, hrv⟩ := ho.out.form
      have hnv : nv = i := by rw [hrv.1, HOL.out]
      subst hnv
      have RV := Lib.hid hrv
      have FV := Lib.hid hfv
      clear hrv hfv
      by_cases hlt : nv < n
      · obtain ⟨bb, of, e, _, hc⟩ := (RL.out.below hb.out).at_ hlt
        obtain ⟨x, hx⟩ : ∃ x, T.getD nv 0 = x := ⟨_, rfl⟩
        rw [hx] at hc
        have hxb := HB.out x (by rw [← hx]; have := RL.out.1; simp [List.getD, show nv < T.length by omega])
        obtain ⟨xa, xb⟩ := hxb
        have HLT := Lib.hid hlt
        have hki : (nv : Int) < (n : Int) := by omega
        have hn20 : n ≤ 20 := hnn
        have hnz : (nv : Int) ≤ 20 := by omega
        have HOS : Hid (Below W1.heap.size W1 wr → W1.heap.size ≤ wr.heap.size) := Lib.hid (fun h => h.size)
        have HLEN : Hid (O.length + 1 ≤ 1000000) := Lib.hid (by rw [HOL.out]; omega)
        have HW : Hid (W1.heap.size ≤ wr.heap.size) := Lib.hid hb.out.size
        cases e
        clear hx hlt hi
        by_cases hlo : -300 ≤ x
        · by_cases hhi : x ≤ 300
          · go_wp2_with fail
            refine (SeqCalls.of_any _ _ (by omega) (by omega)).mono ?_; rintro e w2 ⟨rfl, rfl⟩
            have HZ : Hid (Near3 b ((b + x) % 16777216)) := Lib.hid (near_in ⟨b0, b1⟩ hlo hhi)
            generalize (b + x) % 16777216 = z at *
            go_wp2_with (at_builtin; refine Own.wpList_appI infoI (by decide) rfl (.tmp 51) (.tmp 53) 24 rfl Try.underlying24 W1.heap.size _ _ rfl (ho.out.below ((Below.refl _ _).alloc (Nat.le_refl _) _)) _ 1 1 [_] rfl (Own.rdI_lit1_at _ _ _ _ _ rfl) (fun h => by cases h) HLEN.out (by have := HW.out; simp; omega) ?_; intro v8 w8 hown8 hgrow8; have HO8 := Lib.hid hown8; have HB8 : Hid (Below W1.heap.size W1 w8) := Lib.hid (Own.own_grown (hb.out.alloc HW.out _) (by have := HW.out; simp; omega) hgrow8 (ho.out.below ((Below.refl _ _).alloc (Nat.le_refl _) _))); clear hown8 hgrow8)
            go_roundw
            case rel => exact ⟨nv + 1, O ++ [z], HLT.out, by go_num, Lib.hid (by rw [List.length_append, HOL.out]; rfl), Lib.hid (near_add HOB.out HZ.out), HO8, HB8⟩
            case measure => simp [intOf]; have := HLT.out; omega
          · obtain ⟨m, hm⟩ : ∃ m, bits .and .i64 x 63 = m := ⟨_, rfl⟩
            have hmb := and63_le x
            rw [hm] at hmb
            obtain ⟨ma, mb⟩ := hmb
            go_wp2_with fail
            refine (SeqCalls.of_any _ _ (by omega) (by omega)).mono ?_; rintro e w2 ⟨rfl, rfl⟩
            have HZ : Hid (Near3 b ((b + 4 * m) % 16777216)) := Lib.hid (near_in ⟨b0, b1⟩ (by omega) (by omega))
            generalize (b + 4 * m) % 16777216 = z at *
            go_wp2_with (at_builtin; refine Own.wpList_appI infoI (by decide) rfl (.tmp 51) (.tmp 53) 24 rfl Try.underlying24 W1.heap.size _ _ rfl (ho.out.below ((Below.refl _ _).alloc (Nat.le_refl _) _)) _ 1 1 [_] rfl (Own.rdI_lit1_at _ _ _ _ _ rfl) (fun h => by cases h) HLEN.out (by have := HW.out; simp; omega) ?_; intro v8 w8 hown8 hgrow8; have HO8 := Lib.hid hown8; have HB8 : Hid (Below W1.heap.size W1 w8) := Lib.hid (Own.own_grown (hb.out.alloc HW.out _) (by have := HW.out; simp; omega) hgrow8 (ho.out.below ((Below.refl _ _).alloc (Nat.le_refl _) _))); clear hown8 hgrow8)
            go_roundw
            case rel => exact ⟨nv + 1, O ++ [z], HLT.out, by go_num, Lib.hid (by rw [List.length_append, HOL.out]; rfl), Lib.hid (near_add HOB.out HZ.out), HO8, HB8⟩
            case measure => simp [intOf]; have := HLT.out; omega
        · obtain ⟨m, hm⟩ : ∃ m, bits .and .i64 x 63 = m := ⟨_, rfl⟩
          have hmb := and63_le x
          rw [hm] at hmb
          obtain ⟨ma, mb⟩ := hmb
          go_wp2_with fail
          refine (SeqCalls.of_any _ _ (by omega) (by omega)).mono ?_; rintro e w2 ⟨rfl, rfl⟩
          have HZ : Hid (Near3 b ((b + 4 * m) % 16777216)) := Lib.hid (near_in ⟨b0, b1⟩ (by omega) (by omega))
          generalize (b + 4 * m) % 16777216 = z at *
          go_wp2_with (at_builtin; refine Own.wpList_appI infoI (by decide) rfl (.tmp 51) (.tmp 53) 24 rfl Try.underlying24 W1.heap.size _ _ rfl (ho.out.below ((Below.refl _ _).alloc (Nat.le_refl _) _)) _ 1 1 [_] rfl (Own.rdI_lit1_at _ _ _ _ _ rfl) (fun h => by cases h) HLEN.out (by have := HW.out; simp; omega) ?_; intro v8 w8 hown8 hgrow8; have HO8 := Lib.hid hown8; have HB8 : Hid (Below W1.heap.size W1 w8) := Lib.hid (Own.own_grown (hb.out.alloc HW.out _) (by have := HW.out; simp; omega) hgrow8 (ho.out.below ((Below.refl _ _).alloc (Nat.le_refl _) _))); clear hown8 hgrow8)
          go_roundw
          case rel => exact ⟨nv + 1, O ++ [z], HLT.out, by go_num, Lib.hid (by rw [List.length_append, HOL.out]; rfl), Lib.hid (near_add HOB.out HZ.out), HO8, HB8⟩
          case measure => simp [intOf]; have := HLT.out; omega
      · obtain rfl : nv = n := by omega
        clear hlt hi
        have hnv : nv ≤ 20 := hnn
        go_wp2_with fail
        refine (nums_any av nv cv O _ RV.out (by omega)).mono ?_; rintro e W2 ⟨v2, rfl, ho2, hb2⟩
        have HOB2 : Hid (∀ z ∈ O, 0 ≤ z ∧ z < 16777216) := Lib.hid (fun z hz => ⟨(HOB.out z hz).1, (HOB.out z hz).2.1⟩)
        rw [mod_same HOB2.out] at ho2
        obtain ⟨a2, c2, rfl, hf2, hr2⟩ := own_rd ho2
        rw [HOL.out] at hr2 hf2 ⊢
        have HS : Hid (W1.heap.size ≤ wr.heap.size) := Lib.hid hb.out.size
        have B2 := Lib.hid (B1.out.trans ((hb.out.trans (hb2.mono HS.out)).mono B1.out.size))
        have R2 := Lib.hid hr2
        have F2 := Lib.hid hf2
        have RV2 := Lib.hid (RV.out.below hb2)
        clear ho2 hb2 hr2 hf2 ho hb HS
        go_wp2_with fail
        refine (gset_any b t a2 nv c2 O _ R2.out F2.out (by omega)).mono ?_; rintro e W3 ⟨v3, rfl, ho3, hb3⟩
        obtain ⟨a3, n3, c3, rfl, hf3, hr3⟩ := ho3.form
        have B3 := Lib.hid (B2.out.trans (hb3.mono B2.out.size))
        have R3 := Lib.hid hr3
        have F3 := Lib.hid hf3
        have RV3 := Lib.hid (RV2.out.below hb3)
        clear ho3 hb3 hr3 hf3 R2 F2 RV2
        have HSS := Lib.hid (set_small (b := b) (t := t) (L := O) (by rw [HOL.out]; exact hnv) HOB.out)
        have HFL : Hid (goodS b t O = true → flatB b (setL b t O) = O) := Lib.hid (fun h => flat_set h ⟨b0, b1⟩ HOB2.out)
        go_wp2_with fail
        refine (rset_any b t av nv cv O _ RV3.out hnv ⟨b0, b1⟩ ⟨t0, t1⟩ HOB.out).mono ?_; rintro e W4 ⟨v4, rfl, ho4, hlen4, hb4⟩
        rw [out_set] at ho4 hlen4
        obtain ⟨a4, n4, c4, rfl, hf4, hr4⟩ := ho4.form
        have B4 := Lib.hid (B3.out.trans (hb4.mono B3.out.size))
        have R34 := Lib.hid (R3.out.below hb4)
        have R4 := Lib.hid hr4
        have RV4 := Lib.hid (RV3.out.below hb4)
        have HLEN4 := Lib.hid hlen4
        clear ho4 hb4 hr4 hf4 R3 RV3 hlen4
        generalize setL b t O = S at *
        generalize goodS b t O = G at *
        cases G
        all_goals
          go_wp2_with fail
          refine (SpanCalls.list_any a3 n3 c3 S _ R34.out HSS.out.2.1 HSS.out.1).mono ?_; rintro e W5 ⟨v5, rfl, ho5, hb5⟩
          obtain ⟨a5, n5, c5, rfl, hf5, hr5⟩ := ho5.form
          have B5 := Lib.hid (B4.out.trans (hb5.mono B4.out.size))
          have R35 := Lib.hid (R34.out.below hb5)
          have R45 := Lib.hid (R4.out.below hb5)
          have R5 := Lib.hid hr5
          have RV5 := Lib.hid (RV4.out.below hb5)
          clear ho5 hb5 hr5 hf5 R34 R4 RV4
          go_wp2_with fail
          refine (Ref.rsame_any a5 n5 c5 (nums S) a4 n4 c4 (nums S) _ R5.out R45.out (by have := R5.out.1; have := HLEN4.out; omega) (by have := R45.out.1; have := HLEN4.out; omega)).mono ?_; rintro e W6 ⟨rfl, hb6⟩
          have hsame : decide (nums S = nums S) = true := by simp
          rw [hsame]
          have B6 := Lib.hid (B5.out.trans (hb6.mono B5.out.size))
          have R36 := Lib.hid (R35.out.below hb6)
          have RV6 := Lib.hid (RV5.out.below hb6)
          clear hb6 hsame R35 R45 R5 RV5
          go_wp2_with fail
        · go_ret
          exact ⟨rfl, B6.out⟩
        · refine (glist_any b a3 n3 c3 S S S _ R36.out F3.out (Law03.near_small HSS.out.2.1) ⟨HSS.out.1, fun n => mem_nums⟩ (by have := HSS.out.2.1.1; omega) (both_self HSS.out.1 (fun x hx => by have := HSS.out.2.2 x hx; omega)) (by have := HSS.out.2.1.1; omega)).mono ?_; rintro e W7 ⟨v7, rfl, ho7, hb7⟩
          rw [HFL.out (by trivial)] at ho7
          obtain ⟨a7, c7, rfl, hf7, hr7⟩ := own_rd ho7
          rw [HOL.out] at hr7 ⊢
          have B7 := Lib.hid (B6.out.trans (hb7.mono B6.out.size))
          have R7 := Lib.hid hr7
          have RV7 := Lib.hid (RV6.out.below hb7)
          clear ho7 hb7 hr7 hf7 R36 RV6
          go_wp2_with fail
          refine (same_any a7 nv c7 O av nv cv O _ R7.out RV7.out (by omega) (by omega) (fun z hz => by have := HOB2.out z hz; omega)).mono ?_; rintro e W8 ⟨rfl, hb8⟩
          have hsame : decide (O = O) = true := by simp
          rw [hsame]
          have B8 := Lib.hid (B7.out.trans (hb8.mono B7.out.size))
          clear hb8 hsame
          go_wp2_with fail
          go_ret
          exact ⟨rfl, B8.out⟩
        

theorem own : ownKnob Try.prog.godebug = none := by kernel_rfl
theorem laidOut : laidOutB Try.prog = true := by kernel_rfl

set_option maxRecDepth 100000 in
theorem lifted (os : Os) (started : os.Started) (H : Type) (enc : TypeId × Value → H) :
    ReturnsInHanded {} Try.checked os 4 .any (Rows.gapsSetsSpec.pre6 enc Try.prog Try.f4 Rows.gapsSetsRow.domain false) (Rows.gapsSetsSpec.post enc Try.prog Try.f4 false true false false) := by
  refine Base.law_lifted (C := Try.checked) own started (by kernel_rfl) Try.func4 laidOut (by kernel_rfl) rfl Try.underlying4 rfl ?_
    (ChangeSpec.witness6 (enc := enc) (C := Try.checked) false ⟨#[], #[.int .i64 0, .int .i64 0, .slice none 0 0], []⟩ 8 (by kernel_rfl) (by kernel_rfl) (by kernel_rfl) (by kernel_rfl)) ?_
  · intro ds h
    match ds, h with
    | [_d0, _d1, _d2], _ => exact ⟨rfl, rfl, rfl⟩
  · intro W base args ds before hval0 hA0 hlt hsz
    have hval : ∀ (j : Nat) t v, Try.f4.params[j]? = some t → args[j]? = some v → Value.okWide Try.prog W .any base t v := hval0
    have hA : DataW.TrodAll enc Try.prog W 0 (fun _ => true) true Try.f4.params.toList args.toList ds before := hA0
    clear hval0 hA0
    rw [Try.params4] at hA hval hsz
    obtain ⟨v0, vs0, d0, ds0, p0, q0, hargs, rfl, rfl, h0, r0⟩ := trodAll_cons hA
    obtain ⟨v1, vs1, d1, ds1, p1, q1, rfl, rfl, rfl, h1, r1⟩ := trodAll_cons r0
    obtain ⟨v2, vs2, d2, ds2, p2, q2, rfl, rfl, rfl, h2, r2⟩ := trodAll_cons r1
    obtain ⟨rfl, rfl, rfl⟩ := trodAll_nil r2
    obtain rfl : args = #[v0, v1, v2] := by cases args; simp_all
    obtain ⟨a0, rfl, rfl, rfl, w0⟩ := open_int Try.underlying3 (hval 0 3 v0 rfl rfl) h0
    obtain ⟨a1, rfl, rfl, rfl, w1⟩ := open_int Try.underlying3 (hval 1 3 v1 rfl rfl) h1
    obtain ⟨a2, w2⟩ := Base.open_int_sliceC Try.underlying24 Try.underlying3 (by kernel_rfl) (by kernel_rfl) (hval 2 24 v2 rfl rfl) h2 (fun x hx => hlt x (by simp [hx])) (Base.sized_at hsz (j := 2) rfl rfl)
    exact walk W a0 w0 a1 w1 v2 a2 w2

theorem over : Rows.gapsSetsRow.holds Try.pinned (OpenSpec.ofChange Rows.gapsSetsSpec) :=
  OpenClaim.holds_of_wide 4 Try.f4 rfl rfl rfl rfl rfl rfl rfl ⟨rfl, rfl, rfl, rfl, rfl⟩ rfl rfl rfl rfl rfl (by kernel_rfl) Try.func4 (by kernel_rfl)
    (of_decide_eq_true (by kernel_rfl)) (by unfold Func.isWrapper; first | (rw [if_pos (by decide +kernel)]; kernel_rfl) | (rw [if_neg (by decide +kernel)]; exact ⟨rfl, rfl⟩))
    (fun os started H enc _ => lifted os started H enc)

theorem proved : Rows.GapsSetsSaid :=
  over
#print axioms proved
end Go.Proofs.Ytpaogpjdkkkihaa.gapsSets
