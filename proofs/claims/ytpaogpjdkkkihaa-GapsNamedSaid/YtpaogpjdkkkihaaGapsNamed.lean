/-
  GapsNamed is proved: which numbers the pairs of a status name is as the document says; for every input the law returns true.
-/
import Derived.Test.YtpaogpjdkkkihaaBase
import Derived.Test.YtpaogpjdkkkihaaGapsC
import Derived.Test.YtpaogpjdkkkihaaBaseC
import Derived.Laws.BitsLemmas
namespace Go.Proofs.Ytpaogpjdkkkihaa.gapsNamed
open Go.ChangeShapes Go.WideShapes Go.ChangeAt Go.RowKit
set_option linter.unusedVariables false      -- a walk need not use every bound of an argument

open Gaps SpanMath Own
theorem and63 (n : Int) : bits .and .i64 n 63 = n % 64 := by
  have h31 : (BitVec.ofInt 64 63).toNat = 2 ^ 6 - 1 := by decide
  have key : (BitVec.ofInt 64 n &&& BitVec.ofInt 64 63).toNat = (n % ((2 ^ 64 : Nat) : Int)).toNat % 2 ^ 6 := by
    rw [BitVec.toNat_and, BitVec.toNat_ofInt, h31, Nat.and_two_pow_sub_one_eq_mod]
  show IntKind.i64.wrap ((BitVec.ofInt 64 n &&& BitVec.ofInt 64 63).toNat : Nat) = n % 64
  rw [key, IntKind.wrap_i64]
  omega
theorem and63_le (n : Int) : 0 ≤ bits .and .i64 n 63 ∧ bits .and .i64 n 63 ≤ 63 := by rw [and63]; omega
theorem run_le (f : Int) (N : List Int) : ∀ i, (Gaps.runN f N i).length ≤ N.length + i
  | 0 => Nat.le_refl _
  | i + 1 => by
    have := run_le f N i
    have h2 := stepN_len (Gaps.runN f N i) ((f + (i : Int)) % 16777216)
    rw [Gaps.runN_succ]; omega
theorem nam_le (L : List Int) : ∀ k, ((namTo L k).length : Int) ≤ cntTo L k
  | 0 => by simp [namTo, cntTo]
  | k + 1 => by
    have ih := nam_le L k
    have hw := way_bounds (L.getD (2 * k) 0) (L.getD (2 * k + 1) 0)
    rw [namTo, cntTo]
    split
    · have := run_le (L.getD (2 * k) 0) (namTo L k) (wayI (L.getD (2 * k) 0) (L.getD (2 * k + 1) 0)).toNat
      omega
    · omega
theorem run_bd (f : Int) {N : List Int} (h : ∀ z ∈ N, 0 ≤ z ∧ z < 4294967296) : ∀ i, ∀ z ∈ Gaps.runN f N i, 0 ≤ z ∧ z < 4294967296
  | 0 => h
  | i + 1 => fun z hz => by
    rw [Gaps.runN_succ] at hz
    unfold stepN at hz
    split at hz
    · rcases List.mem_append.1 hz with hz | hz
      · exact run_bd f h i z hz
      · obtain rfl := List.mem_singleton.1 hz; omega
    · exact run_bd f h i z hz
theorem nam_bd (L : List Int) : ∀ k, ∀ z ∈ namTo L k, 0 ≤ z ∧ z < 4294967296
  | 0 => by simp [namTo]
  | k + 1 => by
    rw [namTo]; split
    · exact run_bd _ (nam_bd L k) _
    · exact nam_bd L k
theorem mod_same {L : List Int} (h : ∀ z ∈ L, 0 ≤ z ∧ z < 16777216) : modL L = L := by
  unfold modL
  exact (List.map_congr_left fun z hz => by have := h z hz; show z % 16777216 = z; omega).trans (List.map_id L)
theorem bd_add {L : List Int} {x : Int} (h : ∀ z ∈ L, 0 ≤ z ∧ z < 16777216) (hx : 0 ≤ x ∧ x < 16777216) : ∀ z ∈ L ++ [x], 0 ≤ z ∧ z < 16777216 := fun z hz => by
  rcases List.mem_append.1 hz with hz | hz
  · exact h z hz
  · obtain rfl := List.mem_singleton.1 hz; exact hx
set_option maxRecDepth 100000 in
set_option maxHeartbeats 8000000 in
theorem walk (w : World) (k0 : Int) (w0 : (Lit.int .i64 k0).wf = true) (v1 : Value) (T : List Int) (w1 : Base.IntSliceC .i64 8 w v1 T) :
    Calls Try.prog 5 #[.int .i64 k0, v1] w fun e w' => e = .returned (.bool true) ∧ Below w.heap.size w w' := by
  obtain ⟨k1, k2⟩ := bounds_i64 w0
  obtain ⟨⟨a, cap, rfl, hbig, hwf, hcs⟩, a', cap', e1, hlc, hcm, hnil⟩ := w1
  cases e1
  obtain ⟨n, hn⟩ : ∃ n, T.length = n := ⟨_, rfl⟩
  have hrd : RdI .i64 w a n T := ⟨hn.symm, fun h0 => by
    rcases hcs with rfl | ⟨b, off, rfl, hb, hc⟩
    · simp at hn; omega
    · exact ⟨b, off, rfl, hb, fun i hi => hc i (by omega)⟩⟩
  have HB : Hid (∀ z ∈ T, -9223372036854775808 ≤ z ∧ z ≤ 9223372036854775807) := Lib.hid (fun z hz => bounds_i64 (hwf z hz))
  rw [hn] at hlc ⊢
  have HN := Lib.hid hn
  unfold maxLen at hcm
  have hn64 : (n : Int) ≤ 281474976710656 := by omega
  have HR := Lib.hid hrd
  clear hrd hcs hwf hn hbig w0
  by_cases h20 : 20 < n
  · have hne : 0 < n := by omega
    obtain ⟨b, off, rfl, hbl, _⟩ := HR.out.at_ hne
    have HR20 : Hid (RdI .i64 w (some ⟨b, off, none⟩) 20 (T.take 20)) := Lib.hid ⟨by rw [List.length_take]; have := HN.out; omega, fun _ => ⟨b, off, rfl, hbl, fun i hi => by
      obtain ⟨b', off', e, _, hc⟩ := HR.out.at_ (k := i) (by omega)
      cases e
      rw [hc, View.getD_take T 0 i 20 hi]⟩⟩
    have HB20 : Hid (∀ z ∈ T.take 20, -9223372036854775808 ≤ z ∧ z ≤ 9223372036854775807) := Lib.hid (fun z hz => HB.out z (List.mem_of_mem_take hz))
    have hd : decide ((20 : Int) < (n : Int)) = true := decide_eq_true (by omega)
    have hc20 : 20 ≤ cap := by omega
    clear hnil hne
    generalize T.take 20 = L at *
    go_enter Try.func5, Try.ntmps5
    go_wp2_with fail
    refine (gawake_any _).mono ?_; rintro e W1 ⟨rfl, hb1⟩
    have B1 := Lib.hid hb1
    have RL := Lib.hid (HR20.out.below hb1)
    clear hb1 HR HR20 HB
    go_wp2_with fail
    go_loopw [5, 19] (fun s5 s19 wr => ∃ (i : Nat) (O : List Int), i ≤ 20 ∧ s19 = .int .i64 (i : Int) ∧ Hid (O.length = i) ∧ Hid (∀ z ∈ O, 0 ≤ z ∧ z < 16777216) ∧ Hid (OwnI .i64 3 wr W1.heap.size s5 O) ∧ Hid (Below W1.heap.size W1 wr)) (fun _ s19 _ => 20 - (intOf s19).toNat)
    case atStart => exact ⟨0, [], Nat.zero_le _, rfl, Lib.hid rfl, Lib.hid (by simp), Lib.hid OwnI.nil, Lib.hid (Below.refl _ _)⟩
    case round =>
      obtain ⟨i, O, hi, rfl, HOL, HOB, ho, hb⟩ := hrel
      obtain ⟨av, nv, cv, rfl, hfv, hrv⟩ := ho.out.form
      have hnv : nv = i := by rw [hrv.1, HOL.out]
      subst hnv
      have RV := Lib.hid hrv
      have FV := Lib.hid hfv
      clear hrv hfv
      by_cases hlt : nv < 20
      · obtain ⟨bb, of, e, _, hc⟩ := (RL.out.below hb.out).at_ hlt
        obtain ⟨x, hx⟩ : ∃ x, L.getD nv 0 = x := ⟨_, rfl⟩
        rw [hx] at hc
        have hxb := HB20.out x (by rw [← hx]; have := RL.out.1; simp [List.getD, show nv < L.length by omega])
        obtain ⟨xa, xb⟩ := hxb
        have HLT := Lib.hid hlt
        have hki : (nv : Int) < (20 : Int) := by omega
        have hn20 : (20 : Nat) ≤ 20 := Nat.le_refl _
        have hnz : (nv : Int) ≤ 20 := by omega
        have HOS : Hid (Below W1.heap.size W1 wr → W1.heap.size ≤ wr.heap.size) := Lib.hid (fun h => h.size)
        have HLEN : Hid (O.length + 1 ≤ 1000000) := Lib.hid (by rw [HOL.out]; omega)
        have HW : Hid (W1.heap.size ≤ wr.heap.size) := Lib.hid hb.out.size
        cases e
        clear hx hlt hi
        by_cases hodd : (nv : Int) % 2 = 1
        · have hpos : 0 < nv := by
            rcases Nat.eq_zero_or_pos nv with h | h
            · subst h; simp at hodd
            · exact h
          obtain ⟨bo, oo, e, _, hcp⟩ := RV.out.at_ (k := nv - 1) (by omega)
          subst e
          obtain ⟨y, hy⟩ : ∃ y, O.getD (nv - 1) 0 = y := ⟨_, rfl⟩
          rw [hy] at hcp
          have hyb := HOB.out y (by rw [← hy]; have := HOL.out; simp [List.getD, show nv - 1 < O.length by omega])
          obtain ⟨ya, yb⟩ := hyb
          have hidx : ((nv : Int) - 1).toNat = nv - 1 := by omega
          have hin : (0 : Int) ≤ (nv : Int) - 1 := by omega
          have hil : nv - 1 < nv := by omega
          have hm1 : ((nv : Int) % 2 == 1) = true := by rw [hodd]; rfl
          clear hy hodd
          go_wp2_with fail
          refine (SeqCalls.of_any x _ (by omega) (by omega)).mono ?_; rintro e w2 ⟨rfl, rfl⟩
          obtain ⟨m, hm⟩ : ∃ m, bits .and .i64 (x % 16777216) 63 = m := ⟨_, rfl⟩
          have hmb := and63_le (x % 16777216)
          rw [hm] at hmb
          obtain ⟨ma, mb⟩ := hmb
          go_wp2_with fail
          refine (SeqCalls.of_any _ _ (by omega) (by omega)).mono ?_; rintro e w2 ⟨rfl, rfl⟩
          generalize hz : (y + m) % 16777216 = z
          have HZ : Hid (0 ≤ z ∧ z < 16777216) := Lib.hid (by omega)
          clear hz hcp
          go_wp2_with (at_builtin; refine Own.wpList_appI infoI (by decide) rfl (.tmp 38) (.tmp 40) 24 rfl Try.underlying24 W1.heap.size _ _ rfl (ho.out.below ((Below.refl _ _).alloc (Nat.le_refl _) _)) _ 1 1 [_] rfl (Own.rdI_lit1_at _ _ _ _ _ rfl) (fun h => by cases h) HLEN.out (by have := HW.out; simp; omega) ?_; intro v8 w8 hown8 hgrow8; have HO8 := Lib.hid hown8; have HB8 : Hid (Below W1.heap.size W1 w8) := Lib.hid (Own.own_grown (hb.out.alloc HW.out _) (by have := HW.out; simp; omega) hgrow8 (ho.out.below ((Below.refl _ _).alloc (Nat.le_refl _) _))); clear hown8 hgrow8)
          go_roundw
          case rel => exact ⟨nv + 1, O ++ [z], HLT.out, by go_num, Lib.hid (by rw [List.length_append, HOL.out]; rfl), Lib.hid (bd_add HOB.out HZ.out), HO8, HB8⟩
          case measure => simp [intOf]; have := HLT.out; omega
        · have hm1 : ((nv : Int) % 2 == 1) = false := by simpa using hodd
          clear hodd
          go_wp2_with fail
          refine (SeqCalls.of_any x _ (by omega) (by omega)).mono ?_; rintro e w2 ⟨rfl, rfl⟩
          generalize hz : x % 16777216 = z
          have HZ : Hid (0 ≤ z ∧ z < 16777216) := Lib.hid (by omega)
          clear hz
          go_wp2_with (at_builtin; refine Own.wpList_appI infoI (by decide) rfl (.tmp 38) (.tmp 40) 24 rfl Try.underlying24 W1.heap.size _ _ rfl (ho.out.below ((Below.refl _ _).alloc (Nat.le_refl _) _)) _ 1 1 [_] rfl (Own.rdI_lit1_at _ _ _ _ _ rfl) (fun h => by cases h) HLEN.out (by have := HW.out; simp; omega) ?_; intro v8 w8 hown8 hgrow8; have HO8 := Lib.hid hown8; have HB8 : Hid (Below W1.heap.size W1 w8) := Lib.hid (Own.own_grown (hb.out.alloc HW.out _) (by have := HW.out; simp; omega) hgrow8 (ho.out.below ((Below.refl _ _).alloc (Nat.le_refl _) _))); clear hown8 hgrow8)
          go_roundw
          case rel => exact ⟨nv + 1, O ++ [z], HLT.out, by go_num, Lib.hid (by rw [List.length_append, HOL.out]; rfl), Lib.hid (bd_add HOB.out HZ.out), HO8, HB8⟩
          case measure => simp [intOf]; have := HLT.out; omega
      · obtain rfl : nv = 20 := by omega
        clear hlt hi
        have hnv : 20 ≤ 20 := Nat.le_refl _
        go_wp2_with fail
        refine (nums_any av 20 cv O _ RV.out (by omega)).mono ?_; rintro e W2 ⟨v2, rfl, ho2, hb2⟩
        rw [mod_same HOB.out] at ho2
        obtain ⟨a2, c2, rfl, hf2, hr2⟩ := own_rd ho2
        rw [HOL.out] at hr2 hf2 ⊢
        have HS : Hid (W1.heap.size ≤ wr.heap.size) := Lib.hid hb.out.size
        have B2 := Lib.hid (B1.out.trans ((hb.out.trans (hb2.mono HS.out)).mono B1.out.size))
        have R2 := Lib.hid hr2
        have F2 := Lib.hid hf2
        have RV2 := Lib.hid (RV.out.below hb2)
        clear ho2 hb2 hr2 hf2 ho hb HS
        have hal : Below W2.heap.size W2 (W2.alloc (.cells #[.int .i64 k0, .int .i64 0, .int .u32 0, .int .u32 0, .int .u32 0, .slice a2 20 c2, .bool false, .string ⟨#[]⟩] 48)) := (Below.refl _ _).alloc (Nat.le_refl _) _
        have B3 := Lib.hid (B2.out.trans (hal.mono B2.out.size))
        have HL3 := Lib.hid hal
        clear hal
        by_cases hk : k0 = 11 ∨ k0 = 12
        · obtain ⟨W3, hW3⟩ : ∃ W3, W2.alloc (.cells #[.int .i64 k0, .int .i64 0, .int .u32 0, .int .u32 0, .int .u32 0, .slice a2 20 c2, .bool false, .string ⟨#[]⟩] 48) = W3 := ⟨_, rfl⟩
          have HP : Hid (W3.cell? ⟨W2.heap.size, 5, none⟩ = some (.slice a2 20 c2) ∧ W2.heap.size < W3.heap.size) := Lib.hid ⟨by rw [← hW3]; exact Go.Joins.cell_of_block (heap_alloc_new W2 _) 5, by rw [← hW3]; simp⟩
          rw [hW3] at B3 HL3
          have HW3 := Lib.hid hW3
          clear hW3
          rcases hk with rfl | rfl
          all_goals
            go_wp2_with fail
            have R3 := Lib.hid (R2.out.below HL3.out)
            have RV3 := Lib.hid (RV2.out.below HL3.out)
            clear HL3 R2 RV2
            rw [HW3.out]
            clear HW3
            generalize W2.heap.size = g at *
            refine (named_any _ 0 0 0 0 a2 20 c2 O false ⟨#[]⟩ W3 R3.out F2.out (by decide)).mono ?_; rintro e W4 ⟨v4, rfl, ho4, hb4⟩
            have HM1 : Hid ((namedL O).length ≤ 65536) := Lib.hid (nam_cap O _)
            have HM2 : Hid (((namedL O).length : Int) ≤ countL O) := Lib.hid (nam_le O _)
            have HM3 : Hid (∀ z ∈ namedL O, 0 ≤ z ∧ z < 4294967296) := Lib.hid (nam_bd O _)
            obtain ⟨a4, c4, rfl, hf4, hr4⟩ := own_rd ho4
            have R4 := Lib.hid hr4
            have B4 := Lib.hid (B3.out.trans (hb4.mono B3.out.size))
            have RV4 := Lib.hid (RV3.out.below hb4)
            have R24 := Lib.hid (R3.out.below hb4)
            have HP4 : Hid (W4.cell? ⟨g, 5, none⟩ = some (.slice a2 20 c2) ∧ g < W4.heap.size) := Lib.hid ⟨(cell_below hb4 HP.out.2).trans HP.out.1, Nat.lt_of_lt_of_le HP.out.2 hb4.size⟩
            clear ho4 hb4 hf4 hr4 R3 RV3 HP
            obtain ⟨q, hq⟩ : ∃ q, (namedL O).length = q := ⟨_, rfl⟩
            rw [hq] at HM1 HM2 R4 ⊢
            have HQ := Lib.hid hq
            have hq1 : (q : Int) ≤ 65536 := by have := HM1.out; omega
            clear hq
            go_wp2_with fail
            refine (rnamed_any av 20 cv O _ RV4.out (by omega) HOB.out).mono ?_; rintro e W5 ⟨v5, rfl, ho5, hb5⟩
            obtain ⟨a5, n5, c5, rfl, hf5, hr5⟩ := ho5.form
            have hn5 : n5 = q := by rw [← HQ.out]; have := hr5.1; omega
            rw [hn5] at hr5 ⊢
            have R5 := Lib.hid hr5
            have R45 := Lib.hid (R4.out.below hb5)
            have R25 := Lib.hid (R24.out.below hb5)
            have B5 := Lib.hid (B4.out.trans (hb5.mono B4.out.size))
            have HP5 : Hid (W5.cell? ⟨g, 5, none⟩ = some (.slice a2 20 c2) ∧ g < W5.heap.size) := Lib.hid ⟨(cell_below hb5 HP4.out.2).trans HP4.out.1, Nat.lt_of_lt_of_le HP4.out.2 hb5.size⟩
            clear ho5 hb5 hf5 hr5 hn5 R4 R24 HP4 RV4
            go_wp2_with fail
            refine (same_any a4 q c4 (namedL O) a5 q c5 (namedL O) _ R45.out R5.out (by have := HM1.out; omega) (by have := HM1.out; omega) HM3.out).mono ?_; rintro e W6 ⟨rfl, hb6⟩
            have hsame : decide (namedL O = namedL O) = true := by simp
            rw [hsame]
            have B6 := Lib.hid (B5.out.trans (hb6.mono B5.out.size))
            have R26 := Lib.hid (R25.out.below hb6)
            have k6 : W6.cell? ⟨g, 5, none⟩ = some (.slice a2 20 c2) := (cell_below hb6 HP5.out.2).trans HP5.out.1
            clear hb6 hsame R45 R5 R25 HP5
            generalize hC : countL O = C at HM2
            go_wp2_with fail
            refine (count_any a2 20 c2 O _ R26.out F2.out (by omega)).mono ?_; rintro e W7 ⟨rfl, hb7⟩
            rw [hC]
            have B7 := Lib.hid (B6.out.trans (hb7.mono B6.out.size))
            have hge : (q : Int) ≤ C := HM2.out
            clear hb7 k6 hC
            go_wp2_with fail
            go_ret
            exact ⟨by first | rfl | simp [hge], B7.out⟩
        · have hk1 : (k0 != 11) = true := by simpa using fun h => hk (.inl h)
          have hk2 : (k0 != 12) = true := by simpa using fun h => hk (.inr h)
          have HK : Hid (k0 ≠ 11 ∧ k0 ≠ 12) := Lib.hid ⟨fun h => hk (.inl h), fun h => hk (.inr h)⟩
          clear hk
          go_wp2_with fail
          refine (named_other k0 0 0 0 0 _ false ⟨#[]⟩ _ HK.out).mono ?_; rintro e W4 ⟨rfl, hb4⟩
          have B4 := Lib.hid (B3.out.trans (hb4.mono B3.out.size))
          clear hb4
          go_wp2_with fail
          go_ret
          exact ⟨rfl, B4.out⟩
        
  · have hd : decide ((20 : Int) < (n : Int)) = false := decide_eq_false (by omega)
    have hnn : n ≤ 20 := by omega
    go_enter Try.func5, Try.ntmps5
    go_wp2_with fail
    refine (gawake_any _).mono ?_; rintro e W1 ⟨rfl, hb1⟩
    have B1 := Lib.hid hb1
    have RL := Lib.hid (HR.out.below hb1)
    clear hb1 HR
    go_wp2_with fail
    go_loopw [5, 19] (fun s5 s19 wr => ∃ (i : Nat) (O : List Int), i ≤ n ∧ s19 = .int .i64 (i : Int) ∧ Hid (O.length = i) ∧ Hid (∀ z ∈ O, 0 ≤ z ∧ z < 16777216) ∧ Hid (OwnI .i64 3 wr W1.heap.size s5 O) ∧ Hid (Below W1.heap.size W1 wr)) (fun _ s19 _ => n - (intOf s19).toNat)
    case atStart => exact ⟨0, [], Nat.zero_le _, rfl, Lib.hid rfl, Lib.hid (by simp), Lib.hid OwnI.nil, Lib.hid (Below.refl _ _)⟩
    case round =>
      obtain ⟨i, O, hi, rfl, HOL, HOB, ho, hb⟩ := hrel
      obtain ⟨av, nv, cv, rfl, hfv, hrv⟩ := ho.out.form
      have hnv : nv = i := by rw [hrv.1, HOL.out]
      subst hnv
      have RV := Lib.hid hrv
      have FV := Lib.hid hfv
      clear hrv hfv
      by_cases hlt : nv < n
      · obtain ⟨bb, of, e, _, hc⟩ := (RL.out.below hb.out).at_ hlt
        obtain ⟨x, hx⟩ : ∃ x, T.getD nv 0 = x := ⟨_, rfl⟩
        rw [hx] at hc
        have hxb := HB.out x (by rw [← hx]; have := RL.out.1; simp [List.getD, show nv < T.length by omega])
        obtain ⟨xa, xb⟩ := hxb
        have HLT := Lib.hid hlt
        have hki : (nv : Int) < (n : Int) := by omega
        have hn20 : n ≤ 20 := hnn
        have hnz : (nv : Int) ≤ 20 := by omega
        have HOS : Hid (Below W1.heap.size W1 wr → W1.heap.size ≤ wr.heap.size) := Lib.hid (fun h => h.size)
        have HLEN : Hid (O.length + 1 ≤ 1000000) := Lib.hid (by rw [HOL.out]; omega)
        have HW : Hid (W1.heap.size ≤ wr.heap.size) := Lib.hid hb.out.size
        cases e
        clear hx hlt hi
        by_cases hodd : (nv : Int) % 2 = 1
        · have hpos : 0 < nv := by
            rcases Nat.eq_zero_or_pos nv with h | h
            · subst h; simp at hodd
            · exact h
          obtain ⟨bo, oo, e, _, hcp⟩ := RV.out.at_ (k := nv - 1) (by omega)
          subst e
          obtain ⟨y, hy⟩ : ∃ y, O.getD (nv - 1) 0 = y := ⟨_, rfl⟩
          rw [hy] at hcp
          have hyb := HOB.out y (by rw [← hy]; have := HOL.out; simp [List.getD, show nv - 1 < O.length by omega])
          obtain ⟨ya, yb⟩ := hyb
          have hidx : ((nv : Int) - 1).toNat = nv - 1 := by omega
          have hin : (0 : Int) ≤ (nv : Int) - 1 := by omega
          have hil : nv - 1 < nv := by omega
          have hm1 : ((nv : Int) % 2 == 1) = true := by rw [hodd]; rfl
          clear hy hodd
          go_wp2_with fail
          refine (SeqCalls.of_any x _ (by omega) (by omega)).mono ?_; rintro e w2 ⟨rfl, rfl⟩
          obtain ⟨m, hm⟩ : ∃ m, bits .and .i64 (x % 16777216) 63 = m := ⟨_, rfl⟩
          have hmb := and63_le (x % 16777216)
          rw [hm] at hmb
          obtain ⟨ma, mb⟩ := hmb
          go_wp2_with fail
          refine (SeqCalls.of_any _ _ (by omega) (by omega)).mono ?_; rintro e w2 ⟨rfl, rfl⟩
          generalize hz : (y + m) % 16777216 = z
          have HZ : Hid (0 ≤ z ∧ z < 16777216) := Lib.hid (by omega)
          clear hz hcp
          go_wp2_with (at_builtin; refine Own.wpList_appI infoI (by decide) rfl (.tmp 38) (.tmp 40) 24 rfl Try.underlying24 W1.heap.size _ _ rfl (ho.out.below ((Below.refl _ _).alloc (Nat.le_refl _) _)) _ 1 1 [_] rfl (Own.rdI_lit1_at _ _ _ _ _ rfl) (fun h => by cases h) HLEN.out (by have := HW.out; simp; omega) ?_; intro v8 w8 hown8 hgrow8; have HO8 := Lib.hid hown8; have HB8 : Hid (Below W1.heap.size W1 w8) := Lib.hid (Own.own_grown (hb.out.alloc HW.out _) (by have := HW.out; simp; omega) hgrow8 (ho.out.below ((Below.refl _ _).alloc (Nat.le_refl _) _))); clear hown8 hgrow8)
          go_roundw
          case rel => exact ⟨nv + 1, O ++ [z], HLT.out, by go_num, Lib.hid (by rw [List.length_append, HOL.out]; rfl), Lib.hid (bd_add HOB.out HZ.out), HO8, HB8⟩
          case measure => simp [intOf]; have := HLT.out; omega
        · have hm1 : ((nv : Int) % 2 == 1) = false := by simpa using hodd
          clear hodd
          go_wp2_with fail
          refine (SeqCalls.of_any x _ (by omega) (by omega)).mono ?_; rintro e w2 ⟨rfl, rfl⟩
          generalize hz : x % 16777216 = z
          have HZ : Hid (0 ≤ z ∧ z < 16777216) := Lib.hid (by omega)
          clear hz
          go_wp2_with (at_builtin; refine Own.wpList_appI infoI (by decide) rfl (.tmp 38) (.tmp 40) 24 rfl Try.underlying24 W1.heap.size _ _ rfl (ho.out.below ((Below.refl _ _).alloc (Nat.le_refl _) _)) _ 1 1 [_] rfl (Own.rdI_lit1_at _ _ _ _ _ rfl) (fun h => by cases h) HLEN.out (by have := HW.out; simp; omega) ?_; intro v8 w8 hown8 hgrow8; have HO8 := Lib.hid hown8; have HB8 : Hid (Below W1.heap.size W1 w8) := Lib.hid (Own.own_grown (hb.out.alloc HW.out _) (by have := HW.out; simp; omega) hgrow8 (ho.out.below ((Below.refl _ _).alloc (Nat.le_refl _) _))); clear hown8 hgrow8)
          go_roundw
          case rel => exact ⟨nv + 1, O ++ [z], HLT.out, by go_num, Lib.hid (by rw [List.length_append, HOL.out]; rfl), Lib.hid (bd_add HOB.out HZ.out), HO8, HB8⟩
          case measure => simp [intOf]; have := HLT.out; omega
      · obtain rfl : nv = n := by omega
        clear hlt hi
        have hnv : nv ≤ 20 := hnn
        go_wp2_with fail
        refine (nums_any av nv cv O _ RV.out (by omega)).mono ?_; rintro e W2 ⟨v2, rfl, ho2, hb2⟩
        rw [mod_same HOB.out] at ho2
        obtain ⟨a2, c2, rfl, hf2, hr2⟩ := own_rd ho2
        rw [HOL.out] at hr2 hf2 ⊢
        have HS : Hid (W1.heap.size ≤ wr.heap.size) := Lib.hid hb.out.size
        have B2 := Lib.hid (B1.out.trans ((hb.out.trans (hb2.mono HS.out)).mono B1.out.size))
        have R2 := Lib.hid hr2
        have F2 := Lib.hid hf2
        have RV2 := Lib.hid (RV.out.below hb2)
        clear ho2 hb2 hr2 hf2 ho hb HS
        have hal : Below W2.heap.size W2 (W2.alloc (.cells #[.int .i64 k0, .int .i64 0, .int .u32 0, .int .u32 0, .int .u32 0, .slice a2 nv c2, .bool false, .string ⟨#[]⟩] 48)) := (Below.refl _ _).alloc (Nat.le_refl _) _
        have B3 := Lib.hid (B2.out.trans (hal.mono B2.out.size))
        have HL3 := Lib.hid hal
        clear hal
        by_cases hk : k0 = 11 ∨ k0 = 12
        · obtain ⟨W3, hW3⟩ : ∃ W3, W2.alloc (.cells #[.int .i64 k0, .int .i64 0, .int .u32 0, .int .u32 0, .int .u32 0, .slice a2 nv c2, .bool false, .string ⟨#[]⟩] 48) = W3 := ⟨_, rfl⟩
          have HP : Hid (W3.cell? ⟨W2.heap.size, 5, none⟩ = some (.slice a2 nv c2) ∧ W2.heap.size < W3.heap.size) := Lib.hid ⟨by rw [← hW3]; exact Go.Joins.cell_of_block (heap_alloc_new W2 _) 5, by rw [← hW3]; simp⟩
          rw [hW3] at B3 HL3
          have HW3 := Lib.hid hW3
          clear hW3
          rcases hk with rfl | rfl
          all_goals
            go_wp2_with fail
            have R3 := Lib.hid (R2.out.below HL3.out)
            have RV3 := Lib.hid (RV2.out.below HL3.out)
            clear HL3 R2 RV2
            rw [HW3.out]
            clear HW3
            generalize W2.heap.size = g at *
            refine (named_any _ 0 0 0 0 a2 nv c2 O false ⟨#[]⟩ W3 R3.out F2.out (by decide)).mono ?_; rintro e W4 ⟨v4, rfl, ho4, hb4⟩
            have HM1 : Hid ((namedL O).length ≤ 65536) := Lib.hid (nam_cap O _)
            have HM2 : Hid (((namedL O).length : Int) ≤ countL O) := Lib.hid (nam_le O _)
            have HM3 : Hid (∀ z ∈ namedL O, 0 ≤ z ∧ z < 4294967296) := Lib.hid (nam_bd O _)
            obtain ⟨a4, c4, rfl, hf4, hr4⟩ := own_rd ho4
            have R4 := Lib.hid hr4
            have B4 := Lib.hid (B3.out.trans (hb4.mono B3.out.size))
            have RV4 := Lib.hid (RV3.out.below hb4)
            have R24 := Lib.hid (R3.out.below hb4)
            have HP4 : Hid (W4.cell? ⟨g, 5, none⟩ = some (.slice a2 nv c2) ∧ g < W4.heap.size) := Lib.hid ⟨(cell_below hb4 HP.out.2).trans HP.out.1, Nat.lt_of_lt_of_le HP.out.2 hb4.size⟩
            clear ho4 hb4 hf4 hr4 R3 RV3 HP
            obtain ⟨q, hq⟩ : ∃ q, (namedL O).length = q := ⟨_, rfl⟩
            rw [hq] at HM1 HM2 R4 ⊢
            have HQ := Lib.hid hq
            have hq1 : (q : Int) ≤ 65536 := by have := HM1.out; omega
            clear hq
            go_wp2_with fail
            refine (rnamed_any av nv cv O _ RV4.out (by omega) HOB.out).mono ?_; rintro e W5 ⟨v5, rfl, ho5, hb5⟩
            obtain ⟨a5, n5, c5, rfl, hf5, hr5⟩ := ho5.form
            have hn5 : n5 = q := by rw [← HQ.out]; have := hr5.1; omega
            rw [hn5] at hr5 ⊢
            have R5 := Lib.hid hr5
            have R45 := Lib.hid (R4.out.below hb5)
            have R25 := Lib.hid (R24.out.below hb5)
            have B5 := Lib.hid (B4.out.trans (hb5.mono B4.out.size))
            have HP5 : Hid (W5.cell? ⟨g, 5, none⟩ = some (.slice a2 nv c2) ∧ g < W5.heap.size) := Lib.hid ⟨(cell_below hb5 HP4.out.2).trans HP4.out.1, Nat.lt_of_lt_of_le HP4.out.2 hb5.size⟩
            clear ho5 hb5 hf5 hr5 hn5 R4 R24 HP4 RV4
            go_wp2_with fail
            refine (same_any a4 q c4 (namedL O) a5 q c5 (namedL O) _ R45.out R5.out (by have := HM1.out; omega) (by have := HM1.out; omega) HM3.out).mono ?_; rintro e W6 ⟨rfl, hb6⟩
            have hsame : decide (namedL O = namedL O) = true := by simp
            rw [hsame]
            have B6 := Lib.hid (B5.out.trans (hb6.mono B5.out.size))
            have R26 := Lib.hid (R25.out.below hb6)
            have k6 : W6.cell? ⟨g, 5, none⟩ = some (.slice a2 nv c2) := (cell_below hb6 HP5.out.2).trans HP5.out.1
            clear hb6 hsame R45 R5 R25 HP5
            generalize hC : countL O = C at HM2
            go_wp2_with fail
            refine (count_any a2 nv c2 O _ R26.out F2.out (by omega)).mono ?_; rintro e W7 ⟨rfl, hb7⟩
            rw [hC]
            have B7 := Lib.hid (B6.out.trans (hb7.mono B6.out.size))
            have hge : (q : Int) ≤ C := HM2.out
            clear hb7 k6 hC
            go_wp2_with fail
            go_ret
            exact ⟨by first | rfl | simp [hge], B7.out⟩
        · have hk1 : (k0 != 11) = true := by simpa using fun h => hk (.inl h)
          have hk2 : (k0 != 12) = true := by simpa using fun h => hk (.inr h)
          have HK : Hid (k0 ≠ 11 ∧ k0 ≠ 12) := Lib.hid ⟨fun h => hk (.inl h), fun h => hk (.inr h)⟩
          clear hk
          go_wp2_with fail
          refine (named_other k0 0 0 0 0 _ false ⟨#[]⟩ _ HK.out).mono ?_; rintro e W4 ⟨rfl, hb4⟩
          have B4 := Lib.hid (B3.out.trans (hb4.mono B3.out.size))
          clear hb4
          go_wp2_with fail
          go_ret
          exact ⟨rfl, B4.out⟩
        

theorem own : ownKnob Try.prog.godebug = none := by kernel_rfl
theorem laidOut : laidOutB Try.prog = true := by kernel_rfl

set_option maxRecDepth 100000 in
theorem lifted (os : Os) (started : os.Started) (H : Type) (enc : TypeId × Value → H) :
    ReturnsInHanded {} Try.checked os 5 .any (Rows.gapsNamedSpec.pre6 enc Try.prog Try.f5 Rows.gapsNamedRow.domain false) (Rows.gapsNamedSpec.post enc Try.prog Try.f5 false true false false) := by
  refine Base.law_lifted (C := Try.checked) own started (by kernel_rfl) Try.func5 laidOut (by kernel_rfl) rfl Try.underlying4 rfl ?_
    (ChangeSpec.witness6 (enc := enc) (C := Try.checked) false ⟨#[], #[.int .i64 0, .slice none 0 0], []⟩ 8 (by kernel_rfl) (by kernel_rfl) (by kernel_rfl) (by kernel_rfl)) ?_
  · intro ds h
    match ds, h with
    | [_d0, _d1], _ => exact ⟨rfl, rfl, rfl⟩
  · intro W base args ds before hval0 hA0 hlt hsz
    have hval : ∀ (j : Nat) t v, Try.f5.params[j]? = some t → args[j]? = some v → Value.okWide Try.prog W .any base t v := hval0
    have hA : DataW.TrodAll enc Try.prog W 0 (fun _ => true) true Try.f5.params.toList args.toList ds before := hA0
    clear hval0 hA0
    rw [Try.params5] at hA hval hsz
    obtain ⟨v0, vs0, d0, ds0, p0, q0, hargs, rfl, rfl, h0, r0⟩ := trodAll_cons hA
    obtain ⟨v1, vs1, d1, ds1, p1, q1, rfl, rfl, rfl, h1, r1⟩ := trodAll_cons r0
    obtain ⟨rfl, rfl, rfl⟩ := trodAll_nil r1
    obtain rfl : args = #[v0, v1] := by cases args; simp_all
    obtain ⟨a0, rfl, rfl, rfl, w0⟩ := open_int Try.underlying3 (hval 0 3 v0 rfl rfl) h0
    obtain ⟨a1, w1⟩ := Base.open_int_sliceC Try.underlying24 Try.underlying3 (by kernel_rfl) (by kernel_rfl) (hval 1 24 v1 rfl rfl) h1 (fun x hx => hlt x (by simp [hx])) (Base.sized_at hsz (j := 1) rfl rfl)
    exact walk W a0 w0 v1 a1 w1

theorem over : Rows.gapsNamedRow.holds Try.pinned (OpenSpec.ofChange Rows.gapsNamedSpec) :=
  OpenClaim.holds_of_wide 5 Try.f5 rfl rfl rfl rfl rfl rfl rfl ⟨rfl, rfl, rfl, rfl, rfl⟩ rfl rfl rfl rfl rfl (by kernel_rfl) Try.func5 (by kernel_rfl)
    (of_decide_eq_true (by kernel_rfl)) (by unfold Func.isWrapper; first | (rw [if_pos (by decide +kernel)]; kernel_rfl) | (rw [if_neg (by decide +kernel)]; exact ⟨rfl, rfl⟩))
    (fun os started H enc _ => lifted os started H enc)

theorem proved : Rows.GapsNamedSaid :=
  over
#print axioms proved
end Go.Proofs.Ytpaogpjdkkkihaa.gapsNamed
