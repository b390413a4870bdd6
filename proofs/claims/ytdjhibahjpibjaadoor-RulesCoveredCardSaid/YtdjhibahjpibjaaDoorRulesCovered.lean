/-
  RulesCovered is proved: each state has a word for each kind, and something that may be asked; for every input the law returns true.
-/
import Derived.Test.YtdjhibahjpibjaaDoorLaid
import Derived.Test.YtdjhibahjpibjaaDoorCards
import Derived.Test.YtdjhibahjpibjaaDoorRules6
import Derived.Test.YtdjhibahjpibjaaDoorRulesAnd
namespace Go.Proofs.YtdjhibahjpibjaaDoor.rulesCovered
open Go.ChangeShapes Go.WideShapes Go.ChangeAt Go.RowKit
set_option linter.unusedVariables false      -- a walk need not use every bound of an argument

open Rules
def hN (k : Int) : Nat → Nat
  | 0 => 0
  | i + 1 => hN k i + (if ofI ((i : Int) + 1) k = 1 then 1 else 0)
theorem hN_step1 {k : Int} {i : Nat} (h : ofI ((i : Int) + 1) k = 1) : hN k (i + 1) = hN k i + 1 := by rw [hN, if_pos h]
theorem hN_step0 {k : Int} {i : Nat} (h : ofI ((i : Int) + 1) k ≠ 1) : hN k (i + 1) = hN k i := by rw [hN, if_neg h]; rfl
theorem hN_all : ∀ j : Fin 15, 1 ≤ hN ((j.val : Int) + 1) 10 := by decide +kernel
theorem words : ∀ i : Fin 10, ∀ j : Fin 15, let o := ofI ((i.val : Int) + 1) ((j.val : Int) + 1); (o = 0 ∨ o = 1 ∨ (o = 2 ∧ letterI ((j.val : Int) + 1) ≠ 0) ∨ (o = 3 ∧ i.val = 0 ∧ letterI ((j.val : Int) + 1) ≠ 0) ∨ (o = 4 ∧ letterI ((j.val : Int) + 1) ≠ 0)) := by decide +kernel
theorem may8 : ∀ i : Fin 10, mayI ((i.val : Int) + 1) 8 = true := by decide +kernel
theorem may7 : ∀ i : Fin 10, mayI ((i.val : Int) + 1) 7 = ((i.val : Int) + 1 == 10) := by decide +kernel
def smB (s : Int) : Nat → Bool
  | 0 => false
  | q + 1 => smB s q || mayI s ((q : Int) + 1)
theorem sm_end (i : Nat) (hi : i < 10) : smB ((i : Int) + 1) 11 = true := by
  have := may8 ⟨i, hi⟩
  simp only at this
  show (((((((((((false || _) || _) || _) || _) || _) || _) || _) || mayI _ 8) || _) || _) || _) = true
  rw [this]; simp
theorem st15 (n : Int) : ∃ t : Nat, (bits .and .i64 n 255).tmod 15 = (t : Int) ∧ t < 15 := by
  rw [and255]
  refine ⟨(n % 256 % 15).toNat, ?_, by omega⟩
  rw [Int.tmod_eq_emod_of_nonneg (by omega)]; omega
structure Facts (K : Int) : Prop where
  words : ∀ i : Nat, i < 10 → ∃ o, ofI ((i : Int) + 1) K = o ∧ (o = 0 ∨ o = 1 ∨ (o = 2 ∧ letterI K ≠ 0) ∨ (o = 3 ∧ i = 0 ∧ letterI K ≠ 0) ∨ (o = 4 ∧ letterI K ≠ 0))
  all : 1 ≤ hN K 10
theorem facts (t : Nat) (ht : t < 15) (K : Int) (hK : 1 + (t : Int) = K) : Facts K := by
  obtain rfl : K = (t : Int) + 1 := by omega
  exact ⟨fun i hi => ⟨_, rfl, words ⟨i, hi⟩ ⟨t, ht⟩⟩, hN_all ⟨t, ht⟩⟩

set_option maxRecDepth 100000 in
set_option maxHeartbeats 4000000 in
theorem walk (w : World) (a0 : Int) (w0 : (Lit.int .i64 a0).wf = true) (hL : laidMetH Tryd.prog Rows.rulesCoveredRow.laid w) :
    Calls Tryd.prog 5 #[.int .i64 a0] w fun e w' => e = .returned (.bool true) ∧ Below w.heap.size w w' := by
  have HT := Lib.hid (tabs_laid (by kernel_rfl) hL (by simp [Rows.rulesCoveredRow]) (by simp [Rows.rulesCoveredRow]))
  obtain ⟨t, ht, h15⟩ := st15 a0
  obtain ⟨K, hK⟩ : ∃ K, 1 + (t : Int) = K := ⟨_, rfl⟩
  have HF := Lib.hid (facts t h15 K hK)
  have ht15 : (t : Int) < 15 := by omega
  clear hL w0 h15
  go_enter Tryd.func5, Tryd.ntmps5
  go_wp2_with fail
  refine (awake_any _ HT.out).mono ?_; rintro e W1 ⟨rfl, hb1⟩
  have HT1 := Lib.hid (HT.out.below hb1)
  have B1 := Lib.hid hb1
  clear hb1
  go_wp2_with fail
  have k1 : 1 ≤ K := by omega
  have k15 : K ≤ 15 := by omega
  clear hK ht ht15
  go_loopw [3, 4] (fun s3 s4 wr => ∃ (i : Nat) (h : Nat), i ≤ 10 ∧ s4 = .int .i64 ((i : Int) + 1) ∧ s3 = .int .i64 (h : Int) ∧ h ≤ 10 ∧ Hid (hN K i = h) ∧ Hid (h ≤ i) ∧ Hid (Tabs wr) ∧ Hid (Below w.heap.size w wr)) (fun _ s4 _ => 12 - (intOf s4).toNat)
  case atStart => exact ⟨0, 0, by omega, rfl, rfl, by omega, Lib.hid rfl, Lib.hid (by omega), HT1, B1⟩
  case round =>
    obtain ⟨i, h, hi, rfl, rfl, hh, hn, hhi, hT, hB⟩ := hrel
    by_cases hlt : i < 10
    · obtain ⟨o, ho, hcase⟩ := HF.out.words i hlt
      have HO := Lib.hid ho
      have hlt2 : (i : Int) + 1 ≤ 10 := by omega
      have HI := Lib.hid hlt
      have HI2 := Lib.hid hi
      clear ho hlt hi
      rcases hcase with rfl | rfl | ⟨rfl, hl⟩ | ⟨rfl, hi0, hl⟩ | ⟨rfl, hl⟩
      · go_wp2_with fail
        refine (of_any _ _ (WalkArith.wf_i64 (by omega)) _).mono ?_; rintro e W2 ⟨rfl, hb2⟩
        rw [HO.out]
        have hT2 := Lib.hid (hT.out.below hb2)
        have hB2 := Lib.hid (hB.out.trans (hb2.mono hB.out.size))
        clear hb2
        go_wp2_with fail
        obtain ⟨W5, hW5⟩ : ∃ W5, W5 = W2 := ⟨_, rfl⟩
        rw [← hW5] at hT2 hB2 ⊢
        clear hW5
        go_loopw [6, 7] (fun s6 s7 wr => ∃ q : Nat, q ≤ 11 ∧ s7 = .int .i64 ((q : Int) + 1) ∧ s6 = .bool (smB ((i : Int) + 1) q) ∧ Hid (Tabs wr) ∧ Hid (Below w.heap.size w wr)) (fun _ s7 _ => 13 - (intOf s7).toNat)
        case atStart => exact ⟨0, by omega, rfl, rfl, hT2, hB2⟩
        case round =>
          obtain ⟨q, hq, rfl, rfl, hT3, hB3⟩ := hrel
          by_cases hq2 : q < 11
          · have hq3 : (q : Int) + 1 ≤ 11 := by omega
            have HQ := Lib.hid hq2
            clear hq2 hq
            cases hsb : smB ((i : Int) + 1) q
            · have HSB := Lib.hid hsb
              clear hsb
              go_wp2_with fail
              refine (may_any _ _ _).mono ?_; rintro e W6 ⟨rfl, hb6⟩
              have hT6 := Lib.hid (hT3.out.below hb6)
              have hB6 := Lib.hid (hB3.out.trans (hb6.mono hB3.out.size))
              clear hb6
              go_wp2_with fail
              go_roundw
              case rel => exact ⟨q + 1, by have := HQ.out; omega, by go_num, by rw [smB, HSB.out, Bool.false_or], hT6, hB6⟩
              case measure => simp [intOf]; omega
            · have HSB := Lib.hid hsb
              clear hsb
              go_wp2_with fail
              go_roundw
              case rel => exact ⟨q + 1, by have := HQ.out; omega, by go_num, by rw [smB, HSB.out, Bool.true_or], hT3, hB3⟩
              case measure => simp [intOf]; omega
          · obtain rfl : q = 11 := by omega
            rw [show smB ((i : Int) + 1) 11 = true from sm_end i HI.out]
            go_wp2_with fail
            refine (may_any _ _ _).mono ?_; rintro e W6 ⟨rfl, hb6⟩
            rw [show mayI ((i : Int) + 1) 7 = (((i : Int) + 1) == 10) from may7 ⟨i, HI.out⟩]
            have hT6 := Lib.hid (hT3.out.below hb6)
            have hB6 := Lib.hid (hB3.out.trans (hb6.mono hB3.out.size))
            clear hb6
            have hbb2 : ((((i : Int) + 1) == (10 : Int)) != (((i : Int) + 1) == (10 : Int))) = false := by simp
            go_wp2_with fail
            go_roundw
            case rel => exact ⟨i + 1, h, by have := HI.out; omega, by go_num, by go_num, by have := hhi.out; have := HI.out; omega, Lib.hid (by rw [hN_step0 (by rw [HO.out]; decide)]; exact hn.out), Lib.hid (by have := hhi.out; omega), hT6, hB6⟩
            case measure => simp [intOf]; omega
      · go_wp2_with fail
        refine (of_any _ _ (WalkArith.wf_i64 (by omega)) _).mono ?_; rintro e W2 ⟨rfl, hb2⟩
        rw [HO.out]
        have hT2 := Lib.hid (hT.out.below hb2)
        have hB2 := Lib.hid (hB.out.trans (hb2.mono hB.out.size))
        clear hb2
        go_wp2_with fail
        obtain ⟨W5, hW5⟩ : ∃ W5, W5 = W2 := ⟨_, rfl⟩
        rw [← hW5] at hT2 hB2 ⊢
        clear hW5
        go_loopw [6, 7] (fun s6 s7 wr => ∃ q : Nat, q ≤ 11 ∧ s7 = .int .i64 ((q : Int) + 1) ∧ s6 = .bool (smB ((i : Int) + 1) q) ∧ Hid (Tabs wr) ∧ Hid (Below w.heap.size w wr)) (fun _ s7 _ => 13 - (intOf s7).toNat)
        case atStart => exact ⟨0, by omega, rfl, rfl, hT2, hB2⟩
        case round =>
          obtain ⟨q, hq, rfl, rfl, hT3, hB3⟩ := hrel
          by_cases hq2 : q < 11
          · have hq3 : (q : Int) + 1 ≤ 11 := by omega
            have HQ := Lib.hid hq2
            clear hq2 hq
            cases hsb : smB ((i : Int) + 1) q
            · have HSB := Lib.hid hsb
              clear hsb
              go_wp2_with fail
              refine (may_any _ _ _).mono ?_; rintro e W6 ⟨rfl, hb6⟩
              have hT6 := Lib.hid (hT3.out.below hb6)
              have hB6 := Lib.hid (hB3.out.trans (hb6.mono hB3.out.size))
              clear hb6
              go_wp2_with fail
              go_roundw
              case rel => exact ⟨q + 1, by have := HQ.out; omega, by go_num, by rw [smB, HSB.out, Bool.false_or], hT6, hB6⟩
              case measure => simp [intOf]; omega
            · have HSB := Lib.hid hsb
              clear hsb
              go_wp2_with fail
              go_roundw
              case rel => exact ⟨q + 1, by have := HQ.out; omega, by go_num, by rw [smB, HSB.out, Bool.true_or], hT3, hB3⟩
              case measure => simp [intOf]; omega
          · obtain rfl : q = 11 := by omega
            rw [show smB ((i : Int) + 1) 11 = true from sm_end i HI.out]
            go_wp2_with fail
            refine (may_any _ _ _).mono ?_; rintro e W6 ⟨rfl, hb6⟩
            rw [show mayI ((i : Int) + 1) 7 = (((i : Int) + 1) == 10) from may7 ⟨i, HI.out⟩]
            have hT6 := Lib.hid (hT3.out.below hb6)
            have hB6 := Lib.hid (hB3.out.trans (hb6.mono hB3.out.size))
            clear hb6
            have hbb2 : ((((i : Int) + 1) == (10 : Int)) != (((i : Int) + 1) == (10 : Int))) = false := by simp
            go_wp2_with fail
            go_roundw
            case rel => exact ⟨i + 1, h + 1, by have := HI.out; omega, by go_num, by go_num, by have := hhi.out; have := HI.out; omega, Lib.hid (by rw [hN_step1 HO.out, hn.out]), Lib.hid (by have := hhi.out; omega), hT6, hB6⟩
            case measure => simp [intOf]; omega
      · go_wp2_with fail
        refine (of_any _ _ (WalkArith.wf_i64 (by omega)) _).mono ?_; rintro e W2 ⟨rfl, hb2⟩
        rw [HO.out]
        have hT2 := Lib.hid (hT.out.below hb2)
        have hB2 := Lib.hid (hB.out.trans (hb2.mono hB.out.size))
        clear hb2
        go_wp2_with fail
        refine (letter_any _ _ hT2.out).mono ?_; rintro e W4 ⟨rfl, rfl⟩
        obtain ⟨z, hz⟩ : ∃ z, letterI K = z := ⟨_, rfl⟩
        rw [hz] at hl ⊢
        have hz2 : (z == 0) = false := by simpa using hl
        clear hz hl
        go_wp2_with fail
        obtain ⟨W5, hW5⟩ : ∃ W5, W5 = W2 := ⟨_, rfl⟩
        rw [← hW5] at hT2 hB2 ⊢
        clear hW5
        go_loopw [6, 7] (fun s6 s7 wr => ∃ q : Nat, q ≤ 11 ∧ s7 = .int .i64 ((q : Int) + 1) ∧ s6 = .bool (smB ((i : Int) + 1) q) ∧ Hid (Tabs wr) ∧ Hid (Below w.heap.size w wr)) (fun _ s7 _ => 13 - (intOf s7).toNat)
        case atStart => exact ⟨0, by omega, rfl, rfl, hT2, hB2⟩
        case round =>
          obtain ⟨q, hq, rfl, rfl, hT3, hB3⟩ := hrel
          by_cases hq2 : q < 11
          · have hq3 : (q : Int) + 1 ≤ 11 := by omega
            have HQ := Lib.hid hq2
            clear hq2 hq
            cases hsb : smB ((i : Int) + 1) q
            · have HSB := Lib.hid hsb
              clear hsb
              go_wp2_with fail
              refine (may_any _ _ _).mono ?_; rintro e W6 ⟨rfl, hb6⟩
              have hT6 := Lib.hid (hT3.out.below hb6)
              have hB6 := Lib.hid (hB3.out.trans (hb6.mono hB3.out.size))
              clear hb6
              go_wp2_with fail
              go_roundw
              case rel => exact ⟨q + 1, by have := HQ.out; omega, by go_num, by rw [smB, HSB.out, Bool.false_or], hT6, hB6⟩
              case measure => simp [intOf]; omega
            · have HSB := Lib.hid hsb
              clear hsb
              go_wp2_with fail
              go_roundw
              case rel => exact ⟨q + 1, by have := HQ.out; omega, by go_num, by rw [smB, HSB.out, Bool.true_or], hT3, hB3⟩
              case measure => simp [intOf]; omega
          · obtain rfl : q = 11 := by omega
            rw [show smB ((i : Int) + 1) 11 = true from sm_end i HI.out]
            go_wp2_with fail
            refine (may_any _ _ _).mono ?_; rintro e W6 ⟨rfl, hb6⟩
            rw [show mayI ((i : Int) + 1) 7 = (((i : Int) + 1) == 10) from may7 ⟨i, HI.out⟩]
            have hT6 := Lib.hid (hT3.out.below hb6)
            have hB6 := Lib.hid (hB3.out.trans (hb6.mono hB3.out.size))
            clear hb6
            have hbb2 : ((((i : Int) + 1) == (10 : Int)) != (((i : Int) + 1) == (10 : Int))) = false := by simp
            go_wp2_with fail
            go_roundw
            case rel => exact ⟨i + 1, h, by have := HI.out; omega, by go_num, by go_num, by have := hhi.out; have := HI.out; omega, Lib.hid (by rw [hN_step0 (by rw [HO.out]; decide)]; exact hn.out), Lib.hid (by have := hhi.out; omega), hT6, hB6⟩
            case measure => simp [intOf]; omega
      · have hi1 : ((i : Int) + 1 != 1) = false := by subst hi0; rfl
        clear hi0
        go_wp2_with fail
        refine (of_any _ _ (WalkArith.wf_i64 (by omega)) _).mono ?_; rintro e W2 ⟨rfl, hb2⟩
        rw [HO.out]
        have hT2 := Lib.hid (hT.out.below hb2)
        have hB2 := Lib.hid (hB.out.trans (hb2.mono hB.out.size))
        clear hb2
        go_wp2_with fail
        refine (letter_any _ _ hT2.out).mono ?_; rintro e W4 ⟨rfl, rfl⟩
        obtain ⟨z, hz⟩ : ∃ z, letterI K = z := ⟨_, rfl⟩
        rw [hz] at hl ⊢
        have hz2 : (z == 0) = false := by simpa using hl
        clear hz hl
        go_wp2_with fail
        obtain ⟨W5, hW5⟩ : ∃ W5, W5 = W2 := ⟨_, rfl⟩
        rw [← hW5] at hT2 hB2 ⊢
        clear hW5
        go_loopw [6, 7] (fun s6 s7 wr => ∃ q : Nat, q ≤ 11 ∧ s7 = .int .i64 ((q : Int) + 1) ∧ s6 = .bool (smB ((i : Int) + 1) q) ∧ Hid (Tabs wr) ∧ Hid (Below w.heap.size w wr)) (fun _ s7 _ => 13 - (intOf s7).toNat)
        case atStart => exact ⟨0, by omega, rfl, rfl, hT2, hB2⟩
        case round =>
          obtain ⟨q, hq, rfl, rfl, hT3, hB3⟩ := hrel
          by_cases hq2 : q < 11
          · have hq3 : (q : Int) + 1 ≤ 11 := by omega
            have HQ := Lib.hid hq2
            clear hq2 hq
            cases hsb : smB ((i : Int) + 1) q
            · have HSB := Lib.hid hsb
              clear hsb
              go_wp2_with fail
              refine (may_any _ _ _).mono ?_; rintro e W6 ⟨rfl, hb6⟩
              have hT6 := Lib.hid (hT3.out.below hb6)
              have hB6 := Lib.hid (hB3.out.trans (hb6.mono hB3.out.size))
              clear hb6
              go_wp2_with fail
              go_roundw
              case rel => exact ⟨q + 1, by have := HQ.out; omega, by go_num, by rw [smB, HSB.out, Bool.false_or], hT6, hB6⟩
              case measure => simp [intOf]; omega
            · have HSB := Lib.hid hsb
              clear hsb
              go_wp2_with fail
              go_roundw
              case rel => exact ⟨q + 1, by have := HQ.out; omega, by go_num, by rw [smB, HSB.out, Bool.true_or], hT3, hB3⟩
              case measure => simp [intOf]; omega
          · obtain rfl : q = 11 := by omega
            rw [show smB ((i : Int) + 1) 11 = true from sm_end i HI.out]
            go_wp2_with fail
            refine (may_any _ _ _).mono ?_; rintro e W6 ⟨rfl, hb6⟩
            rw [show mayI ((i : Int) + 1) 7 = (((i : Int) + 1) == 10) from may7 ⟨i, HI.out⟩]
            have hT6 := Lib.hid (hT3.out.below hb6)
            have hB6 := Lib.hid (hB3.out.trans (hb6.mono hB3.out.size))
            clear hb6
            have hbb2 : ((((i : Int) + 1) == (10 : Int)) != (((i : Int) + 1) == (10 : Int))) = false := by simp
            go_wp2_with fail
            go_roundw
            case rel => exact ⟨i + 1, h, by have := HI.out; omega, by go_num, by go_num, by have := hhi.out; have := HI.out; omega, Lib.hid (by rw [hN_step0 (by rw [HO.out]; decide)]; exact hn.out), Lib.hid (by have := hhi.out; omega), hT6, hB6⟩
            case measure => simp [intOf]; omega
      · go_wp2_with fail
        refine (of_any _ _ (WalkArith.wf_i64 (by omega)) _).mono ?_; rintro e W2 ⟨rfl, hb2⟩
        rw [HO.out]
        have hT2 := Lib.hid (hT.out.below hb2)
        have hB2 := Lib.hid (hB.out.trans (hb2.mono hB.out.size))
        clear hb2
        go_wp2_with fail
        refine (letter_any _ _ hT2.out).mono ?_; rintro e W4 ⟨rfl, rfl⟩
        obtain ⟨z, hz⟩ : ∃ z, letterI K = z := ⟨_, rfl⟩
        rw [hz] at hl ⊢
        have hz2 : (z == 0) = false := by simpa using hl
        clear hz hl
        go_wp2_with fail
        obtain ⟨W5, hW5⟩ : ∃ W5, W5 = W2 := ⟨_, rfl⟩
        rw [← hW5] at hT2 hB2 ⊢
        clear hW5
        go_loopw [6, 7] (fun s6 s7 wr => ∃ q : Nat, q ≤ 11 ∧ s7 = .int .i64 ((q : Int) + 1) ∧ s6 = .bool (smB ((i : Int) + 1) q) ∧ Hid (Tabs wr) ∧ Hid (Below w.heap.size w wr)) (fun _ s7 _ => 13 - (intOf s7).toNat)
        case atStart => exact ⟨0, by omega, rfl, rfl, hT2, hB2⟩
        case round =>
          obtain ⟨q, hq, rfl, rfl, hT3, hB3⟩ := hrel
          by_cases hq2 : q < 11
          · have hq3 : (q : Int) + 1 ≤ 11 := by omega
            have HQ := Lib.hid hq2
            clear hq2 hq
            cases hsb : smB ((i : Int) + 1) q
            · have HSB := Lib.hid hsb
              clear hsb
              go_wp2_with fail
              refine (may_any _ _ _).mono ?_; rintro e W6 ⟨rfl, hb6⟩
              have hT6 := Lib.hid (hT3.out.below hb6)
              have hB6 := Lib.hid (hB3.out.trans (hb6.mono hB3.out.size))
              clear hb6
              go_wp2_with fail
              go_roundw
              case rel => exact ⟨q + 1, by have := HQ.out; omega, by go_num, by rw [smB, HSB.out, Bool.false_or], hT6, hB6⟩
              case measure => simp [intOf]; omega
            · have HSB := Lib.hid hsb
              clear hsb
              go_wp2_with fail
              go_roundw
              case rel => exact ⟨q + 1, by have := HQ.out; omega, by go_num, by rw [smB, HSB.out, Bool.true_or], hT3, hB3⟩
              case measure => simp [intOf]; omega
          · obtain rfl : q = 11 := by omega
            rw [show smB ((i : Int) + 1) 11 = true from sm_end i HI.out]
            go_wp2_with fail
            refine (may_any _ _ _).mono ?_; rintro e W6 ⟨rfl, hb6⟩
            rw [show mayI ((i : Int) + 1) 7 = (((i : Int) + 1) == 10) from may7 ⟨i, HI.out⟩]
            have hT6 := Lib.hid (hT3.out.below hb6)
            have hB6 := Lib.hid (hB3.out.trans (hb6.mono hB3.out.size))
            clear hb6
            have hbb2 : ((((i : Int) + 1) == (10 : Int)) != (((i : Int) + 1) == (10 : Int))) = false := by simp
            go_wp2_with fail
            go_roundw
            case rel => exact ⟨i + 1, h, by have := HI.out; omega, by go_num, by go_num, by have := hhi.out; have := HI.out; omega, Lib.hid (by rw [hN_step0 (by rw [HO.out]; decide)]; exact hn.out), Lib.hid (by have := hhi.out; omega), hT6, hB6⟩
            case measure => simp [intOf]; omega
    · obtain rfl : i = 10 := by omega
      have hpos : 1 ≤ h := by have := HF.out.all; rw [hn.out] at this; exact this
      have hpos2 : decide ((1:Int) ≤ (h : Int)) = true := decide_eq_true (by omega)
      go_wp2_with fail
      go_ret
      exact ⟨rfl, hB.out⟩

theorem own : ownKnob Tryd.prog.godebug = none := by kernel_rfl
theorem laidOut : laidOutB Tryd.prog = true := by kernel_rfl

set_option maxRecDepth 100000 in
theorem lifted (os : Os) (started : os.Started) (H : Type) (enc : TypeId × Value → H) :
    ReturnsInHanded {} Tryd.checked os 5 .any (fun w args => (Rows.rulesCoveredSpec.pre enc Tryd.prog Tryd.f5 Rows.rulesCoveredRow.domain false w args ∧ laidMetH Tryd.prog Rows.rulesCoveredRow.laid w) ∧ sizedMet enc Tryd.prog Tryd.f5 (OpenSpec.ofChange Rows.rulesCoveredSpec) false w args) (Rows.rulesCoveredSpec.post enc Tryd.prog Tryd.f5 false true false false) := by
  refine Base.law_laid (C := Tryd.checked) own started (by kernel_rfl) Tryd.func5 laidOut (by kernel_rfl) rfl Tryd.underlying4 rfl ?_
    (Base.laid_witness #[.int .i64 0] (World.shaped_of_ZipB (by kernel_rfl) (by kernel_rfl)) (by kernel_rfl) (by kernel_rfl) (by kernel_rfl) (by rw [MakeChecks.laidMetH_plain _ _ _ (by kernel_rfl)]; exact laidMet_laidAll _ (by kernel_rfl) (by kernel_rfl))) ?_
  · intro ds h
    match ds, h with
    | [_d0], _ => exact ⟨rfl, rfl, rfl⟩
  · intro W base args ds before hval0 hA0 hlt hsz hL
    have hval : ∀ (j : Nat) t v, Tryd.f5.params[j]? = some t → args[j]? = some v → Value.okWide Tryd.prog W .any base t v := hval0
    have hA : DataW.TrodAll enc Tryd.prog W 0 (fun _ => true) true Tryd.f5.params.toList args.toList ds before := hA0
    clear hval0 hA0
    rw [Tryd.params5] at hA hval hsz
    obtain ⟨v0, vs0, d0, ds0, p0, q0, hargs, rfl, rfl, h0, r0⟩ := trodAll_cons hA
    obtain ⟨rfl, rfl, rfl⟩ := trodAll_nil r0
    obtain rfl : args = #[v0] := by cases args; simp_all
    obtain ⟨a0, rfl, rfl, rfl, w0⟩ := open_int Tryd.underlying3 (hval 0 3 v0 rfl rfl) h0
    exact walk W a0 w0 hL

theorem over : Rows.rulesCoveredRow.holds Tryd.pinned (OpenSpec.ofChange Rows.rulesCoveredSpec) :=
  OpenClaim.holds_of_wide 5 Tryd.f5 rfl rfl rfl rfl rfl rfl rfl ⟨rfl, rfl, rfl, rfl, rfl⟩ rfl rfl rfl rfl rfl (by kernel_rfl) Tryd.func5 (by kernel_rfl)
    (of_decide_eq_true (by kernel_rfl)) (by unfold Func.isWrapper; first | (rw [if_pos (by decide +kernel)]; kernel_rfl) | (rw [if_neg (by decide +kernel)]; exact ⟨rfl, rfl⟩))
    (fun os started H enc _ => lifted os started H enc)

theorem proved : Rows.RulesCoveredCardSaid :=
  Claim7.holds_tied_plain_at .later [] [.data, .data] true Rows.rulesCoveredCard.stood.harness false over (fun _ h => by cases h) (by kernel_rfl) (fun _ h => by cases h) rulesCovered_row_tie rfl ⟨rfl, rfl⟩ (by kernel_rfl) rfl
    (fun f fn hf hfn => by
      obtain rfl : f = 5 := Option.some.inj ((show Tryd.prog.funcNamed Rows.rulesCoveredRow.func = some 5 by kernel_rfl).symm.trans hf) |>.symm
      obtain rfl : fn = Tryd.f5 := (Option.some.inj (Tryd.func5.symm.trans hfn)).symm
      exact ⟨by kernel_rfl, fun j t ht => by
        rw [Tryd.params5] at ht
        have hm : t ∈ [3] := by simpa using Array.mem_of_getElem? ht
        have hall : ([3].all fun u => !Tryd.prog.wantsStandIn u) = true := by kernel_rfl
        exact (show Tryd.prog.wantsStandIn t = false by simpa using List.all_eq_true.1 hall t hm)⟩)
    (by kernel_rfl)
#print axioms proved
end Go.Proofs.YtdjhibahjpibjaaDoor.rulesCovered
