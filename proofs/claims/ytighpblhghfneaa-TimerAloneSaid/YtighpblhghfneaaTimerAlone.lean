/-
  TimerAlone is proved: a timer that is let alone is over at its tick, and then only, whatever others do; for every input the law returns true.
-/
import Derived.Test.YtighpblhghfneaaBase
import Derived.Test.YtighpblhghfneaaLaw08
import Derived.Laws.BitsLemmas
import Derived.Deep.DeepCutAuto
namespace Go.Proofs.Ytighpblhghfneaa.timerAlone
open Go.ChangeShapes Go.WideShapes Go.ChangeAt Go.RowKit
set_option linter.unusedVariables false      -- a walk need not use every bound of an argument

open Bank View

theorem and255 (n : Int) : bits .and .i64 n 255 = n % 256 := by
  have h31 : (BitVec.ofInt 64 255).toNat = 2 ^ 8 - 1 := by decide
  have key : (BitVec.ofInt 64 n &&& BitVec.ofInt 64 255).toNat = (n % ((2 ^ 64 : Nat) : Int)).toNat % 2 ^ 8 := by
    rw [BitVec.toNat_and, BitVec.toNat_ofInt, h31, Nat.and_two_pow_sub_one_eq_mod]
  show IntKind.i64.wrap ((BitVec.ofInt 64 n &&& BitVec.ofInt 64 255).toNat : Nat) = n % 256
  rw [key, IntKind.wrap_i64]
  omega
theorem five_at (n : Int) : ∃ t : Nat, (bits .and .i64 n 255).tmod 5 = (t : Int) ∧ bits .and .i64 n 255 % 5 = (t : Int) ∧ t < 5 := by
  rw [and255]
  refine ⟨(n % 256 % 5).toNat, ?_, by omega, by omega⟩
  rw [Int.tmod_eq_emod_of_nonneg (by omega)]; omega
theorem count_succ (O : List Int) (t : Int) (j : Nat) (h : j < O.length) : (O.take (j + 1)).count t = (O.take j).count t + if O.getD j 0 = t then 1 else 0 := by
  rw [View.take_succ' O 0 j h, List.count_append]
  by_cases e : O.getD j 0 = t
  · rw [if_pos e, e]; simp
  · rw [if_neg e, List.count_cons_of_ne e]; rfl

set_option maxRecDepth 100000 in
set_option maxHeartbeats 400000 in
theorem walk (w : World) (a0 : Int) (w0 : (Lit.int .i64 a0).wf = true) (a1 : Int) (w1 : (Lit.int .i64 a1).wf = true) (a2 : Int) (w2 : (Lit.int .i64 a2).wf = true) :
    Calls Try.prog 4 #[.int .i64 a0, .int .i64 a1, .int .i64 a2] w fun e w' => e = .returned (.bool true) ∧ Below w.heap.size w w' := by
  obtain ⟨x1, x2⟩ := bounds_i64 w0
  obtain ⟨y1, y2⟩ := bounds_i64 w1
  obtain ⟨z1, z2⟩ := bounds_i64 w2
  clear w0 w1 w2
  go_enter Try.func4, Try.ntmps4
  go_wp2_with fail
  refine (awake_any _).mono ?_; rintro e x1 ⟨rfl, hb1⟩
  have HB1 := Lib.hid hb1
  clear hb1
  go_upto_region 3 with (fail)
  go_cut [0, 1] (fun s0 s1 wx => ∃ t n : Nat, s0 = .int .i64 (t : Int) ∧ s1 = .int .i64 (n : Int) ∧ t < 5 ∧ 1 ≤ n ∧ n ≤ 300 ∧ wx = x1)
  case first =>
    obtain ⟨n, hn, hn1, hn2⟩ : ∃ n : Nat, max 1 (min a1 300) = (n : Int) ∧ 1 ≤ n ∧ n ≤ 300 := ⟨(max 1 (min a1 300)).toNat, by omega, by omega, by omega⟩
    have HN := Lib.hid hn
    clear hn
    go_wp2_with fail
    all_goals go_meet
    all_goals
      obtain ⟨t, ht, ht2, ht5⟩ := five_at a0
      exact ⟨t, n, congrArg (Value.int .i64) ht, congrArg (Value.int .i64) (by clear ht ht2; have := HN.out; omega), ht5, hn1, hn2, rfl⟩
  case rest =>
    obtain ⟨t, n, rfl, rfl, ht5, hn1, hn2, rfl⟩ := hcut
    go_wp2_with fail
    refine (start_own (t : Int) (n : Int) (mine_new HB1.out HB1.out.size)).mono ?_; rintro e x2 ⟨⟨_, rfl⟩, h2, _⟩
    have hL5 := h2.2.2.2.len
    have hLt : (startL zeroL (t : Int) (n : Int)).getD t 0 = n := by rw [getD_start rfl t t _ ht5, if_pos rfl, clampN_of rfl hn1 (by omega)]
    generalize startL zeroL (t : Int) (n : Int) = L at *
    have HLt := Lib.hid hLt
    have hB := h2.2.2.2
    obtain ⟨c0, c1, c2, c3, c4⟩ := bank_cells hB
    obtain ⟨a, b, c, d, e, hLe⟩ := five_of hL5
    rw [hLe] at c0 c1 c2 c3 c4
    simp only [List.getD_cons_zero, List.getD_cons_succ] at c0 c1 c2 c3 c4
    have HBC : Hid (wc.heap.size ≠ x2.heap.size) := Lib.hid (by have := hB.lt; omega)
    have HC0 := Lib.hid (mine_copy (a := a) (b := b) (c := c) (d := d) (e := e) h2.1 h2.2.1 (by rw [← hLe]; exact hB.top))
    have HB0 := Lib.hid (h2.only (Only.of_below (B := x2.heap.size) ((Below.refl _ x2).alloc (Nat.le_refl _) (.cells #[.int .i64 (a : Int), .int .i64 (b : Int), .int .i64 (c : Int), .int .i64 (d : Int), .int .i64 (e : Int)] 26))) HBC.out h2.2.1)
    rw [← hLe] at HC0
    clear h2 hLt hB hL5 hLe
    go_wp2_with fail
    generalize x2.alloc (.cells #[.int .i64 (a : Int), .int .i64 (b : Int), .int .i64 (c : Int), .int .i64 (d : Int), .int .i64 (e : Int)] 26) = W0 at *
    generalize x2.heap.size = C at *
    generalize wc.heap.size = B at *
    have HCB := HBC
    clear c0 c1 c2 c3 c4 HBC
    go_loopw [9] (fun s9 wr => ∃ (i : Nat) (L1 : List Nat), 1 ≤ i ∧ i ≤ n + 4 ∧ s9 = .int .i64 (i : Int) ∧ Hid (Mine w w.heap.size B L1 wr) ∧ Hid (L1.getD t 0 = n + 1 - i) ∧ Hid (Mine w w.heap.size C L wr)) (fun s9 _ => n + 4 - (intOf s9).toNat)
    case atStart => exact ⟨1, L, Nat.le_refl _, by omega, rfl, HB0, Lib.hid (by rw [HLt.out]; omega), HC0⟩
    case round =>
      obtain ⟨i, L1, hi1, hi2, rfl, hm, hg, hc⟩ := hrel
      by_cases hgo : i ≤ n + 3
      · by_cases hoth : 0 < a2
        · by_cases ht1 : t = 1
          · have htd : (((t : Nat) : Int) == 1) = true := by simp; omega
            have htd2 : (((t : Nat) : Int) != 1) = false := by simp; omega
            clear ht1
            go_wp2_with fail
            refine (tick_own hm.out).mono ?_; rintro e x4 ⟨a4, c4, rfl, hr, h4, ho4⟩
            have hcnt := count_overs L1 t 5
            rw [hg.out] at hcnt
            have HR := Lib.hid hr
            have H4 := Lib.hid h4
            have HC4 := Lib.hid (hc.out.only ho4 HCB.out.symm (hm.out.2.2.1))
            have HG4 : Hid ((tickL L1).getD t 0 = n + 1 - (i + 1)) := Lib.hid (by rw [getD_tick, hg.out]; omega)
            have HCN := Lib.hid hcnt
            have HO5 := Lib.hid (overs_len L1 5)
            obtain ⟨O, hO⟩ : ∃ O, oversL L1 = O := ⟨_, rfl⟩
            have hO2 : oversTo L1 5 = O := hO
            rw [hO2] at HCN HO5
            rw [hO] at HR ⊢
            clear hr h4 hcnt ho4 hO hO2
            obtain ⟨m, hm⟩ : ∃ m, O.length = m := ⟨_, rfl⟩
            rw [hm] at HR HO5 ⊢
            have HM := Lib.hid hm
            have hm5 : m ≤ 5 := HO5.out
            clear hm
            go_wp2_with fail
            go_loop [10, 43] (fun s10 s43 => ∃ j q : Nat, j ≤ m ∧ s43 = .int .i64 (j : Int) ∧ s10 = .int .i64 (q : Int) ∧ Hid ((O.take j).count (t : Int) = q) ∧ q ≤ j) (fun _ s43 => m - (intOf s43).toNat)
            case atStart => exact ⟨0, 0, Nat.zero_le _, rfl, rfl, Lib.hid (by simp), Nat.le_refl _⟩
            case round =>
              obtain ⟨j, q, hj, rfl, rfl, hq, hqj⟩ := hrel
              by_cases hlt : j < m
              · obtain ⟨b, off, rfl, _, hc⟩ := HR.out.at_ hlt
                have hjl : j < O.length := by have := HM.out; omega
                have hst := count_succ O (t : Int) j hjl
                rw [hq.out] at hst
                obtain ⟨y, hy⟩ : ∃ y, O.getD j 0 = y := ⟨_, rfl⟩
                rw [hy] at hst hc
                have HST := Lib.hid hst
                clear hst hy
                by_cases hyt : y = (t : Int)
                · have hd : (y == (t : Int)) = true := by simpa using hyt
                  go_wp2_with fail
                  go_round
                  case rel => exact ⟨j + 1, q + 1, by omega, by go_num, by go_num, Lib.hid (by rw [HST.out, if_pos hyt]), by omega⟩
                  case measure => simp [intOf]; omega
                · have hd : (y == (t : Int)) = false := by simpa using hyt
                  go_wp2_with fail
                  go_round
                  case rel => exact ⟨j + 1, q, by omega, by go_num, rfl, Lib.hid (by rw [HST.out, if_neg hyt, Nat.add_zero]), by omega⟩
                  case measure => simp [intOf]; omega
              · have hjm : j = m := by omega
                subst hjm
                have hq2 : q = if t < 5 ∧ n + 1 - i = 1 then 1 else 0 := by
                  rw [← HCN.out, ← hq.out, List.take_of_length_le (by have := HM.out; omega)]
                by_cases hend : i = n
                · have hq3 : q = 1 := by rw [hq2, if_pos ⟨ht5, by omega⟩]
                  clear hq2
                  subst hq3
                  have hd1 : (decide (i = n)) = true := decide_eq_true hend
                  have hd2 : (((i : Nat) : Int) == (n : Int)) = true := by simp; omega
                  go_wp2_with fail
                  go_roundw
                  case rel => exact ⟨i + 1, _, by omega, by omega, by go_num, H4, HG4, HC4⟩
                  case measure => simp [intOf]; omega
                · have hq3 : q = 0 := by rw [hq2, if_neg (fun h => hend (by omega))]
                  clear hq2
                  subst hq3
                  have hd2 : (((i : Nat) : Int) == (n : Int)) = false := by simp; omega
                  go_wp2_with fail
                  go_roundw
                  case rel => exact ⟨i + 1, _, by omega, by omega, by go_num, H4, HG4, HC4⟩
                  case measure => simp [intOf]; omega
          · have htd : (((t : Nat) : Int) == 1) = false := by simp; omega
            have htd2 : (((t : Nat) : Int) != 1) = true := by simp; omega
            go_wp2_with fail
            refine (start_own 1 _ hm.out).mono ?_; rintro e x3 ⟨⟨_, rfl⟩, h3, ho3⟩
            have HC3 := Lib.hid (hc.out.only ho3 HCB.out.symm hm.out.2.2.1)
            have HG3 : (startL L1 1 (wrap64 (1 + bits .and .i64 a2 7))).getD t 0 = n + 1 - i := by
              have := getD_start hm.out.2.2.2.len 1 t (wrap64 (1 + bits .and .i64 a2 7)) (by omega)
              rw [if_neg ht1] at this
              exact this.trans hg.out
            generalize startL L1 1 (wrap64 (1 + bits .and .i64 a2 7)) = L2 at h3 HG3
            have HS3 := Lib.hid h3
            have HG3 := Lib.hid HG3
            clear h3 ho3 hm hg hc ht1
            go_wp2_with fail
            refine (tick_own HS3.out).mono ?_; rintro e x4 ⟨a4, c4, rfl, hr, h4, ho4⟩
            have hcnt := count_overs L2 t 5
            rw [HG3.out] at hcnt
            have HR := Lib.hid hr
            have H4 := Lib.hid h4
            have HC4 := Lib.hid (HC3.out.only ho4 HCB.out.symm (HS3.out.2.2.1))
            have HG4 : Hid ((tickL L2).getD t 0 = n + 1 - (i + 1)) := Lib.hid (by rw [getD_tick, HG3.out]; omega)
            have HCN := Lib.hid hcnt
            have HO5 := Lib.hid (overs_len L2 5)
            obtain ⟨O, hO⟩ : ∃ O, oversL L2 = O := ⟨_, rfl⟩
            have hO2 : oversTo L2 5 = O := hO
            rw [hO2] at HCN HO5
            rw [hO] at HR ⊢
            clear hr h4 hcnt ho4 hO hO2
            obtain ⟨m, hm⟩ : ∃ m, O.length = m := ⟨_, rfl⟩
            rw [hm] at HR HO5 ⊢
            have HM := Lib.hid hm
            have hm5 : m ≤ 5 := HO5.out
            clear hm
            go_wp2_with fail
            go_loop [10, 43] (fun s10 s43 => ∃ j q : Nat, j ≤ m ∧ s43 = .int .i64 (j : Int) ∧ s10 = .int .i64 (q : Int) ∧ Hid ((O.take j).count (t : Int) = q) ∧ q ≤ j) (fun _ s43 => m - (intOf s43).toNat)
            case atStart => exact ⟨0, 0, Nat.zero_le _, rfl, rfl, Lib.hid (by simp), Nat.le_refl _⟩
            case round =>
              obtain ⟨j, q, hj, rfl, rfl, hq, hqj⟩ := hrel
              by_cases hlt : j < m
              · obtain ⟨b, off, rfl, _, hc⟩ := HR.out.at_ hlt
                have hjl : j < O.length := by have := HM.out; omega
                have hst := count_succ O (t : Int) j hjl
                rw [hq.out] at hst
                obtain ⟨y, hy⟩ : ∃ y, O.getD j 0 = y := ⟨_, rfl⟩
                rw [hy] at hst hc
                have HST := Lib.hid hst
                clear hst hy
                by_cases hyt : y = (t : Int)
                · have hd : (y == (t : Int)) = true := by simpa using hyt
                  go_wp2_with fail
                  go_round
                  case rel => exact ⟨j + 1, q + 1, by omega, by go_num, by go_num, Lib.hid (by rw [HST.out, if_pos hyt]), by omega⟩
                  case measure => simp [intOf]; omega
                · have hd : (y == (t : Int)) = false := by simpa using hyt
                  go_wp2_with fail
                  go_round
                  case rel => exact ⟨j + 1, q, by omega, by go_num, rfl, Lib.hid (by rw [HST.out, if_neg hyt, Nat.add_zero]), by omega⟩
                  case measure => simp [intOf]; omega
              · have hjm : j = m := by omega
                subst hjm
                have hq2 : q = if t < 5 ∧ n + 1 - i = 1 then 1 else 0 := by
                  rw [← HCN.out, ← hq.out, List.take_of_length_le (by have := HM.out; omega)]
                by_cases hend : i = n
                · have hq3 : q = 1 := by rw [hq2, if_pos ⟨ht5, by omega⟩]
                  clear hq2
                  subst hq3
                  have hd1 : (decide (i = n)) = true := decide_eq_true hend
                  have hd2 : (((i : Nat) : Int) == (n : Int)) = true := by simp; omega
                  go_wp2_with fail
                  go_roundw
                  case rel => exact ⟨i + 1, _, by omega, by omega, by go_num, H4, HG4, HC4⟩
                  case measure => simp [intOf]; omega
                · have hq3 : q = 0 := by rw [hq2, if_neg (fun h => hend (by omega))]
                  clear hq2
                  subst hq3
                  have hd2 : (((i : Nat) : Int) == (n : Int)) = false := by simp; omega
                  go_wp2_with fail
                  go_roundw
                  case rel => exact ⟨i + 1, _, by omega, by omega, by go_num, H4, HG4, HC4⟩
                  case measure => simp [intOf]; omega
        · have hod : decide (0 < a2) = false := decide_eq_false hoth
          go_wp2_with fail
          refine (tick_own hm.out).mono ?_; rintro e x4 ⟨a4, c4, rfl, hr, h4, ho4⟩
          have hcnt := count_overs L1 t 5
          rw [hg.out] at hcnt
          have HR := Lib.hid hr
          have H4 := Lib.hid h4
          have HC4 := Lib.hid (hc.out.only ho4 HCB.out.symm (hm.out.2.2.1))
          have HG4 : Hid ((tickL L1).getD t 0 = n + 1 - (i + 1)) := Lib.hid (by rw [getD_tick, hg.out]; omega)
          have HCN := Lib.hid hcnt
          have HO5 := Lib.hid (overs_len L1 5)
          obtain ⟨O, hO⟩ : ∃ O, oversL L1 = O := ⟨_, rfl⟩
          have hO2 : oversTo L1 5 = O := hO
          rw [hO2] at HCN HO5
          rw [hO] at HR ⊢
          clear hr h4 hcnt ho4 hO hO2
          obtain ⟨m, hm⟩ : ∃ m, O.length = m := ⟨_, rfl⟩
          rw [hm] at HR HO5 ⊢
          have HM := Lib.hid hm
          have hm5 : m ≤ 5 := HO5.out
          clear hm
          go_wp2_with fail
          go_loop [10, 43] (fun s10 s43 => ∃ j q : Nat, j ≤ m ∧ s43 = .int .i64 (j : Int) ∧ s10 = .int .i64 (q : Int) ∧ Hid ((O.take j).count (t : Int) = q) ∧ q ≤ j) (fun _ s43 => m - (intOf s43).toNat)
          case atStart => exact ⟨0, 0, Nat.zero_le _, rfl, rfl, Lib.hid (by simp), Nat.le_refl _⟩
          case round =>
            obtain ⟨j, q, hj, rfl, rfl, hq, hqj⟩ := hrel
            by_cases hlt : j < m
            · obtain ⟨b, off, rfl, _, hc⟩ := HR.out.at_ hlt
              have hjl : j < O.length := by have := HM.out; omega
              have hst := count_succ O (t : Int) j hjl
              rw [hq.out] at hst
              obtain ⟨y, hy⟩ : ∃ y, O.getD j 0 = y := ⟨_, rfl⟩
              rw [hy] at hst hc
              have HST := Lib.hid hst
              clear hst hy
              by_cases hyt : y = (t : Int)
              · have hd : (y == (t : Int)) = true := by simpa using hyt
                go_wp2_with fail
                go_round
                case rel => exact ⟨j + 1, q + 1, by omega, by go_num, by go_num, Lib.hid (by rw [HST.out, if_pos hyt]), by omega⟩
                case measure => simp [intOf]; omega
              · have hd : (y == (t : Int)) = false := by simpa using hyt
                go_wp2_with fail
                go_round
                case rel => exact ⟨j + 1, q, by omega, by go_num, rfl, Lib.hid (by rw [HST.out, if_neg hyt, Nat.add_zero]), by omega⟩
                case measure => simp [intOf]; omega
            · have hjm : j = m := by omega
              subst hjm
              have hq2 : q = if t < 5 ∧ n + 1 - i = 1 then 1 else 0 := by
                rw [← HCN.out, ← hq.out, List.take_of_length_le (by have := HM.out; omega)]
              by_cases hend : i = n
              · have hq3 : q = 1 := by rw [hq2, if_pos ⟨ht5, by omega⟩]
                clear hq2
                subst hq3
                have hd1 : (decide (i = n)) = true := decide_eq_true hend
                have hd2 : (((i : Nat) : Int) == (n : Int)) = true := by simp; omega
                go_wp2_with fail
                go_roundw
                case rel => exact ⟨i + 1, _, by omega, by omega, by go_num, H4, HG4, HC4⟩
                case measure => simp [intOf]; omega
              · have hq3 : q = 0 := by rw [hq2, if_neg (fun h => hend (by omega))]
                clear hq2
                subst hq3
                have hd2 : (((i : Nat) : Int) == (n : Int)) = false := by simp; omega
                go_wp2_with fail
                go_roundw
                case rel => exact ⟨i + 1, _, by omega, by omega, by go_num, H4, HG4, HC4⟩
                case measure => simp [intOf]; omega
      · have hlast : i = n + 4 := by omega
        have hg0 : L1.getD t 0 = 0 := by rw [hg.out]; omega
        have HG0 := Lib.hid hg0
        have hid : decide ((i : Int) ≤ (n : Int) + 3) = false := decide_eq_false (by omega)
        clear hg0 hlast
        go_wp2_with fail
        refine (left_own (t : Int) hc.out).mono ?_; rintro e x5 ⟨rfl, rfl⟩
        rw [leftL_at L t ht5, HLt.out]
        go_wp2_with fail
        refine (runs_own (t : Int) hm.out).mono ?_; rintro e x5 ⟨rfl, rfl⟩
        rw [leftL_at L1 t ht5, HG0.out]
        go_wp2_with fail
        go_ret
        exact ⟨rfl, hm.out.1⟩

theorem own : ownKnob Try.prog.godebug = none := by kernel_rfl
theorem laidOut : laidOutB Try.prog = true := by kernel_rfl

set_option maxRecDepth 100000 in
theorem lifted (os : Os) (started : os.Started) (H : Type) (enc : TypeId × Value → H) :
    ReturnsInHanded {} Try.checked os 4 .any (Rows.timerAloneSpec.pre6 enc Try.prog Try.f4 Rows.timerAloneRow.domain false) (Rows.timerAloneSpec.post enc Try.prog Try.f4 false true false false) := by
  refine Base.law_lifted (C := Try.checked) own started (by kernel_rfl) Try.func4 laidOut (by kernel_rfl) rfl Try.underlying4 rfl ?_
    (ChangeSpec.witness6 (enc := enc) (C := Try.checked) false ⟨#[], #[.int .i64 0, .int .i64 0, .int .i64 0], []⟩ 8 (by kernel_rfl) (by kernel_rfl) (by kernel_rfl) (by kernel_rfl)) ?_
  · intro ds h
    match ds, h with
    | [_d0, _d1, _d2], _ => exact ⟨rfl, rfl, rfl⟩
  · intro W base args ds before hval0 hA0 hlt hsz
    have hval : ∀ (j : Nat) t v, Try.f4.params[j]? = some t → args[j]? = some v → Value.okWide Try.prog W .any base t v := hval0
    have hA : DataW.TrodAll enc Try.prog W 0 (fun _ => true) true Try.f4.params.toList args.toList ds before := hA0
    clear hval0 hA0
    rw [Try.params4] at hA hval hsz
    obtain ⟨v0, vs0, d0, ds0, p0, q0, hargs, rfl, rfl, h0, r0⟩ := trodAll_cons hA
    obtain ⟨v1, vs1, d1, ds1, p1, q1, rfl, rfl, rfl, h1, r1⟩ := trodAll_cons r0
    obtain ⟨v2, vs2, d2, ds2, p2, q2, rfl, rfl, rfl, h2, r2⟩ := trodAll_cons r1
    obtain ⟨rfl, rfl, rfl⟩ := trodAll_nil r2
    obtain rfl : args = #[v0, v1, v2] := by cases args; simp_all
    obtain ⟨a0, rfl, rfl, rfl, w0⟩ := open_int Try.underlying3 (hval 0 3 v0 rfl rfl) h0
    obtain ⟨a1, rfl, rfl, rfl, w1⟩ := open_int Try.underlying3 (hval 1 3 v1 rfl rfl) h1
    obtain ⟨a2, rfl, rfl, rfl, w2⟩ := open_int Try.underlying3 (hval 2 3 v2 rfl rfl) h2
    exact walk W a0 w0 a1 w1 a2 w2

theorem over : Rows.timerAloneRow.holds Try.pinned (OpenSpec.ofChange Rows.timerAloneSpec) :=
  OpenClaim.holds_of_wide 4 Try.f4 rfl rfl rfl rfl rfl rfl rfl ⟨rfl, rfl, rfl, rfl, rfl⟩ rfl rfl rfl rfl rfl (by kernel_rfl) Try.func4 (by kernel_rfl)
    (of_decide_eq_true (by kernel_rfl)) (by unfold Func.isWrapper; first | (rw [if_pos (by decide +kernel)]; kernel_rfl) | (rw [if_neg (by decide +kernel)]; exact ⟨rfl, rfl⟩))
    (fun os started H enc _ => lifted os started H enc)

theorem proved : Rows.TimerAloneSaid :=
  over
#print axioms proved
end Go.Proofs.Ytighpblhghfneaa.timerAlone
