/-
  TimerStops is proved: a timer that is stopped isn't over at its old tick; one that is started anew is over at its new tick alone; for every input the law returns true.
-/
import Derived.Test.YtighpblhghfneaaBase
import Derived.Test.YtighpblhghfneaaLaw08
import Derived.Test.YtighpblhghfneaaRead
import Derived.Laws.BitsLemmas
import Derived.Deep.DeepCutAuto
namespace Go.Proofs.Ytighpblhghfneaa.timerStops
open Go.ChangeShapes Go.WideShapes Go.ChangeAt Go.RowKit
set_option linter.unusedVariables false      -- a walk need not use every bound of an argument

open Bank View Base

theorem and255 (n : Int) : bits .and .i64 n 255 = n % 256 := by
  have h31 : (BitVec.ofInt 64 255).toNat = 2 ^ 8 - 1 := by decide
  have key : (BitVec.ofInt 64 n &&& BitVec.ofInt 64 255).toNat = (n % ((2 ^ 64 : Nat) : Int)).toNat % 2 ^ 8 := by
    rw [BitVec.toNat_and, BitVec.toNat_ofInt, h31, Nat.and_two_pow_sub_one_eq_mod]
  show IntKind.i64.wrap ((BitVec.ofInt 64 n &&& BitVec.ofInt 64 255).toNat : Nat) = n % 256
  rw [key, IntKind.wrap_i64]
  omega
theorem five_at (n : Int) : ∃ t : Nat, (bits .and .i64 n 255).tmod 5 = (t : Int) ∧ bits .and .i64 n 255 % 5 = (t : Int) ∧ t < 5 := by
  rw [and255]
  refine ⟨(n % 256 % 5).toNat, ?_, by omega, by omega⟩
  rw [Int.tmod_eq_emod_of_nonneg (by omega)]; omega
theorem open_stop (w : World) (v : Value) (x : Dat) (h : RdV w (.struct [.int .i64, .int .i64, .int .i64, .bool]) x v) : ∃ (a b c : Int) (d : Bool), v = .agg #[.int .i64 a, .int .i64 b, .int .i64 c, .bool d] := by
  obtain ⟨cs, rfl, h⟩ := h
  obtain ⟨l, rfl, h⟩ := rd_struct h
  obtain ⟨d0, r, c0, c, rfl, rfl, h0, h⟩ := rdAll_cons h
  obtain ⟨d1, r, c1, c, rfl, rfl, h1, h⟩ := rdAll_cons h
  obtain ⟨d2, r, c2, c, rfl, rfl, h2, h⟩ := rdAll_cons h
  obtain ⟨d3, r, c3, c, rfl, rfl, h3, h⟩ := rdAll_cons h
  obtain ⟨rfl, rfl⟩ := rdAll_nil h
  obtain ⟨z0, rfl, rfl, w0⟩ := rd_int h0
  obtain ⟨z1, rfl, rfl, w1⟩ := rd_int h1
  obtain ⟨z2, rfl, rfl, w2⟩ := rd_int h2
  obtain ⟨z3, rfl, rfl⟩ := rd_bool h3
  exact ⟨z0, z1, z2, z3, rfl⟩

/-- but one timer none runs -/
def Sole (L : List Nat) (t v : Nat) : Prop := ∀ i, i < 5 → L.getD i 0 = if i = t then v else 0
theorem sole_start {L : List Nat} {t v n : Nat} (hl : L.length = 5) (h : Sole L t v) (ht : t < 5) (h1 : 1 ≤ n) (h2 : n ≤ 100) : Sole (startL L (t : Int) (n : Int)) t n := fun i hi => by
  rw [getD_start hl t i _ ht, clampN_of rfl h1 (by omega)]
  split
  · rfl
  · rename_i hn
    rw [h i hi, if_neg hn]
theorem sole_zero (t : Nat) : Sole zeroL t 0 := fun i _ => by rw [getD_zero]; split <;> rfl
theorem sole_tick {L : List Nat} {t v : Nat} (h : Sole L t v) : Sole (tickL L) t (v - 1) := fun i hi => by
  rw [getD_tick, h i hi]
  split <;> rfl
theorem sole_stop {L : List Nat} {t v : Nat} (hl : L.length = 5) (h : Sole L t v) (ht : t < 5) : Sole (stopL L (t : Int)) t 0 := fun i hi => by
  rw [getD_stop hl t i ht]
  split
  · rfl
  · rename_i hn
    rw [h i hi, if_neg hn]
theorem sole_none {L : List Nat} {t v : Nat} (h : Sole L t v) (hv : v ≠ 1) : oversL L = [] := overs_none fun i hi => by
  rw [h i hi]
  split
  · exact hv
  · omega
theorem sole_some {L : List Nat} {t v : Nat} (h : Sole L t v) (ht : t < 5) (hv : v = 1) : 0 < (oversL L).length := overs_some ht (by rw [h t ht, if_pos rfl, hv])

set_option maxRecDepth 100000 in
set_option maxHeartbeats 4000000 in
theorem walk (w : World) (v : Value) (x : Dat) (h0 : RdV w (.struct [.int .i64, .int .i64, .int .i64, .bool]) x v) :
    Calls Try.prog 6 #[v] w fun e w' => e = .returned (.bool true) ∧ Below w.heap.size w w' := by
  obtain ⟨a, b, c, st, rfl⟩ := open_stop w v x h0
  clear h0 x
  go_enter Try.func6, Try.ntmps6
  go_wp2_with fail
  refine (awake_any _).mono ?_; rintro e x1 ⟨rfl, hb1⟩
  have hbA : Below w.heap.size w (w.alloc (.cells #[.int .i64 a, .int .i64 b, .int .i64 c, .bool st] 42)) := (Below.refl _ w).alloc (Nat.le_refl _) _
  have HB1 := Lib.hid (hbA.trans (hb1.mono (by simp)))
  have c0 : x1.cell? ⟨w.heap.size, 0, none⟩ = some (.int .i64 a) := (hb1.cell (p := ⟨w.heap.size, 0, none⟩) (by simp)).trans (by simp)
  have c1 : x1.cell? ⟨w.heap.size, 1, none⟩ = some (.int .i64 b) := (hb1.cell (p := ⟨w.heap.size, 1, none⟩) (by simp)).trans (by simp)
  have c2 : x1.cell? ⟨w.heap.size, 2, none⟩ = some (.int .i64 c) := (hb1.cell (p := ⟨w.heap.size, 2, none⟩) (by simp)).trans (by simp)
  have c3 : x1.cell? ⟨w.heap.size, 3, none⟩ = some (.bool st) := (hb1.cell (p := ⟨w.heap.size, 3, none⟩) (by simp)).trans (by simp)
  have HS1 : Hid (w.heap.size ≤ x1.heap.size) := Lib.hid (by have := hb1.size; simp at this; omega)
  clear hb1 hbA
  go_upto_region 3 with (fail)
  go_cut [3, 4, 5, 6] (fun s3 s4 s5 s6 wx => ∃ t n m : Nat, s3 = .int .i64 (t : Int) ∧ s4 = .int .i64 (n : Int) ∧ s5 = .int .i64 (m : Int) ∧ s6 = .bool st ∧ t < 5 ∧ 2 ≤ n ∧ n ≤ 100 ∧ 1 ≤ m ∧ m ≤ 100 ∧ ∃ q, wx = x1.drewN q)
  case first =>
    obtain ⟨n, hn, hn1, hn2⟩ : ∃ n : Nat, max 2 (min b 100) = (n : Int) ∧ 2 ≤ n ∧ n ≤ 100 := ⟨(max 2 (min b 100)).toNat, by omega, by omega, by omega⟩
    obtain ⟨m, hm, hm1, hm2⟩ : ∃ m : Nat, max 1 (min c 100) = (m : Int) ∧ 1 ≤ m ∧ m ≤ 100 := ⟨(max 1 (min c 100)).toNat, by omega, by omega, by omega⟩
    have HN := Lib.hid hn
    have HM := Lib.hid hm
    clear hn hm
    rcases (show 100 < b ∨ (2 ≤ b ∧ b ≤ 100) ∨ b < 2 by omega) with p1 | ⟨p1, p2⟩ | p1 <;> rcases (show 100 < c ∨ (1 ≤ c ∧ c ≤ 100) ∨ c < 1 by omega) with q1 | ⟨q1, q2⟩ | q1
    all_goals
      go_wp2_with fail
      go_quiet (fail)
      go_wp2_with fail
      all_goals
        go_meet
        obtain ⟨t, ht, _, ht5⟩ := five_at a
        exact ⟨t, n, m, congrArg (Value.int .i64) ht, congrArg (Value.int .i64) (by clear ht; have := HN.out; first | omega | (split <;> omega)), congrArg (Value.int .i64) (by clear ht; have := HM.out; first | omega | (split <;> omega)), rfl, ht5, hn1, hn2, hm1, hm2, _, rfl⟩
  case rest =>
    obtain ⟨t, n, m, rfl, rfl, rfl, rfl, ht5, hn1, hn2, hm1, hm2, q, rfl⟩ := hcut
    obtain ⟨W0, hW0⟩ : ∃ W0, x1.drewN q = W0 := ⟨_, rfl⟩
    have hW1 : Hid (Below w.heap.size w W0) := Lib.hid (by rw [← hW0]; exact Go.Proofs.Ytighpblhghfneaa.View.below_drewN HB1.out q)
    have hW2 : Hid (w.heap.size ≤ W0.heap.size) := Lib.hid (by rw [← hW0]; exact HS1.out)
    rw [hW0]
    clear hW0 c0 c1 c2 c3 HB1 HS1
    have H1 := Lib.hid (mine_new hW1.out hW2.out)
    go_wp2_with fail
    generalize W0.alloc (.cells #[.int .i64 0, .int .i64 0, .int .i64 0, .int .i64 0, .int .i64 0] 26) = W at *
    generalize W0.heap.size = B at *
    refine (start_own (t : Int) (n : Int) H1.out).mono ?_; rintro e x3 ⟨⟨_, rfl⟩, h3, _⟩
    have hso := sole_start rfl (sole_zero t) ht5 (by omega) hn2
    generalize startL zeroL (t : Int) (n : Int) = L at *
    have H3 := Lib.hid h3
    have HSO := Lib.hid hso
    obtain ⟨k, hk⟩ : ∃ k : Nat, n = k + 1 := ⟨n - 1, by omega⟩
    subst hk
    have hk1 : ((k + 1 : Nat) : Int) - 1 = (k : Int) := by omega
    clear h3 hso
    go_wp2_with fail
    go_loopw [31] (fun s31 wr => ∃ (j : Nat) (L1 : List Nat), j ≤ k ∧ s31 = .int .i64 (j : Int) ∧ Hid (Mine w w.heap.size B L1 wr) ∧ Hid (Sole L1 t (k + 1 - j))) (fun s31 _ => k - (intOf s31).toNat)
    case atStart => exact ⟨0, L, Nat.zero_le _, rfl, H3, HSO⟩
    case round =>
      obtain ⟨j, L1, hj, rfl, hm3, hs3⟩ := hrel
      by_cases hjk : j < k
      · go_wp2_with fail
        refine (tick_own hm3.out).mono ?_; rintro e x5 ⟨a5, c5, rfl, _, h5, _⟩
        rw [sole_none hs3.out (by omega)]
        have H5 := Lib.hid h5
        have HS5 : Hid (Sole (tickL L1) t (k + 1 - (j + 1))) := Lib.hid (by have := sole_tick hs3.out; rwa [show k + 1 - j - 1 = k + 1 - (j + 1) from by omega] at this)
        clear h5
        go_wp2_with fail
        go_roundw
        case rel => exact ⟨j + 1, _, by omega, by go_num, H5, HS5⟩
        case measure => simp [intOf]; omega
      · have hjk' : j = k := by omega
        subst hjk'
        have HS1 : Hid (Sole L1 t 1) := Lib.hid (by have := hs3.out; rwa [show j + 1 - j = 1 from by omega] at this)
        cases st with
        | true =>
          go_wp2_with fail
          refine (stop_own (t : Int) hm3.out).mono ?_; rintro e x5 ⟨⟨_, rfl⟩, h5, _⟩
          have hs5 := sole_stop hm3.out.2.2.2.len HS1.out ht5
          generalize stopL L1 (t : Int) = L2 at *
          have H5 := Lib.hid h5
          have HS5 := Lib.hid hs5
          clear h5 hs5
          go_wp2_with fail
          refine (tick_own H5.out).mono ?_; rintro e x6 ⟨a6, c6, rfl, _, h6, _⟩
          rw [sole_none HS5.out (by omega)]
          have hs6 := sole_tick HS5.out
          have H6 := Lib.hid h6
          have hl6 : leftL (tickL L2) (t : Int) = 0 := by rw [leftL_at _ t ht5, hs6 t ht5, if_pos rfl]
          have HL6 := Lib.hid hl6
          clear h6 hs6 hl6
          go_wp2_with fail
          refine (runs_own (t : Int) H6.out).mono ?_; rintro e x7 ⟨rfl, rfl⟩
          rw [HL6.out]
          go_wp2_with fail
          go_ret
          exact ⟨rfl, H6.out.1⟩
        | false =>
          go_wp2_with fail
          refine (start_own (t : Int) (m : Int) hm3.out).mono ?_; rintro e x5 ⟨⟨_, rfl⟩, h5, _⟩
          have hs5 := sole_start hm3.out.2.2.2.len HS1.out ht5 hm1 hm2
          generalize startL L1 (t : Int) (m : Int) = L2 at *
          have H5 := Lib.hid h5
          have HS5 := Lib.hid hs5
          clear h5 hs5
          go_wp2_with fail
          obtain ⟨W1, hW1⟩ : ∃ W1, W1 = wr := ⟨_, rfl⟩
          go_loopw [8] (fun s8 wr => ∃ (i : Nat) (L3 : List Nat), 1 ≤ i ∧ i ≤ m + 1 ∧ s8 = .int .i64 (i : Int) ∧ Hid (Mine w w.heap.size B L3 wr) ∧ Hid (Sole L3 t (m + 1 - i))) (fun s8 _ => m + 1 - (intOf s8).toNat)
          case atStart => exact ⟨1, L2, Nat.le_refl _, by omega, rfl, H5, Lib.hid (by have := HS5.out; rwa [show m = m + 1 - 1 from by omega] at this)⟩
          case round =>
            obtain ⟨i, L3, hi1, hi2, rfl, hm4, hs4⟩ := hrel
            by_cases hlt : i ≤ m
            · have hld : decide ((i : Int) ≤ (m : Int)) = true := decide_eq_true (by omega)
              have HS6 : Hid (Sole (tickL L3) t (m + 1 - (i + 1))) := Lib.hid (by have := sole_tick hs4.out; rwa [show m + 1 - i - 1 = m + 1 - (i + 1) from by omega] at this)
              by_cases hend : i = m
              · have hsome := sole_some hs4.out ht5 (by omega)
                obtain ⟨q, hq⟩ : ∃ q, (oversL L3).length = q := ⟨_, rfl⟩
                rw [hq] at hsome
                have hq0 : ((q : Int) == 0) = false := by simp; omega
                have hq1 : ((q : Int) != 0) = true := by simp; omega
                have hd2 : (((i : Nat) : Int) == (m : Int)) = true := by simp; omega
                have HQ := Lib.hid hq
                have HE := Lib.hid hend
                clear hq hend
                go_wp2_with fail
                refine (tick_own hm4.out).mono ?_; rintro e x6 ⟨a6, c6, rfl, _, h6, _⟩
                rw [HQ.out]
                have H6 := Lib.hid h6
                clear h6
                go_wp2_with fail
                go_roundw
                case rel => exact ⟨i + 1, _, by omega, by omega, by go_num, H6, HS6⟩
                case measure => simp [intOf]; omega
              · have hd2 : (((i : Nat) : Int) == (m : Int)) = false := by simp; omega
                go_wp2_with fail
                refine (tick_own hm4.out).mono ?_; rintro e x6 ⟨a6, c6, rfl, _, h6, _⟩
                rw [sole_none hs4.out (by omega)]
                have H6 := Lib.hid h6
                clear h6
                go_wp2_with fail
                go_roundw
                case rel => exact ⟨i + 1, _, by omega, by omega, by go_num, H6, HS6⟩
                case measure => simp [intOf]; omega
            · have hld : decide ((i : Int) ≤ (m : Int)) = false := decide_eq_false (by omega)
              have hl6 : leftL L3 (t : Int) = 0 := by rw [leftL_at _ t ht5, hs4.out t ht5, if_pos rfl]; omega
              have HL6 := Lib.hid hl6
              clear hl6
              go_wp2_with fail
              refine (runs_own (t : Int) hm4.out).mono ?_; rintro e x7 ⟨rfl, rfl⟩
              rw [HL6.out]
              go_wp2_with fail
              go_ret
              exact ⟨rfl, hm4.out.1⟩

theorem own : ownKnob Try.prog.godebug = none := by kernel_rfl
theorem laidOut : laidOutB Try.prog = true := by kernel_rfl

set_option maxRecDepth 100000 in
theorem lifted (os : Os) (started : os.Started) (H : Type) (enc : TypeId × Value → H) :
    ReturnsInHanded {} Try.checked os 6 .any (Rows.timerStopsSpec.pre6 enc Try.prog Try.f6 Rows.timerStopsRow.domain false) (Rows.timerStopsSpec.post enc Try.prog Try.f6 false true false false) := by
  refine Base.law_lifted (C := Try.checked) own started (by kernel_rfl) Try.func6 laidOut (by kernel_rfl) rfl Try.underlying4 rfl ?_
    (ChangeSpec.witness6 (enc := enc) (C := Try.checked) false ⟨#[], #[.agg #[.int .i64 0, .int .i64 0, .int .i64 0, .bool false]], []⟩ 8 (by kernel_rfl) (by kernel_rfl) (by kernel_rfl) (by kernel_rfl)) ?_
  · intro ds h
    match ds, h with
    | [_d0], _ => exact ⟨rfl, rfl, rfl⟩
  · intro W base args ds before hval0 hA0 hlt hsz
    have hval : ∀ (j : Nat) t v, Try.f6.params[j]? = some t → args[j]? = some v → Value.okWide Try.prog W .any base t v := hval0
    have hA : DataW.TrodAll enc Try.prog W 0 (fun _ => true) true Try.f6.params.toList args.toList ds before := hA0
    clear hval0 hA0
    rw [Try.params6] at hA hval hsz
    obtain ⟨v0, vs0, d0, ds0, p0, q0, hargs, rfl, rfl, h0, r0⟩ := trodAll_cons hA
    obtain ⟨rfl, rfl, rfl⟩ := trodAll_nil r0
    obtain rfl : args = #[v0] := by cases args; simp_all
    obtain ⟨x0, w0⟩ := Base.open_shape (s := (.struct [(.int .i64), (.int .i64), (.int .i64), .bool])) (by kernel_rfl) (hval 0 42 v0 rfl rfl) h0 (fun x hx => hlt x (by simp [hx])) hsz (j := 0) rfl rfl
    exact walk W v0 x0 w0

theorem over : Rows.timerStopsRow.holds Try.pinned (OpenSpec.ofChange Rows.timerStopsSpec) :=
  OpenClaim.holds_of_wide 6 Try.f6 rfl rfl rfl rfl rfl rfl rfl ⟨rfl, rfl, rfl, rfl, rfl⟩ rfl rfl rfl rfl rfl (by kernel_rfl) Try.func6 (by kernel_rfl)
    (of_decide_eq_true (by kernel_rfl)) (by unfold Func.isWrapper; first | (rw [if_pos (by decide +kernel)]; kernel_rfl) | (rw [if_neg (by decide +kernel)]; exact ⟨rfl, rfl⟩))
    (fun os started H enc _ => lifted os started H enc)

theorem proved : Rows.TimerStopsSaid :=
  over
#print axioms proved
end Go.Proofs.Ytighpblhghfneaa.timerStops
