/-
  RingPlays is proved: behind any calls what stands in a row is what the document says; for every input the law returns true.
-/
import Derived.Test.YtocbehmfbaliiaaBase
import Derived.Test.YtocbehmfbaliiaaLaw04Far
import Derived.Test.YtocbehmfbaliiaaRefSame
import Derived.Deep.DeepCutAuto
import Derived.Deep.RegionHeld3
import Derived.Deep.CutBlock
import Derived.Test.YtocbehmfbaliiaaLaw04Step
namespace Go.Proofs.Ytocbehmfbaliiaa.ringPlays
open Go.ChangeShapes Go.WideShapes Go.ChangeAt Go.RowKit
set_option linter.unusedVariables false      -- a walk need not use every bound of an argument

open RingI View

theorem sub_zero (m : Nat) (h : m ≤ 4096) : (m : Int) - ((0 : Nat) : Int) = (m : Int) ∧ wrap64 (m : Int) = (m : Int) ∧ IntKind.i64.wrap (m : Int) = (m : Int) :=
  ⟨by omega, by unfold wrap64; omega, by rw [IntKind.wrap_i64]; omega⟩
theorem sub_wrap (m n : Nat) (h : m ≤ 4096) (hn : n ≤ m) : ∃ d : Nat, (m : Int) - ((n : Nat) : Int) = (d : Int) ∧ wrap64 ((m : Int) - ((n : Nat) : Int)) = (d : Int) ∧ IntKind.i64.wrap ((m : Int) - ((n : Nat) : Int)) = (d : Int) :=
  ⟨m - n, by omega, by unfold wrap64; omega, by rw [IntKind.wrap_i64]; omega⟩
theorem box2 (w : World) (a b : Int) : Below w.heap.size w (w.alloc (.cells #[.int .i64 a, .int .i64 b] 28)) ∧ (w.alloc (.cells #[.int .i64 a, .int .i64 b] 28)).cell? ⟨w.heap.size, 0, none⟩ = some (.int .i64 a) ∧
    (w.alloc (.cells #[.int .i64 a, .int .i64 b] 28)).cell? ⟨w.heap.size, 1, none⟩ = some (.int .i64 b) ∧ w.heap.size < (w.alloc (.cells #[.int .i64 a, .int .i64 b] 28)).heap.size := by
  have h := heap_alloc_new w (.cells #[.int .i64 a, .int .i64 b] 28)
  refine ⟨(Below.refl _ _).alloc (Nat.le_refl _) _, ?_, ?_, by simp⟩ <;> rw [cell_of_row _ _ _ _ _ (0, 0) h] <;> rfl

set_option maxRecDepth 100000 in
set_option maxHeartbeats 40000000 in
theorem walk (w : World) (a0 : Int) (w0 : (Lit.int .i64 a0).wf = true) (v1 : Value) (D : List (Int × Int)) (w1 : Base.Pairs w v1 D) :
    Calls Try.prog 3 #[.int .i64 a0, v1] w fun e w' => e = .returned (.bool true) ∧ Below w.heap.size w w' := by
  obtain ⟨x1, x2⟩ := bounds_i64 w0
  obtain ⟨ad, M, cd, rfl, hM, hrd⟩ := rd_acts w1
  have HD := Lib.hid hrd
  clear hrd w0 w1
  go_enter Try.func3, Try.ntmps3
  go_wp2_with fail
  refine (awake_any _).mono ?_; rintro e x1 ⟨rfl, hb1⟩
  have HB1 := Lib.hid hb1
  clear hb1
  go_upto_region 3 with (fail)
  go_cut [0] (fun s0 wx => ∃ m1 : Int, s0 = .int .i64 m1 ∧ -2 ≤ m1 ∧ m1 ≤ 5000 ∧ wx = x1)
  case first =>
    go_wp2_with fail
    all_goals go_meet
    all_goals exact ⟨_, rfl, by omega, by omega, rfl⟩
  case rest =>
    obtain ⟨m1, rfl, hm1, hm2, rfl⟩ := hcut
    obtain ⟨mm, hmm, hm4⟩ : ∃ mm : Nat, (min (max m1 0) 4096).toNat = mm ∧ mm ≤ 4096 := ⟨_, rfl, by omega⟩
    go_wp2_with fail
    refine (new_own w _ w.heap.size _ mm hmm HB1.out HB1.out.size).mono ?_; rintro e x2 ⟨R, rfl, _, h2⟩
    have H2 := Lib.hid h2
    clear h2
    go_upto_region 7 with (fail)
    go_cut [0] (fun s0 wx => s0 = .int .i64 (mm : Int) ∧ wx = x2)
    case first =>
      go_wp2_with fail
      all_goals go_meet
      all_goals exact ⟨congrArg (Value.int .i64) (by omega), rfl⟩
    case rest =>
      obtain ⟨rfl, rfl⟩ := hcut
      clear hmm hm1 hm2
      go_wp2_with fail
      go_loopw [6, 7] (fun u6 u7 wr => ∃ (i n cap : Nat) (a : Option Addr) (L : List Int) (G : Option Nat), i ≤ 120 ∧ u6 = .slice a n cap ∧ u7 = .int .i64 (i : Int) ∧ Hid (Mine w w.heap.size R mm L G wr) ∧ Hid (RdI wr a n L) ∧ Hid (Away R G a n) ∧ Hid (Fit a n cap)) (fun _ u7 _ => 120 - (intOf u7).toNat)
      case atStart => exact ⟨0, 0, 0, none, [], none, Nat.zero_le _, rfl, rfl, H2, Lib.hid ⟨rfl, fun h => absurd h (by omega)⟩, Lib.hid (away_none _ _), Lib.hid ⟨Nat.le_refl _, by simp [maxLen], fun _ => rfl⟩⟩
      case round =>
        obtain ⟨i, n, cap, a, L, G, hi, rfl, rfl, HM, HR, HA, HF⟩ := hrel
        clear H2
        have hb0 := HM.out.1
        by_cases hgo : i < M ∧ i < 120
        · obtain ⟨hg1, hg2⟩ := hgo
          have hd1 : decide (i < M) = true := decide_eq_true hg1
          have hd2 : decide ((i : Int) < 120) = true := decide_eq_true (by omega)
          have hi0 : (0 : Int) ≤ (i : Int) := by omega
          have hin : (i : Int) < (M : Int) := by omega
          obtain ⟨b, off, rfl, _, hc1, hc2⟩ := (HD.out.below hb0).at_ hg1
          obtain ⟨x, hx⟩ : ∃ x, D.getD i (0, 0) = x := ⟨_, rfl⟩
          rw [hx] at hc1 hc2
          clear hx
          obtain ⟨kd, N⟩ := x
          simp only at hc1 hc2
          have hnm : n ≤ mm := by have := HM.out.facts; have := HR.out.1; omega
          have hcap := HF.out.1
          clear hb0
          have hk : kd = 1 ∨ kd = 2 ∨ kd = 3 ∨ kd = 4 ∨ kd = 5 ∨ ((kd == 1) = false ∧ (kd == 2) = false ∧ (kd == 3) = false ∧ (kd == 4) = false ∧ (kd == 5) = false) := by
            simp only [beq_eq_false_iff_ne]
            omega
          go_upto_block 2 with (fail)
          have hbx := box2 wr kd N
          generalize wr.alloc (.cells #[.int .i64 kd, .int .i64 N] 28) = W1 at *
          obtain ⟨hW, kk0, kk1, hA1⟩ := hbx
          obtain ⟨hRl, hGl⟩ := HM.out.lt
          have HGL := Lib.hid hGl
          have HM1 := Lib.hid (HM.out.below hW)
          have HR1 := Lib.hid (HR.out.below hW)
          clear HM HR hc1 hc2 hGl hW
          go_cut [6] (fun s6 wx => ∃ (L' : List Int) (G' : Option Nat) (a' : Option Addr) (n' cap' : Nat), s6 = .slice a' n' cap' ∧ Hid (Mine w w.heap.size R mm L' G' wx) ∧ Hid (RdI wx a' n' L') ∧ Hid (Away R G' a' n') ∧ Hid (Fit a' n' cap'))
          case first => as_aux_lemma =>
            rcases hk with rfl | rfl | rfl | rfl | rfl | ⟨hk1, hk2, hk3, hk4, hk5⟩
            · go_wp2_with fail

              refine (first_any R mm L G W1 HM1.out.2.2.2.1).mono ?_; rintro e W2 ⟨rfl, q, rfl⟩
              cases L with
              | nil =>
                have hn0 : n = 0 := HR1.out.1
                subst hn0
                rw [show noneCode ([] : List V) = 9 from rfl, show enc (headRow ([] : List V)) = .int .i64 0 from rfl]

                go_wp2_with fail
                refine (take_own (HM1.out.drewN q)).mono ?_; rintro e W3 ⟨rfl, hm3, _⟩
                rw [show noneCode ([] : List V) = 9 from rfl, show enc (headRow ([] : List V)) = .int .i64 0 from rfl]
                have HM3 : Hid (Mine w w.heap.size R mm [] G W3) := Lib.hid hm3
                clear hm3
                go_wp2_with fail
                go_roundw
                case rel => exact ⟨i + 1, 0, cap, a, [], G, by omega, rfl, by go_num, HM3, Lib.hid ⟨rfl, fun h => absurd h (by omega)⟩, Lib.hid (fun h => absurd h (by omega)), HF⟩
                case measure => simp [intOf]; omega

              | cons x L2 =>
                obtain ⟨k, rfl⟩ : ∃ k, n = k + 1 := ⟨L2.length, HR1.out.1⟩
                rw [show noneCode (x :: L2) = 0 from rfl, show enc (headRow (x :: L2)) = .int .i64 x from rfl]

                go_wp2_with fail
                refine (take_own (HM1.out.drewN q)).mono ?_; rintro e W3 ⟨rfl, hm3, ho3⟩
                rw [show noneCode (x :: L2) = 0 from rfl, show enc (headRow (x :: L2)) = .int .i64 x from rfl]
                have HR3 := Lib.hid (rd_only (HR1.out.drewN q) HA.out ho3)
                have kk3 : W3.cell? ⟨wr.heap.size, 0, none⟩ = some (.int .i64 1) := (World.cell?_of_block (a := ⟨wr.heap.size, 0, none⟩) (ho3.block wr.heap.size hA1 (by omega) (fun e => by have := HGL.out _ e; omega))).trans kk0
                have HM3 : Hid (Mine w w.heap.size R mm L2 G W3) := Lib.hid hm3
                clear hm3 ho3 HM1 HR1
                obtain ⟨b2, off2, ea, _, hx0⟩ := HR3.out.at_ (k := 0) (by omega)
                subst ea
                rw [Nat.add_zero] at hx0
                change W3.cell? ⟨b2, off2, none⟩ = some (.int .i64 x) at hx0
                have HT3 := Lib.hid (rd_tail HR3.out hcap)
                have hk2 : k = L2.length := HT3.out.1
                have HK2 := Lib.hid hk2
                clear hk2
                have hAb := HA.out (by omega) _ rfl
                by_cases hc9 : cap = 1
                · subst hc9
                  obtain rfl : k = 0 := by omega
                  go_wp2_with fail
                  have HMt := HM3
                  have HRt : Hid (RdI W3 (some ⟨b2, off2, none⟩) 0 L2) := Lib.hid ⟨HK2.out, fun h => absurd h (by omega)⟩
                  have HAt : Hid (Away R G (some ⟨b2, off2, none⟩) 0) := Lib.hid (fun h => absurd h (by omega))
                  have HFt : Hid (Fit (some ⟨b2, off2, none⟩) 0 0) := Lib.hid ⟨Nat.le_refl _, by simp [maxLen], fun h => by cases h⟩
                  clear HM3 HR3 HT3 HA HF hx0 kk3
                  go_meet
                  exact ⟨L2, G, (some ⟨b2, off2, none⟩), 0, 0, rfl, HMt, HRt, HAt, HFt⟩
                · have hc8 : 1 < cap := by omega
                  have hc7 : ¬ cap ≤ 1 := by omega
                  have hc6 : ¬ (cap - 1 = 0) := by omega
                  go_wp2_with fail
                  have HMt := HM3
                  have HRt : Hid (RdI W3 (some ⟨b2, off2 + 1, none⟩) k L2) := Lib.hid (by have h9 := HT3.out; rwa [if_neg hc9] at h9)
                  have HAt : Hid (Away R G (some ⟨b2, off2 + 1, none⟩) k) := Lib.hid (fun _ y hy => by cases hy; exact hAb)
                  have HFt : Hid (Fit (some ⟨b2, off2 + 1, none⟩) k (cap - 1)) := Lib.hid ⟨by omega, by have := HF.out.2.1; omega, fun h => by cases h⟩
                  clear HM3 HR3 HT3 HA HF hx0 kk3
                  go_meet
                  exact ⟨L2, G, (some ⟨b2, off2 + 1, none⟩), k, (cap - 1), rfl, HMt, HRt, HAt, HFt⟩
            · go_wp2_with fail

              refine (first_any R mm L G W1 HM1.out.2.2.2.1).mono ?_; rintro e W2 ⟨rfl, q, rfl⟩
              cases L with
              | nil =>
                have hn0 : n = 0 := HR1.out.1
                subst hn0
                rw [show noneCode ([] : List V) = 9 from rfl, show enc (headRow ([] : List V)) = .int .i64 0 from rfl]
                have HM3 := Lib.hid (HM1.out.drewN q)
                go_wp2_with fail
                go_roundw
                case rel => exact ⟨i + 1, 0, cap, a, [], G, by omega, rfl, by go_num, HM3, Lib.hid ⟨rfl, fun h => absurd h (by omega)⟩, Lib.hid (fun h => absurd h (by omega)), HF⟩
                case measure => simp [intOf]; omega

              | cons x L2 =>
                rw [show noneCode (x :: L2) = 0 from rfl, show enc (headRow (x :: L2)) = .int .i64 x from rfl]

                have hn0 : 0 < n := by have h9 := HR1.out.1; simp only [List.length_cons] at h9; omega
                have hn1 : ¬ n = 0 := by omega
                have hn2 : ((n : Int) == 0) = false := by simp; omega
                have hn3 : (0 : Int) < (n : Int) := by omega
                obtain ⟨b2, off2, ea, _, hx0⟩ := HR1.out.at_ (k := 0) hn0
                subst ea
                rw [Nat.add_zero] at hx0
                change W1.cell? ⟨b2, off2, none⟩ = some (.int .i64 x) at hx0
                go_wp2_with fail
                have HMt := Lib.hid (HM1.out.drewN q)
                have HRt := Lib.hid (HR1.out.drewN q)
                have HAt := HA
                have HFt := HF
                clear HM1 HR1 HA HF hx0 kk0 kk1
                go_meet
                exact ⟨(x :: L2), G, (some ⟨b2, off2, none⟩), n, cap, rfl, HMt, HRt, HAt, HFt⟩
            · go_wp2_with fail

              refine (at_any R mm L G N W1 HM1.out.2.2.2.1).mono ?_; rintro e W2 ⟨rfl, q, rfl⟩
              have HMt := Lib.hid (HM1.out.drewN q)
              have HRt := Lib.hid (HR1.out.drewN q)
              have HAt := HA
              have HFt := HF
              by_cases hin : 0 ≤ N ∧ N < (L.length : Int)
              · rw [show inRow L N = true from decide_eq_true hin, show atRow L N = L.getD N.toNat zero from if_pos hin]
                obtain ⟨j, rfl⟩ : ∃ j : Nat, N = (j : Int) := ⟨N.toNat, by omega⟩
                rw [Int.toNat_natCast]
                obtain ⟨y, hy⟩ : ∃ y, L.getD j 0 = y := ⟨_, rfl⟩
                rw [show L.getD j zero = y from hy, show enc y = .int .i64 y from rfl]
                have hjn' : j < n := by have := HR1.out.1; omega
                obtain ⟨b2, off2, ea, _, hx0⟩ := HR1.out.at_ (k := j) hjn'
                subst ea
                rw [hy] at hx0
                have hj0 : (0 : Int) ≤ (j : Int) := by omega
                have hjn : (j : Int) < (n : Int) := by omega
                have hjd : decide (j < n) = true := decide_eq_true hjn'
                clear hy hin
                go_wp2_with fail
                clear HM1 HR1 HA HF hx0 kk0 kk1
                go_meet
                exact ⟨L, G, (some ⟨b2, off2, none⟩), n, cap, rfl, HMt, HRt, HAt, HFt⟩
              · rw [show inRow L N = false from decide_eq_false hin, show atRow L N = zero from if_neg hin, show enc zero = .int .i64 0 from rfl]
                by_cases hN : 0 ≤ N
                · have hNd : decide (0 ≤ N) = true := decide_eq_true hN
                  have hNe : decide (N < (n : Int)) = false := decide_eq_false (by have := HR1.out.1; omega)
                  clear hin
                  go_wp2_with fail
                  clear HM1 HR1 HA HF kk0 kk1
                  go_meet
                  exact ⟨L, G, a, n, cap, rfl, HMt, HRt, HAt, HFt⟩
                · have hNd : decide (0 ≤ N) = false := decide_eq_false hN
                  clear hin
                  go_wp2_with fail
                  clear HM1 HR1 HA HF kk0 kk1
                  go_meet
                  exact ⟨L, G, a, n, cap, rfl, HMt, HRt, HAt, HFt⟩
            · go_wp2_with fail

              refine (clear_any R mm L G W1 HM1.out.2.2.2.1).mono ?_; rintro e W2 ⟨gc, rfl, hgc, hcc, hr2, ho2⟩
              have HM2 := Lib.hid (HM1.out.only (ho2.weaken G) hr2 (.inl rfl))
              have HR2 := Lib.hid (rd_only HR1.out (G := none) (fun h y hy => ⟨(HA.out h y hy).1, by simp⟩) ho2)
              have HC2 := Lib.hid (rdI_row hcc)
              have hl6 : L.length ≤ 1000000 := by have := HM1.out.facts; omega
              have hn6 : n ≤ 1000000 := by omega
              clear HM1 HR1 hcc hr2 ho2 hgc
              go_wp2_with fail
              refine (Ref.rsame_any _ _ _ L _ _ _ L _ HC2.out HR2.out hl6 hn6).mono ?_; rintro e W3 ⟨rfl, hb3⟩
              rw [decide_eq_true rfl]
              clear hl6 hn6
              have HMt := Lib.hid (HM2.out.below hb3)
              have HRt : Hid (RdI W3 none 0 []) := Lib.hid ⟨rfl, fun h => absurd h (by omega)⟩
              have HAt := Lib.hid (away_none R none)
              have HFt : Hid (Fit none 0 0) := Lib.hid ⟨Nat.le_refl _, by simp [maxLen], fun _ => rfl⟩
              go_wp2_with fail
              clear HM2 HR2 HC2 HA HF hb3

              go_meet
              exact ⟨([] : List Int), none, none, 0, 0, rfl, HMt, HRt, HAt, HFt⟩
            · go_wp2_with fail

              refine (clone_own HM1.out).mono ?_; rintro e W2 ⟨C, gc, rfl, hC, hgc, _, hcm, hrm, hap, hb2⟩
              have HAC : Hid (Away C (some gc) a n) := Lib.hid (fun hn y hy => by
                obtain ⟨b9, off9, e9, hlt9, _⟩ := HR1.out.2 hn
                rw [e9] at hy
                cases hy
                exact ⟨by show b9 ≠ C; omega, fun e => by injection e with e; have : gc = b9 := e; omega⟩)
              have HC2 := Lib.hid hcm
              have HM2 := Lib.hid hrm
              have HAP := Lib.hid hap
              have HR2 := Lib.hid (HR1.out.below hb2)
              have hl6 : L.length ≤ 1000000 := by have := HM1.out.facts; omega
              have hn6 : n ≤ 1000000 := by omega
              clear HM1 HR1 hcm hrm hap hb2 hC hgc
              go_wp2_with fail
              refine (all_any C mm L _ _ HC2.out.2.2.2.1).mono ?_; rintro e W3 ⟨gd, rfl, _, hcd, hb3⟩
              have HC3 := Lib.hid (HC2.out.below hb3)
              have HM3 := Lib.hid (HM2.out.below hb3)
              have HR3 := Lib.hid (HR2.out.below hb3)
              have HD3 := Lib.hid (rdI_row hcd)
              clear HC2 HM2 HR2 hcd hb3
              go_wp2_with fail
              refine (Ref.rsame_any _ _ _ L _ _ _ L _ HD3.out HR3.out hl6 hn6).mono ?_; rintro e W4 ⟨rfl, hb4⟩
              rw [decide_eq_true rfl]
              have HC4 := Lib.hid (HC3.out.below hb4)
              have HM4 := Lib.hid (HM3.out.below hb4)
              have HR4 := Lib.hid (HR3.out.below hb4)
              clear HC3 HM3 HR3 HD3 hb4 hl6 hn6
              go_wp2_with fail
              refine (most_any C mm _ _ _ HC4.out.2.2.2.1).mono ?_; rintro e W5 ⟨rfl, rfl⟩
              go_wp2_with fail
              refine (take_own HC4.out).mono ?_; rintro e W5 ⟨rfl, hc5, ho5⟩
              have HC5 := Lib.hid hc5
              have HM5 := Lib.hid (HM4.out.apart ho5 HAP.out hc5.1)
              have HR5 := Lib.hid (rd_only HR4.out HAC.out ho5)
              clear HC4 HM4 HR4 hc5 ho5
              go_wp2_with fail
              refine (put_own 9 HC5.out).mono ?_; rintro e W6 ⟨rfl, G6, hc6, ho6, _⟩
              have HMt := Lib.hid (HM5.out.apart ho6 HAP.out hc6.1)
              have HRt := Lib.hid (rd_only HR5.out HAC.out ho6)
              have HAt := HA
              have HFt := HF
              clear HC5 HM5 HR5 hc6 ho6 HAC HAP
              go_wp2_with fail
              clear HA HF kk0 kk1

              go_meet
              exact ⟨L, G, a, n, cap, rfl, HMt, HRt, HAt, HFt⟩
            · go_wp2_with fail

              refine (put_own N HM1.out).mono ?_; rintro e W2 ⟨rfl, G2, hm2, ho2, hG2⟩
              have HR2 := Lib.hid (rd_only HR1.out HA.out ho2)
              have HA2 := Lib.hid (away_new HA.out HR1.out hG2)
              have hA2 : wr.heap.size < W2.heap.size := Nat.lt_of_lt_of_le hA1 ho2.size
              have kk3 : W2.cell? ⟨wr.heap.size, 1, none⟩ = some (.int .i64 N) := (World.cell?_of_block (a := ⟨wr.heap.size, 1, none⟩) (ho2.block wr.heap.size hA1 (by omega) (fun e => by have := HGL.out _ e; omega))).trans kk1
              by_cases hfull : n < mm
              · have hfd : decide (n < mm) = true := decide_eq_true hfull
                rw [show fullCode mm L = 0 from if_pos (by have := HR1.out.1; omega)]
                have HM2 : Hid (Mine w w.heap.size R mm (L ++ [N]) G2 W2) := Lib.hid (by have h9 := hm2; rw [show putRow mm L N = L ++ [N] from if_pos (by have := HR1.out.1; omega)] at h9; exact h9)
                have HFN : Hid (a = none → cap = 0) := Lib.hid HF.out.2.2
                have HN6 : Hid (n ≤ 1000000) := Lib.hid (by omega)
                have HN7 : Hid (([] ++ L : List Int).length + 1 ≤ 1000000) := Lib.hid (by have := HR1.out.1; simp; omega)
                have HRM : Hid (R < W2.heap.size ∧ ∀ g, G2 = some g → g < W2.heap.size) := Lib.hid HM2.out.lt
                clear HM1 HR1 hm2 ho2 hG2 kk0 kk1
                go_wp2_with fail
                go_region_held3 (fun w' => w'.cell? ⟨wr.heap.size, 1, none⟩ = some (.int .i64 N))
                  (first | go_keep | (exact (hb6.cell (p := ⟨wr.heap.size, 1, none⟩) hA2).trans kk3) | (exact (hb9.cell (p := ⟨wr.heap.size, 1, none⟩) hA2).trans kk3))
                  (first
                    | (refine step_appB (w2 := W2) rfl (.tmp 65) (.tmp 66) rfl _ [] rfl (by repeat (first | exact Below.refl _ _ | refine Below.drew ?_ | refine Below.alloc ?_ (by simp) _)) (by first | (exact empty_at _ _ _ (by simp) (by simp)) | (refine OwnI.below (empty_at W2 _ _ rfl (Nat.le_refl _)) ?_; (repeat (first | exact Below.refl _ _ | refine Below.drew ?_ | refine Below.alloc ?_ (by simp) _))) | (refine OwnI.below (empty_at W2.drew _ _ rfl (Nat.le_refl _)) ?_; (repeat (first | exact Below.refl _ _ | refine Below.drew ?_ | refine Below.alloc ?_ (by simp) _))) | (refine OwnI.below (empty_at (W2.alloc (.cells #[.int .i64 N] 3)) _ _ (by simp) (by simp)) ?_; (repeat (first | exact Below.refl _ _ | refine Below.drew ?_ | refine Below.alloc ?_ (by simp) _)))) a n cap L rfl (by exact HR2.out.below (by repeat (first | exact Below.refl _ _ | refine Below.drew ?_ | refine Below.alloc ?_ (by simp) _))) HFN.out (by simpa using HN6.out) ?_
                       intro v6 w6 hown6 hgr6 hb6)
                    | (refine step_appB (w2 := W2) rfl (.tmp 67) (.tmp 70) rfl _ ([] ++ L) rfl (by first | exact hb6 | (repeat (first | exact hb6 | refine Below.drew ?_ | refine Below.alloc ?_ (by have := hb6.size; simp; omega) _))) (by first | exact hown6 | (refine OwnI.below hown6 ?_; repeat (first | exact Below.refl _ _ | refine Below.drew ?_ | refine Below.alloc ?_ (by simp) _))) _ 1 1 [N] rfl (by first | (exact lit_at _ N _ (by simp)) | (refine RdI.below (lit_at w6 N _ rfl) ?_; (repeat (first | exact Below.refl _ _ | refine Below.drew ?_ | refine Below.alloc ?_ (by simp) _))) | (refine rd_grown (by first | exact lit_at _ N _ (by simp) | (refine RdI.below (lit_at W2 N _ rfl) ?_; (repeat (first | exact Below.refl _ _ | refine Below.drew ?_ | refine Below.alloc ?_ (by simp) _))) | (refine RdI.below (lit_at W2.drew N _ rfl) ?_; (repeat (first | exact Below.refl _ _ | refine Below.drew ?_ | refine Below.alloc ?_ (by simp) _))) | (refine RdI.below (lit_at (W2.alloc (.cells #[] 3)) N _ (by simp)) ?_; (repeat (first | exact Below.refl _ _ | refine Below.drew ?_ | refine Below.alloc ?_ (by simp) _)))) hgr6 rfl (by simp))) (fun h => by cases h) HN7.out ?_
                       intro v9 w9 hown9 hgr9 hb9))
                all_goals
                  have HO6 : Hid (OwnI w9 W2.heap.size v9 (L ++ [N])) := Lib.hid (by simpa using hown9)
                  obtain ⟨a9, n9, c9, rfl, hf9, hr9, haw9⟩ := away_own HO6.out HRM.out.1 HRM.out.2
                  have HMt := Lib.hid (HM2.out.below hb9)
                  have HRt := Lib.hid hr9
                  have HAt := Lib.hid haw9
                  have HFt := Lib.hid hf9
                  go_wp2_with fail
                  go_meet
                  exact ⟨L ++ [N], G2, a9, n9, c9, rfl, HMt, HRt, HAt, HFt⟩
              · have hfd : decide (n < mm) = false := decide_eq_false hfull
                rw [show fullCode mm L = 7 from if_neg (by have := HR1.out.1; omega)]
                have HMt : Hid (Mine w w.heap.size R mm L G2 W2) := Lib.hid (by have h9 := hm2; rw [show putRow mm L N = L from if_neg (by have := HR1.out.1; omega)] at h9; exact h9)
                have HRt := HR2
                have HAt := HA2
                have HFt := HF
                clear HM1 HR1 hm2 ho2 hG2 kk0 kk1
                go_wp2_with fail
                clear HR2 HA2 HA HF kk3
                go_meet
                exact ⟨L, G2, a, n, cap, rfl, HMt, HRt, HAt, HFt⟩
          case rest => as_aux_lemma =>
            obtain ⟨L9, G9, a9, n9, c9, rfl, HMt, HRt, HAt, HFt⟩ := hcut
            clear HM1 HR1 HA HF kk0 kk1 hk
            have hlm := HMt.out.facts
            have hln := HRt.out.1
            have hl6 : (L9).length ≤ 1000000 := by omega
            have hn6 : n9 ≤ 1000000 := by omega
            have HLN := Lib.hid hln
            obtain ⟨d, hd, hs3, hs4⟩ := sub_wrap mm n9 hm4 (by omega)
            have HD9 := Lib.hid hd
            clear hd hlm hln
            go_wp2_with fail
            refine (all_any R mm L9 G9 _ HMt.out.2.2.2.1).mono ?_; rintro e t1 ⟨ga, rfl, hga, hca, hb1⟩
            have HM7 := Lib.hid (HMt.out.below hb1)
            have HR7 := Lib.hid (HRt.out.below hb1)
            have HC7 := Lib.hid (rdI_row hca)
            clear HMt HRt hca hb1 hga
            go_wp2_with fail
            refine (Ref.rsame_any _ _ _ (L9) _ _ _ (L9) _ HC7.out HR7.out hl6 hn6).mono ?_; rintro e t2 ⟨rfl, hb2⟩
            rw [decide_eq_true rfl]
            have HM8 := Lib.hid (HM7.out.below hb2)
            have HR8 := Lib.hid (HR7.out.below hb2)
            clear HM7 HR7 HC7 hb2
            go_wp2_with fail
            refine (len_own HM8.out).mono ?_; rintro e t3 ⟨rfl, rfl⟩
            rw [← HLN.out]
            go_wp2_with fail
            refine (room_any R mm _ _ _ HM8.out.2.2.2.1).mono ?_; rintro e t4 ⟨rfl, q4, rfl⟩
            rw [← HLN.out, HD9.out]
            have HM9 := Lib.hid (HM8.out.drewN q4)
            have HR9 := Lib.hid (HR8.out.drewN q4)
            clear HM8 HR8
            go_wp2_with fail
            refine (most_any R mm _ _ _ HM9.out.2.2.2.1).mono ?_; rintro e t5 ⟨rfl, rfl⟩
            go_wp2_with fail
            go_roundw
            case rel => exact ⟨i + 1, n9, c9, a9, L9, G9, by omega, rfl, by go_num, HM9, HR9, HAt, HFt⟩
            case measure => simp [intOf]; omega
        · have hcase : decide (i < M) = false ∨ (decide (i < M) = true ∧ decide ((i : Int) < 120) = false) := by
            by_cases h1 : i < M
            · exact .inr ⟨decide_eq_true h1, decide_eq_false (by omega)⟩
            · exact .inl (decide_eq_false h1)
          clear hgo hi
          rcases hcase with hd1 | ⟨hd1, hd2⟩
          all_goals
            go_wp2_with fail
            go_ret
            exact ⟨rfl, HM.out.1⟩

theorem own : ownKnob Try.prog.godebug = none := by kernel_rfl
theorem laidOut : laidOutB Try.prog = true := by kernel_rfl

set_option maxRecDepth 100000 in
theorem lifted (os : Os) (started : os.Started) (H : Type) (enc : TypeId × Value → H) :
    ReturnsInHanded {} Try.checked os 3 .any (Rows.ringPlaysSpec.pre6 enc Try.prog Try.f3 Rows.ringPlaysRow.domain false) (Rows.ringPlaysSpec.post enc Try.prog Try.f3 false true false false) := by
  refine Base.law_lifted (C := Try.checked) own started (by kernel_rfl) Try.func3 laidOut (by kernel_rfl) rfl Try.underlying4 rfl ?_
    (ChangeSpec.witness6 (enc := enc) (C := Try.checked) false ⟨#[], #[.int .i64 0, .slice none 0 0], []⟩ 8 (by kernel_rfl) (by kernel_rfl) (by kernel_rfl) (by kernel_rfl)) ?_
  · intro ds h
    match ds, h with
    | [_d0, _d1], _ => exact ⟨rfl, rfl, rfl⟩
  · intro W base args ds before hval0 hA0 hlt hsz
    have hval : ∀ (j : Nat) t v, Try.f3.params[j]? = some t → args[j]? = some v → Value.okWide Try.prog W .any base t v := hval0
    have hA : DataW.TrodAll enc Try.prog W 0 (fun _ => true) true Try.f3.params.toList args.toList ds before := hA0
    clear hval0 hA0
    rw [Try.params3] at hA hval hsz
    obtain ⟨v0, vs0, d0, ds0, p0, q0, hargs, rfl, rfl, h0, r0⟩ := trodAll_cons hA
    obtain ⟨v1, vs1, d1, ds1, p1, q1, rfl, rfl, rfl, h1, r1⟩ := trodAll_cons r0
    obtain ⟨rfl, rfl, rfl⟩ := trodAll_nil r1
    obtain rfl : args = #[v0, v1] := by cases args; simp_all
    obtain ⟨a0, rfl, rfl, rfl, w0⟩ := open_int Try.underlying3 (hval 0 3 v0 rfl rfl) h0
    obtain ⟨a1, w1⟩ := Base.open_pairs Try.underlying22 Try.underlying28 (by kernel_rfl) rfl rfl rfl rfl Try.underlying3 (by kernel_rfl) (hval 1 22 v1 rfl rfl) h1 (fun x hx => hlt x (by simp [hx]))
    exact walk W a0 w0 v1 a1 w1

theorem over : Rows.ringPlaysRow.holds Try.pinned (OpenSpec.ofChange Rows.ringPlaysSpec) :=
  OpenClaim.holds_of_wide 3 Try.f3 rfl rfl rfl rfl rfl rfl rfl ⟨rfl, rfl, rfl, rfl, rfl⟩ rfl rfl rfl rfl rfl (by kernel_rfl) Try.func3 (by kernel_rfl)
    (of_decide_eq_true (by kernel_rfl)) (by unfold Func.isWrapper; first | (rw [if_pos (by decide +kernel)]; kernel_rfl) | (rw [if_neg (by decide +kernel)]; exact ⟨rfl, rfl⟩))
    (fun os started H enc _ => lifted os started H enc)

theorem proved : Rows.RingPlaysSaid :=
  over
#print axioms proved
end Go.Proofs.Ytocbehmfbaliiaa.ringPlays
