/-
  SeqRuns is proved: for every input the law returns true.
-/
import Derived.Test.YtobckfkedlnlcaaBase
import Derived.Test.YtobckfkedlnlcaaSeqRun
import Derived.Lib.Hide
namespace Go.Proofs.Ytobckfkedlnlcaa.seqRuns
open Go.ChangeShapes Go.WideShapes Go.ChangeAt Go.RowKit
set_option linter.unusedVariables false      -- a walk need not use every bound of an argument

theorem run_at (a : Int) (k i : Nat) (h : i < k) : (SeqCalls.runL a k)[i]? = some ((a + (i : Int)) % 16777216) := by
  simp [SeqCalls.runL, h]

set_option maxRecDepth 100000 in
theorem walk (w : World) (a0 : Int) (w0 : (Lit.int .u32 a0).wf = true) (a1 : Int) (w1 : (Lit.int .i64 a1).wf = true) :
    Calls Try.prog 6 #[.int .u32 a0, .int .i64 a1] w fun e w' => e = .returned (.bool true) ∧ Below w.heap.size w w' := by
  obtain ⟨x1, x2⟩ := bounds_u32 w0
  obtain ⟨n1, n2⟩ := bounds_i64 w1
  by_cases hbig : 2000 < a1
  · obtain ⟨K, hK1, hK2⟩ : ∃ K : Nat, 2000 ≤ K ∧ K ≤ 2000 := ⟨2000, Nat.le_refl _, Nat.le_refl _⟩
    go_enter Try.func6, Try.ntmps6
    go_wp2_with fail
    refine (SeqCalls.awake_any _).mono ?_; rintro e w' ⟨rfl, rfl⟩
    go_wp2_with fail
    refine (SeqCalls.run_any _ _ _ (by omega) (by omega)).mono ?_; rintro e w1 ⟨v, rfl, hown, hb⟩
    rw [show Int.toNat (2000) = 2000 from by omega] at hown
    have hown0 := hown
    obtain ⟨_, hcase⟩ := hown
    rcases hcase with ⟨HN, h0⟩ | ⟨g, cap', cur, rfl, hg, hh, hn, hcap, hsz, htake⟩
    · exact absurd h0 (by decide)
    · have hcells : ∀ i, i < 2000 → w1.cell? ⟨g, i, none⟩ = some (.int .u32 ((a0 + (i : Int)) % 16777216)) := fun i hi => by
        rw [hown0.cellAt i (by simpa using hi), List.getElem?_map, run_at _ _ _ (by simpa using hi)]; rfl
      replace hcells : ∀ i, i < K → w1.cell? ⟨g, i, none⟩ = some (.int .u32 ((a0 + (i : Int)) % 16777216)) := fun i hi => hcells i (by omega)
      have HC := Lib.hid hcells
      clear hcells hown0 htake hh hsz hn hcap
      go_wp2_with fail
      go_loop [22] (fun t => ∃ k : Nat, k ≤ K ∧ t = .int .i64 k) (fun t => K - (intOf t).toNat)
      case atStart => exact ⟨0, by omega, rfl⟩
      case round =>
        obtain ⟨k, hk, rfl⟩ := hrel
        by_cases hlt : k < K
        · have hc := HC.out k hlt
          go_wp2_with fail
          refine (SeqCalls.of_any _ _ (by omega) (by omega)).mono ?_; rintro e w' ⟨rfl, rfl⟩
          go_wp2_with fail
          refine (SeqCalls.of_any _ _ (by omega) (by omega)).mono ?_; rintro e w' ⟨rfl, rfl⟩
          rw [show (a0 % 16777216 + (k : Int)) % 16777216 = (a0 + (k : Int)) % 16777216 from by omega]
          go_wp2_with fail
          refine (SeqCalls.to_any _ _ _).mono ?_; rintro e w' ⟨rfl, rfl⟩
          rw [show ((a0 + (k : Int)) % 16777216 - a0) % 16777216 = (k : Int) from by omega]
          go_wp2_with fail
          go_round
          case rel => exact ⟨k + 1, by omega, by go_num⟩
          case measure => simp [intOf]; omega
        · go_wp2_with fail
          go_ret
          exact ⟨rfl, hb⟩
  by_cases hneg : a1 < 0
  · go_enter Try.func6, Try.ntmps6
    go_wp2_with fail
    refine (SeqCalls.awake_any _).mono ?_; rintro e w' ⟨rfl, rfl⟩
    go_wp2_with fail
    refine (SeqCalls.run_any _ _ _ (by omega) (by omega)).mono ?_; rintro e w1 ⟨v, rfl, hown, hb⟩
    rw [show Int.toNat a1 = 0 from by omega] at hown
    obtain ⟨_, hcase⟩ := hown
    rcases hcase with ⟨HN, h0⟩ | ⟨g, cap', cur, rfl, hg, hh, hn, hcap, hsz, htake⟩
    · subst HN
      go_wp2_with fail
      refine wp_loop_rounds 1 ?_
      rw [rounds_succ]
      go_wp2_with fail
      go_ret
      exact ⟨rfl, hb⟩
    · clear htake hh hsz hn hcap
      go_wp2_with fail
      refine wp_loop_rounds 1 ?_
      rw [rounds_succ]
      go_wp2_with fail
      go_ret
      exact ⟨rfl, hb⟩
  · obtain ⟨K, rfl⟩ : ∃ K : Nat, a1 = (K : Int) := ⟨a1.toNat, by omega⟩
    go_enter Try.func6, Try.ntmps6
    go_wp2_with fail
    refine (SeqCalls.awake_any _).mono ?_; rintro e w' ⟨rfl, rfl⟩
    go_wp2_with fail
    refine (SeqCalls.run_any _ _ _ (by omega) (by omega)).mono ?_; rintro e w1 ⟨v, rfl, hown, hb⟩
    rw [show Int.toNat ((K : Int)) = K from by omega] at hown
    have hown0 := hown
    obtain ⟨_, hcase⟩ := hown
    rcases hcase with ⟨HN, h0⟩ | ⟨g, cap', cur, rfl, hg, hh, hn, hcap, hsz, htake⟩
    · subst HN
      obtain rfl : K = 0 := h0
      go_wp2_with fail
      refine wp_loop_rounds 1 ?_
      rw [rounds_succ]
      go_wp2_with fail
      go_ret
      exact ⟨rfl, hb⟩
    · have hcells : ∀ i, i < K → w1.cell? ⟨g, i, none⟩ = some (.int .u32 ((a0 + (i : Int)) % 16777216)) := fun i hi => by
        rw [hown0.cellAt i (by simpa using hi), List.getElem?_map, run_at _ _ _ (by simpa using hi)]; rfl
      have HC := Lib.hid hcells
      clear hcells hown0 htake hh hsz hn hcap
      go_wp2_with fail
      go_loop [22] (fun t => ∃ k : Nat, k ≤ K ∧ t = .int .i64 k) (fun t => K - (intOf t).toNat)
      case atStart => exact ⟨0, by omega, rfl⟩
      case round =>
        obtain ⟨k, hk, rfl⟩ := hrel
        by_cases hlt : k < K
        · have hc := HC.out k hlt
          go_wp2_with fail
          refine (SeqCalls.of_any _ _ (by omega) (by omega)).mono ?_; rintro e w' ⟨rfl, rfl⟩
          go_wp2_with fail
          refine (SeqCalls.of_any _ _ (by omega) (by omega)).mono ?_; rintro e w' ⟨rfl, rfl⟩
          rw [show (a0 % 16777216 + (k : Int)) % 16777216 = (a0 + (k : Int)) % 16777216 from by omega]
          go_wp2_with fail
          refine (SeqCalls.to_any _ _ _).mono ?_; rintro e w' ⟨rfl, rfl⟩
          rw [show ((a0 + (k : Int)) % 16777216 - a0) % 16777216 = (k : Int) from by omega]
          go_wp2_with fail
          go_round
          case rel => exact ⟨k + 1, by omega, by go_num⟩
          case measure => simp [intOf]; omega
        · go_wp2_with fail
          go_ret
          exact ⟨rfl, hb⟩

theorem own : ownKnob Try.prog.godebug = none := by kernel_rfl
theorem laidOut : laidOutB Try.prog = true := by kernel_rfl

set_option maxRecDepth 100000 in
theorem lifted (os : Os) (started : os.Started) (H : Type) (enc : TypeId × Value → H) :
    ReturnsInHanded {} Try.checked os 6 .any (Rows.seqRunsSpec.pre6 enc Try.prog Try.f6 Rows.seqRunsRow.domain false) (Rows.seqRunsSpec.post enc Try.prog Try.f6 false true false false) := by
  refine Base.law_lifted (C := Try.checked) own started (by kernel_rfl) Try.func6 laidOut (by kernel_rfl) rfl Try.underlying4 rfl ?_
    (ChangeSpec.witness6 (enc := enc) (C := Try.checked) false ⟨#[], #[.int .u32 0, .int .i64 0], []⟩ 8 (by kernel_rfl) (by kernel_rfl) (by kernel_rfl) (by kernel_rfl)) ?_
  · intro ds h
    match ds, h with
    | [_d0, _d1], _ => exact ⟨rfl, rfl, rfl⟩
  · intro W base args ds before hval0 hA0 hlt hsz
    have hval : ∀ (j : Nat) t v, Try.f6.params[j]? = some t → args[j]? = some v → Value.okWide Try.prog W .any base t v := hval0
    have hA : DataW.TrodAll enc Try.prog W 0 (fun _ => true) true Try.f6.params.toList args.toList ds before := hA0
    clear hval0 hA0
    rw [Try.params6] at hA hval hsz
    obtain ⟨v0, vs0, d0, ds0, p0, q0, hargs, rfl, rfl, h0, r0⟩ := trodAll_cons hA
    obtain ⟨v1, vs1, d1, ds1, p1, q1, rfl, rfl, rfl, h1, r1⟩ := trodAll_cons r0
    obtain ⟨rfl, rfl, rfl⟩ := trodAll_nil r1
    obtain rfl : args = #[v0, v1] := by cases args; simp_all
    obtain ⟨a0, rfl, rfl, rfl, w0⟩ := open_int Try.underlying22 (hval 0 22 v0 rfl rfl) h0
    obtain ⟨a1, rfl, rfl, rfl, w1⟩ := open_int Try.underlying3 (hval 1 3 v1 rfl rfl) h1
    exact walk W a0 w0 a1 w1

theorem over : Rows.seqRunsRow.holds Try.pinned (OpenSpec.ofChange Rows.seqRunsSpec) :=
  OpenClaim.holds_of_wide 6 Try.f6 rfl rfl rfl rfl rfl rfl rfl ⟨rfl, rfl, rfl, rfl, rfl⟩ rfl rfl rfl rfl rfl (by kernel_rfl) Try.func6 (by kernel_rfl)
    (of_decide_eq_true (by kernel_rfl)) (by unfold Func.isWrapper; first | (rw [if_pos (by decide +kernel)]; kernel_rfl) | (rw [if_neg (by decide +kernel)]; exact ⟨rfl, rfl⟩))
    (fun os started H enc _ => lifted os started H enc)

theorem proved : Rows.SeqRunsSaid :=
  over
#print axioms proved
end Go.Proofs.Ytobckfkedlnlcaa.seqRuns
