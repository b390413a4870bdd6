/-
  SeqAdds is proved: for every input the law returns true.
-/
import Derived.Test.YtobckfkedlnlcaaBase
import Derived.Test.YtobckfkedlnlcaaSeqCalls
import Derived.WalkLawsBesides
import Derived.Lib.Hide
namespace Go.Proofs.Ytobckfkedlnlcaa.seqAdds
open Go.ChangeShapes Go.WideShapes Go.ChangeAt Go.RowKit
set_option linter.unusedVariables false      -- a walk need not use every bound of an argument

set_option maxRecDepth 100000 in
theorem walk (w : World) (a0 : Int) (w0 : (Lit.int .u32 a0).wf = true) (v1 : Value) (zs : List Int) (h1 : Base.IntSlice .i64 8 w v1 zs) :
    Calls Try.prog 7 #[.int .u32 a0, v1] w fun e w' => e = .returned (.bool true) ∧ Below w.heap.size w w' := by
  obtain ⟨x1, x2⟩ := bounds_u32 w0
  obtain ⟨a, cap, rfl, hreach, hwf, hcases⟩ := h1
  rcases hcases with rfl | ⟨b, off, rfl, hb, hcell⟩
  · rw [show (([] : List Int).length) = 0 from rfl]
    obtain ⟨S, hS1, hS2⟩ : ∃ S : Int, 0 ≤ S ∧ S ≤ 0 := ⟨0, by omega, by omega⟩
    go_enter Try.func7, Try.ntmps7
    go_wp2_with fail
    refine (SeqCalls.awake_any _).mono ?_; rintro e w' ⟨rfl, rfl⟩
    go_wp2_with fail
    refine (SeqCalls.low_any _ _ (by omega) (by omega)).mono ?_; rintro e w' ⟨rfl, rfl⟩
    go_wp2_with fail
    refine wp_loop_rounds 1 ?_
    rw [rounds_succ]
    go_wp2_with fail
    refine (SeqCalls.add_any _ _ _).mono ?_; rintro e w' ⟨rfl, rfl⟩
    rw [show (a0 + 0) % 16777216 = a0 % 16777216 from by omega]
    go_wp2_with fail
    refine (SeqCalls.add_any _ _ _).mono ?_; rintro e w' ⟨rfl, rfl⟩
    rw [show (a0 % 16777216 + 0) % 16777216 = a0 % 16777216 from by omega]
    go_wp2_with fail
    refine (SeqCalls.low_any _ _ (by omega) (by omega)).mono ?_; rintro e w' ⟨rfl, rfl⟩
    go_wp2_with fail
    refine (SeqCalls.of_any _ _ (by omega) (by omega)).mono ?_; rintro e w' ⟨rfl, rfl⟩
    go_wp2_with fail
    refine (SeqCalls.of_any _ _ (by omega) (by omega)).mono ?_; rintro e w' ⟨rfl, rfl⟩
    go_wp2_with fail
    go_ret
    exact ⟨rfl, Below.refl _ _⟩
  · have HC := Lib.hid hcell
    clear hcell
    go_enter Try.func7, Try.ntmps7
    go_wp2_with fail
    refine (SeqCalls.awake_any _).mono ?_; rintro e w' ⟨rfl, rfl⟩
    go_wp2_with fail
    refine (SeqCalls.low_any _ _ (by omega) (by omega)).mono ?_; rintro e w' ⟨rfl, rfl⟩
    go_wp2_with fail
    go_loop [5, 6, 7] (fun x s t => ∃ (k : Nat) (S : Int), k ≤ zs.length ∧ k ≤ 30 ∧ -1099511627776 * k ≤ S ∧ S ≤ 1099511627776 * k ∧ x = .int .u32 ((a0 + S) % 16777216) ∧ s = .int .i64 S ∧ t = .int .i64 k) (fun _ _ t => 30 - (intOf t).toNat)
    case atStart => exact ⟨0, 0, by omega, by omega, by omega, by omega, by simp, rfl, rfl⟩
    case round =>
      obtain ⟨k, S, hk, hk2, hs1, hs2, rfl, rfl, rfl⟩ := hrel
      by_cases hlt : k < zs.length
      · have hc := HC.out k hlt
        obtain ⟨z, hz⟩ : ∃ z, zs.getD k 0 = z := ⟨_, rfl⟩
        rw [hz] at hc
        have hzw : (Lit.int .i64 z).wf = true := hwf z (by rw [← hz]; simp [List.getD, hlt])
        obtain ⟨z1, z2⟩ := bounds_i64 hzw
        clear hz hzw
        by_cases h30 : k < 30
        · go_wp2_with fail
          · refine (SeqCalls.add_any _ _ _).mono ?_; rintro e w' ⟨rfl, rfl⟩
            rw [show ((a0 + S) % 16777216 + 1099511627776) % 16777216 = (a0 + (S + 1099511627776)) % 16777216 from by omega]
            go_wp2_with fail
            go_round
            case rel => exact ⟨k + 1, S + 1099511627776, by omega, by omega, by omega, by omega, rfl, rfl, by go_num⟩
            case measure => simp [intOf]; omega
          · refine (SeqCalls.add_any _ _ _).mono ?_; rintro e w' ⟨rfl, rfl⟩
            rw [show ((a0 + S) % 16777216 + z) % 16777216 = (a0 + (S + z)) % 16777216 from by omega]
            go_wp2_with fail
            go_round
            case rel => exact ⟨k + 1, S + z, by omega, by omega, by omega, by omega, rfl, rfl, by go_num⟩
            case measure => simp [intOf]; omega
          · refine (SeqCalls.add_any _ _ _).mono ?_; rintro e w' ⟨rfl, rfl⟩
            rw [show ((a0 + S) % 16777216 + -1099511627776) % 16777216 = (a0 + (S + -1099511627776)) % 16777216 from by omega]
            go_wp2_with fail
            go_round
            case rel => exact ⟨k + 1, S + -1099511627776, by omega, by omega, by omega, by omega, rfl, rfl, by go_num⟩
            case measure => simp [intOf]; omega
        · skip
          go_wp2_with fail
          refine (SeqCalls.add_any _ _ _).mono ?_; rintro e w' ⟨rfl, rfl⟩
          go_wp2_with fail
          refine (SeqCalls.add_any _ _ _).mono ?_; rintro e w' ⟨rfl, rfl⟩
          rw [show ((a0 + S) % 16777216 + -S) % 16777216 = a0 % 16777216 from by omega]
          go_wp2_with fail
          refine (SeqCalls.low_any _ _ (by omega) (by omega)).mono ?_; rintro e w' ⟨rfl, rfl⟩
          go_wp2_with fail
          refine (SeqCalls.of_any _ _ (by omega) (by omega)).mono ?_; rintro e w' ⟨rfl, rfl⟩
          go_wp2_with fail
          refine (SeqCalls.of_any _ _ (by omega) (by omega)).mono ?_; rintro e w' ⟨rfl, rfl⟩
          rw [show (a0 % 16777216 + S) % 16777216 = (a0 + S) % 16777216 from by omega]
          go_wp2_with fail
          go_ret
          exact ⟨rfl, Below.refl _ _⟩
      · skip
        go_wp2_with fail
        refine (SeqCalls.add_any _ _ _).mono ?_; rintro e w' ⟨rfl, rfl⟩
        go_wp2_with fail
        refine (SeqCalls.add_any _ _ _).mono ?_; rintro e w' ⟨rfl, rfl⟩
        rw [show ((a0 + S) % 16777216 + -S) % 16777216 = a0 % 16777216 from by omega]
        go_wp2_with fail
        refine (SeqCalls.low_any _ _ (by omega) (by omega)).mono ?_; rintro e w' ⟨rfl, rfl⟩
        go_wp2_with fail
        refine (SeqCalls.of_any _ _ (by omega) (by omega)).mono ?_; rintro e w' ⟨rfl, rfl⟩
        go_wp2_with fail
        refine (SeqCalls.of_any _ _ (by omega) (by omega)).mono ?_; rintro e w' ⟨rfl, rfl⟩
        rw [show (a0 % 16777216 + S) % 16777216 = (a0 + S) % 16777216 from by omega]
        go_wp2_with fail
        go_ret
        exact ⟨rfl, Below.refl _ _⟩

theorem own : ownKnob Try.prog.godebug = none := by kernel_rfl
theorem laidOut : laidOutB Try.prog = true := by kernel_rfl

set_option maxRecDepth 100000 in
theorem lifted (os : Os) (started : os.Started) (H : Type) (enc : TypeId × Value → H) :
    ReturnsInHanded {} Try.checked os 7 .any (Rows.seqAddsSpec.pre6 enc Try.prog Try.f7 Rows.seqAddsRow.domain false) (Rows.seqAddsSpec.post enc Try.prog Try.f7 false true false false) := by
  refine Base.law_lifted (C := Try.checked) own started (by kernel_rfl) Try.func7 laidOut (by kernel_rfl) rfl Try.underlying4 rfl ?_
    (ChangeSpec.witness6 (enc := enc) (C := Try.checked) false ⟨#[], #[.int .u32 0, .slice none 0 0], []⟩ 8 (by kernel_rfl) (by kernel_rfl) (by kernel_rfl) (by kernel_rfl)) ?_
  · intro ds h
    match ds, h with
    | [_d0, _d1], _ => exact ⟨rfl, rfl, rfl⟩
  · intro W base args ds before hval0 hA0 hlt hsz
    have hval : ∀ (j : Nat) t v, Try.f7.params[j]? = some t → args[j]? = some v → Value.okWide Try.prog W .any base t v := hval0
    have hA : DataW.TrodAll enc Try.prog W 0 (fun _ => true) true Try.f7.params.toList args.toList ds before := hA0
    clear hval0 hA0
    rw [Try.params7] at hA hval hsz
    obtain ⟨v0, vs0, d0, ds0, p0, q0, hargs, rfl, rfl, h0, r0⟩ := trodAll_cons hA
    obtain ⟨v1, vs1, d1, ds1, p1, q1, rfl, rfl, rfl, h1, r1⟩ := trodAll_cons r0
    obtain ⟨rfl, rfl, rfl⟩ := trodAll_nil r1
    obtain rfl : args = #[v0, v1] := by cases args; simp_all
    obtain ⟨a0, rfl, rfl, rfl, w0⟩ := open_int Try.underlying22 (hval 0 22 v0 rfl rfl) h0
    obtain ⟨a1, w1⟩ := Base.open_int_slice Try.underlying38 Try.underlying3 (by kernel_rfl) (by kernel_rfl) (hval 1 38 v1 rfl rfl) h1 (fun x hx => hlt x (by simp [hx])) (Base.sized_at hsz (j := 1) rfl rfl)
    exact walk W a0 w0 v1 a1 w1

theorem over : Rows.seqAddsRow.holds Try.pinned (OpenSpec.ofChange Rows.seqAddsSpec) :=
  OpenClaim.holds_of_wide 7 Try.f7 rfl rfl rfl rfl rfl rfl rfl ⟨rfl, rfl, rfl, rfl, rfl⟩ rfl rfl rfl rfl rfl (by kernel_rfl) Try.func7 (by kernel_rfl)
    (of_decide_eq_true (by kernel_rfl)) (by unfold Func.isWrapper; first | (rw [if_pos (by decide +kernel)]; kernel_rfl) | (rw [if_neg (by decide +kernel)]; exact ⟨rfl, rfl⟩))
    (fun os started H enc _ => lifted os started H enc)

theorem proved : Rows.SeqAddsSaid :=
  over
#print axioms proved
end Go.Proofs.Ytobckfkedlnlcaa.seqAdds
