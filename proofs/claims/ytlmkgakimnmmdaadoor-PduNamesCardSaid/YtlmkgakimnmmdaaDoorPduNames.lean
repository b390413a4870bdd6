/-
  PduNames is proved: each kind has its word; what is none has none; for every input the law returns true.
-/
import Derived.Test.YtlmkgakimnmmdaaDoorLaid
import Derived.Test.YtlmkgakimnmmdaaDoorCards
import Derived.Test.YtlmkgakimnmmdaaDoorPduName
namespace Go.Proofs.YtlmkgakimnmmdaaDoor.pduNames
open Go.ChangeShapes Go.WideShapes Go.ChangeAt Go.RowKit
set_option linter.unusedVariables false      -- a walk need not use every bound of an argument

open Pdu
set_option maxRecDepth 100000 in
theorem walk (w : World) (a0 : Int) (w0 : (Lit.int .i64 a0).wf = true) (hL : laidMetH Tryd.prog Rows.pduNamesRow.laid w) :
    Calls Tryd.prog 5 #[.int .i64 a0] w fun e w' => e = .returned (.bool true) ∧ Below w.heap.size w w' := by
  obtain ⟨x1, x2⟩ := bounds_i64 w0
  have HF := Lib.hid (forms_laid (by kernel_rfl) hL (by simp [Rows.pduNamesRow]))
  have HN := Lib.hid (names_laid (by kernel_rfl) hL (by simp [Rows.pduNamesRow]))
  clear hL w0
  by_cases hk : 1 ≤ a0 ∧ a0 ≤ 15
  · obtain ⟨j, rfl⟩ : ∃ j : Nat, a0 = (j : Int) + 1 := ⟨(a0 - 1).toNat, by omega⟩
    have hj : j < 15 := by omega
    clear hk
    go_enter Tryd.func5, Tryd.ntmps5
    go_wp2_with fail
    refine (awake_any _ HF.out).mono ?_; rintro e W1 ⟨rfl, hb1⟩
    have HB1 := Lib.hid hb1
    clear hb1
    go_upto_region 5 with (fail)
    have hc := nm_get j hj W1
    have hal : Below W1.heap.size W1 (W1.alloc (.cells ((nm.drop 1).map Value.string).toArray 9)) := (Below.refl _ _).alloc (Nat.le_refl _) _
    have HB2 : Hid (Below w.heap.size w (W1.alloc (.cells ((nm.drop 1).map Value.string).toArray 9))) := Lib.hid (HB1.out.trans (hal.mono HB1.out.size))
    have HN2 : Hid (Names (W1.alloc (.cells ((nm.drop 1).map Value.string).toArray 9))) := Lib.hid ((HN.out.below HB1.out).below hal)
    change Code.wp _ _ _ _ (W1.alloc (.cells ((nm.drop 1).map Value.string).toArray 9))
    generalize W1.alloc (.cells ((nm.drop 1).map Value.string).toArray 9) = W2 at *
    generalize W1.heap.size = g at *
    have HJ := Lib.hid hj
    generalize hX : nm.getD (j + 1) ⟨#[]⟩ = X at *
    have HX := Lib.hid hX
    have hxx : (X.toList == X.toList) = true := beq_self_eq_true _
    have hj15 : (j : Int) < 15 := by omega
    clear hal hX hj x1 x2
    go_wp2_with fail
    refine (name_some j _ HN2.out HJ.out).mono ?_; rintro e W3 ⟨rfl, hb3⟩
    rw [HX.out]
    have HB3 := Lib.hid (HB2.out.trans (hb3.mono HB2.out.size))
    clear hb3
    go_wp2_with fail
    go_ret
    exact ⟨rfl, HB3.out⟩
  · have hk' : a0 < 1 ∨ 15 < a0 := by omega
    clear hk
    have HK := Lib.hid hk'
    have e0 : (([] : List UInt8) == []) = true := rfl
    rcases hk' with hk1 | hk1
    all_goals
      go_enter Tryd.func5, Tryd.ntmps5
      go_wp2_with fail
      refine (awake_any _ HF.out).mono ?_; rintro e W1 ⟨rfl, hb1⟩
      have HB1 := Lib.hid hb1
      clear hb1
      go_wp2_with fail
      refine (name_none a0 _ HK.out).mono ?_; rintro e W2 ⟨rfl, hb2⟩
      have HB2 := Lib.hid hb2
      clear hb2
      go_wp2_with fail
      go_ret
      exact ⟨rfl, (HB1.out.alloc HB1.out.size _).trans (HB2.out.mono (by have := HB1.out.size; simp; omega))⟩

theorem own : ownKnob Tryd.prog.godebug = none := by kernel_rfl
theorem laidOut : laidOutB Tryd.prog = true := by kernel_rfl

set_option maxRecDepth 100000 in
theorem lifted (os : Os) (started : os.Started) (H : Type) (enc : TypeId × Value → H) :
    ReturnsInHanded {} Tryd.checked os 5 .any (fun w args => (Rows.pduNamesSpec.pre enc Tryd.prog Tryd.f5 Rows.pduNamesRow.domain false w args ∧ laidMetH Tryd.prog Rows.pduNamesRow.laid w) ∧ sizedMet enc Tryd.prog Tryd.f5 (OpenSpec.ofChange Rows.pduNamesSpec) false w args) (Rows.pduNamesSpec.post enc Tryd.prog Tryd.f5 false true false false) := by
  refine Base.law_laid (C := Tryd.checked) own started (by kernel_rfl) Tryd.func5 laidOut (by kernel_rfl) rfl Tryd.underlying4 rfl ?_
    (Base.laid_witness #[.int .i64 0] (World.shaped_of_ZipB (by kernel_rfl) (by kernel_rfl)) (by kernel_rfl) (by kernel_rfl) (by kernel_rfl) (by rw [MakeChecks.laidMetH_plain _ _ _ (by kernel_rfl)]; exact laidMet_laidAll _ (by kernel_rfl) (by kernel_rfl))) ?_
  · intro ds h
    match ds, h with
    | [_d0], _ => exact ⟨rfl, rfl, rfl⟩
  · intro W base args ds before hval0 hA0 hlt hsz hL
    have hval : ∀ (j : Nat) t v, Tryd.f5.params[j]? = some t → args[j]? = some v → Value.okWide Tryd.prog W .any base t v := hval0
    have hA : DataW.TrodAll enc Tryd.prog W 0 (fun _ => true) true Tryd.f5.params.toList args.toList ds before := hA0
    clear hval0 hA0
    rw [Tryd.params5] at hA hval hsz
    obtain ⟨v0, vs0, d0, ds0, p0, q0, hargs, rfl, rfl, h0, r0⟩ := trodAll_cons hA
    obtain ⟨rfl, rfl, rfl⟩ := trodAll_nil r0
    obtain rfl : args = #[v0] := by cases args; simp_all
    obtain ⟨a0, rfl, rfl, rfl, w0⟩ := open_int Tryd.underlying3 (hval 0 3 v0 rfl rfl) h0
    exact walk W a0 w0 hL

theorem over : Rows.pduNamesRow.holds Tryd.pinned (OpenSpec.ofChange Rows.pduNamesSpec) :=
  OpenClaim.holds_of_wide 5 Tryd.f5 rfl rfl rfl rfl rfl rfl rfl ⟨rfl, rfl, rfl, rfl, rfl⟩ rfl rfl rfl rfl rfl (by kernel_rfl) Tryd.func5 (by kernel_rfl)
    (of_decide_eq_true (by kernel_rfl)) (by unfold Func.isWrapper; first | (rw [if_pos (by decide +kernel)]; kernel_rfl) | (rw [if_neg (by decide +kernel)]; exact ⟨rfl, rfl⟩))
    (fun os started H enc _ => lifted os started H enc)

theorem proved : Rows.PduNamesCardSaid :=
  Claim7.holds_tied_plain_at .later [] [.data, .data] true Rows.pduNamesCard.stood.harness false over (fun _ h => by cases h) (by kernel_rfl) (fun _ h => by cases h) pduNames_row_tie rfl ⟨rfl, rfl⟩ (by kernel_rfl) rfl
    (fun f fn hf hfn => by
      obtain rfl : f = 5 := Option.some.inj ((show Tryd.prog.funcNamed Rows.pduNamesRow.func = some 5 by kernel_rfl).symm.trans hf) |>.symm
      obtain rfl : fn = Tryd.f5 := (Option.some.inj (Tryd.func5.symm.trans hfn)).symm
      exact ⟨by kernel_rfl, fun j t ht => by
        rw [Tryd.params5] at ht
        have hm : t ∈ [3] := by simpa using Array.mem_of_getElem? ht
        have hall : ([3].all fun u => !Tryd.prog.wantsStandIn u) = true := by kernel_rfl
        exact (show Tryd.prog.wantsStandIn t = false by simpa using List.all_eq_true.1 hall t hm)⟩)
    (by kernel_rfl)
#print axioms proved
end Go.Proofs.YtlmkgakimnmmdaaDoor.pduNames
