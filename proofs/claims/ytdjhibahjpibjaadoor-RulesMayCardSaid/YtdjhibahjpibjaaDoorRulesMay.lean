/-
  RulesMay is proved: which request may be made in each state, and each state's word, is as the document says; for every input the law returns true.
-/
import Derived.Test.YtdjhibahjpibjaaDoorLaid
import Derived.Test.YtdjhibahjpibjaaDoorCards
import Derived.Test.YtdjhibahjpibjaaDoorRules6
namespace Go.Proofs.YtdjhibahjpibjaaDoor.rulesMay
open Go.ChangeShapes Go.WideShapes Go.ChangeAt Go.RowKit
set_option linter.unusedVariables false      -- a walk need not use every bound of an argument

open Rules
def litN : Array Value := ((namL.drop 1).map Value.string).toArray
theorem litN_at : ∀ i, i < 10 → litN[i]? = some (.string (namL.getD (i + 1) ⟨#[]⟩)) := by
  intro i hi
  match i, hi with
  | 0, _ | 1, _ | 2, _ | 3, _ | 4, _ | 5, _ | 6, _ | 7, _ | 8, _ | 9, _ => rfl
  | i + 10, h => exact absurd h (by omega)
set_option maxRecDepth 100000 in
set_option maxHeartbeats 1000000 in
theorem walk (w : World) (a0 : Int) (w0 : (Lit.int .i64 a0).wf = true) (a1 : Int) (w1 : (Lit.int .i64 a1).wf = true) (hL : laidMetH Tryd.prog Rows.rulesMayRow.laid w) :
    Calls Tryd.prog 4 #[.int .i64 a0, .int .i64 a1] w fun e w' => e = .returned (.bool true) ∧ Below w.heap.size w w' := by
  have HT := Lib.hid (tabs_laid (by kernel_rfl) hL (by simp [Rows.rulesMayRow]) (by simp [Rows.rulesMayRow]))
  clear hL w0 w1
  by_cases hk : 1 ≤ a0 ∧ a0 ≤ 10
  · obtain ⟨j, rfl⟩ : ∃ j : Nat, a0 = (j : Int) + 1 := ⟨(a0 - 1).toNat, by omega⟩
    have hj : (j : Int) < 10 := by omega
    have hcw : ∀ w : World, (w.alloc (.cells litN 9)).cell? ⟨w.heap.size, j, none⟩ = some (.string (namL.getD (j + 1) ⟨#[]⟩)) := fun w => by
      have hblk : (w.alloc (.cells litN 9)).heap[w.heap.size]? = some (.cells litN 9 (0, 0)) := (MapKept.heap_alloc w _).1
      exact (cell_of_row _ _ _ _ _ _ hblk).trans (litN_at j (by omega))
    have hn : Hid (nameI ((j : Int) + 1) = namL.getD (j + 1) ⟨#[]⟩) := Lib.hid (by
      unfold nameI
      rw [if_pos (by omega), show ((j : Int) + 1).toNat = j + 1 from by omega])
    clear hk
    go_enter Tryd.func4, Tryd.ntmps4
    go_wp2_with fail
    refine (awake_any _ HT.out).mono ?_; rintro e W1 ⟨rfl, hb1⟩
    have HT1 := Lib.hid (HT.out.below hb1)
    have B1 := Lib.hid hb1
    clear hb1
    go_upto_region 4 with (fail)
    have hc := hcw W1
    have HB2 := Lib.hid (below_lit W1 (.cells litN 9))
    change Code.wp _ _ _ _ (W1.alloc (.cells litN 9))
    generalize W1.alloc (.cells litN 9) = W2 at *
    have HT2 := Lib.hid (HT1.out.below HB2.out)
    have B2 := Lib.hid (B1.out.trans (HB2.out.mono B1.out.size))
    clear hcw
    generalize namL.getD (j + 1) ⟨#[]⟩ = X at *
    have hxx : (X.toList == X.toList) = true := beq_self_eq_true _
    generalize W1.heap.size = g at *
    go_wp2_with fail
    refine (may_any _ _ _).mono ?_; rintro e W3 ⟨rfl, hb2⟩
    have HT3 := Lib.hid (HT2.out.below hb2)
    have B3 := Lib.hid (B2.out.trans (hb2.mono B2.out.size))
    clear hb2
    go_wp2_with fail
    refine (rmay_any _ _ _).mono ?_; rintro e W4 ⟨rfl, rfl⟩
    generalize mayI ((j : Int) + 1) a1 = m at *
    have hmm : (m == m) = true := beq_self_eq_true _
    go_wp2_with fail
    refine (name_any _ _ HT3.out).mono ?_; rintro e W4 ⟨rfl, rfl⟩
    rw [hn.out]
    go_wp2_with fail
    go_ret
    exact ⟨rfl, B3.out⟩
  · have hn : nameI a0 = ⟨#[]⟩ := if_neg hk
    have hk2 : a0 < 1 ∨ 10 < a0 := by omega
    clear hk
    rcases hk2 with hk | hk
    all_goals
      go_enter Tryd.func4, Tryd.ntmps4
      go_wp2_with fail
      refine (awake_any _ HT.out).mono ?_; rintro e W1 ⟨rfl, hb1⟩
      have HT1 := Lib.hid (HT.out.below hb1)
      have B1 := Lib.hid hb1
      clear hb1
      go_upto_region 4 with (fail)
      have HB2 := Lib.hid (below_lit W1 (.cells litN 9))
      change Code.wp _ _ _ _ (W1.alloc (.cells litN 9))
      generalize W1.alloc (.cells litN 9) = W2 at *
      have HT2 := Lib.hid (HT1.out.below HB2.out)
      have B2 := Lib.hid (B1.out.trans (HB2.out.mono B1.out.size))
      generalize W1.heap.size = g at *
      go_wp2_with fail
      refine (may_any _ _ _).mono ?_; rintro e W3 ⟨rfl, hb2⟩
      have HT3 := Lib.hid (HT2.out.below hb2)
      have B3 := Lib.hid (B2.out.trans (hb2.mono B2.out.size))
      clear hb2
      go_wp2_with fail
      refine (rmay_any _ _ _).mono ?_; rintro e W4 ⟨rfl, rfl⟩
      generalize mayI a0 a1 = m at *
      have hmm : (m == m) = true := beq_self_eq_true _
      go_wp2_with fail
      refine (name_any _ _ HT3.out).mono ?_; rintro e W4 ⟨rfl, rfl⟩
      rw [hn]
      go_wp2_with fail
      go_ret
      exact ⟨rfl, B3.out⟩

theorem own : ownKnob Tryd.prog.godebug = none := by kernel_rfl
theorem laidOut : laidOutB Tryd.prog = true := by kernel_rfl

set_option maxRecDepth 100000 in
theorem lifted (os : Os) (started : os.Started) (H : Type) (enc : TypeId × Value → H) :
    ReturnsInHanded {} Tryd.checked os 4 .any (fun w args => (Rows.rulesMaySpec.pre enc Tryd.prog Tryd.f4 Rows.rulesMayRow.domain false w args ∧ laidMetH Tryd.prog Rows.rulesMayRow.laid w) ∧ sizedMet enc Tryd.prog Tryd.f4 (OpenSpec.ofChange Rows.rulesMaySpec) false w args) (Rows.rulesMaySpec.post enc Tryd.prog Tryd.f4 false true false false) := by
  refine Base.law_laid (C := Tryd.checked) own started (by kernel_rfl) Tryd.func4 laidOut (by kernel_rfl) rfl Tryd.underlying4 rfl ?_
    (Base.laid_witness #[.int .i64 0, .int .i64 0] (World.shaped_of_ZipB (by kernel_rfl) (by kernel_rfl)) (by kernel_rfl) (by kernel_rfl) (by kernel_rfl) (by rw [MakeChecks.laidMetH_plain _ _ _ (by kernel_rfl)]; exact laidMet_laidAll _ (by kernel_rfl) (by kernel_rfl))) ?_
  · intro ds h
    match ds, h with
    | [_d0, _d1], _ => exact ⟨rfl, rfl, rfl⟩
  · intro W base args ds before hval0 hA0 hlt hsz hL
    have hval : ∀ (j : Nat) t v, Tryd.f4.params[j]? = some t → args[j]? = some v → Value.okWide Tryd.prog W .any base t v := hval0
    have hA : DataW.TrodAll enc Tryd.prog W 0 (fun _ => true) true Tryd.f4.params.toList args.toList ds before := hA0
    clear hval0 hA0
    rw [Tryd.params4] at hA hval hsz
    obtain ⟨v0, vs0, d0, ds0, p0, q0, hargs, rfl, rfl, h0, r0⟩ := trodAll_cons hA
    obtain ⟨v1, vs1, d1, ds1, p1, q1, rfl, rfl, rfl, h1, r1⟩ := trodAll_cons r0
    obtain ⟨rfl, rfl, rfl⟩ := trodAll_nil r1
    obtain rfl : args = #[v0, v1] := by cases args; simp_all
    obtain ⟨a0, rfl, rfl, rfl, w0⟩ := open_int Tryd.underlying3 (hval 0 3 v0 rfl rfl) h0
    obtain ⟨a1, rfl, rfl, rfl, w1⟩ := open_int Tryd.underlying3 (hval 1 3 v1 rfl rfl) h1
    exact walk W a0 w0 a1 w1 hL

theorem over : Rows.rulesMayRow.holds Tryd.pinned (OpenSpec.ofChange Rows.rulesMaySpec) :=
  OpenClaim.holds_of_wide 4 Tryd.f4 rfl rfl rfl rfl rfl rfl rfl ⟨rfl, rfl, rfl, rfl, rfl⟩ rfl rfl rfl rfl rfl (by kernel_rfl) Tryd.func4 (by kernel_rfl)
    (of_decide_eq_true (by kernel_rfl)) (by unfold Func.isWrapper; first | (rw [if_pos (by decide +kernel)]; kernel_rfl) | (rw [if_neg (by decide +kernel)]; exact ⟨rfl, rfl⟩))
    (fun os started H enc _ => lifted os started H enc)

theorem proved : Rows.RulesMayCardSaid :=
  Claim7.holds_tied_plain_at .later [] [.data, .data] true Rows.rulesMayCard.stood.harness false over (fun _ h => by cases h) (by kernel_rfl) (fun _ h => by cases h) rulesMay_row_tie rfl ⟨rfl, rfl⟩ (by kernel_rfl) rfl
    (fun f fn hf hfn => by
      obtain rfl : f = 4 := Option.some.inj ((show Tryd.prog.funcNamed Rows.rulesMayRow.func = some 4 by kernel_rfl).symm.trans hf) |>.symm
      obtain rfl : fn = Tryd.f4 := (Option.some.inj (Tryd.func4.symm.trans hfn)).symm
      exact ⟨by kernel_rfl, fun j t ht => by
        rw [Tryd.params4] at ht
        have hm : t ∈ [3, 3] := by simpa using Array.mem_of_getElem? ht
        have hall : ([3, 3].all fun u => !Tryd.prog.wantsStandIn u) = true := by kernel_rfl
        exact (show Tryd.prog.wantsStandIn t = false by simpa using List.all_eq_true.1 hall t hm)⟩)
    (by kernel_rfl)
#print axioms proved
end Go.Proofs.YtdjhibahjpibjaaDoor.rulesMay
