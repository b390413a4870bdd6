/-
  FrameCells is proved: more data are no fewer cells; a frame has as few as hold its data and the trailer.
-/
import Derived.Test.YtkjephbfbagckaaDoorLaid
import Derived.Test.YtkjephbfbagckaaDoorCards
import Derived.Test.YtkjephbfbagckaaDoorLaw05
namespace Go.Proofs.YtkjephbfbagckaaDoor.frameCells
open Go.ChangeShapes Go.WideShapes Go.ChangeAt Go.RowKit
set_option linter.unusedVariables false      -- a walk need not use every bound of an argument

open CrcMath CrcCalls FrameMath FrameCalls
theorem facts (a : Int) : ∃ m : Nat, min (max a 0) 1099511627776 = (m : Int) ∧ m ≤ 1099511627776 ∧ cellsI (min a 1099511627776) = (cellsN m : Int) := by
  refine ⟨(min (max a 0) 1099511627776).toNat, by omega, by omega, ?_⟩
  unfold cellsI cellsN
  split <;> omega
theorem facts2 (m : Nat) (h : m ≤ 1099511627776) : ∃ c : Nat, cellsN m = c ∧ cellsI ((m : Int) + 1) = ((cellsN (m + 1) : Nat) : Int) ∧ cellsI ((m : Int) + 48) = (c : Int) + 1 ∧ c ≤ 1099511627776 ∧ (c : Int) ≤ ((cellsN (m + 1) : Nat) : Int) ∧ (m : Int) + 8 ≤ 48 * (c : Int) ∧ 48 * ((c : Int) - 1) < (m : Int) + 8 := by
  refine ⟨_, rfl, ?_, ?_, ?_, ?_, ?_, ?_⟩ <;> (unfold cellsN; try unfold cellsI) <;> omega
theorem walk (w : World) (a0 : Int) (w0 : (Lit.int .i64 a0).wf = true) (_hL : laidMetH Tryd.prog Rows.frameCellsRow.laid w) :
    Calls Tryd.prog 8 #[.int .i64 a0] w fun e w' => e = .returned (.bool true) ∧ Below w.heap.size w w' := by
  obtain ⟨n1, n2⟩ := bounds_i64 w0
  obtain ⟨m, hm, hm1, hc0⟩ := facts a0
  obtain ⟨c, hc, h1, h2, h3, h4, h5, h6⟩ := facts2 m hm1
  rw [hc] at hc0
  have HC0 := Lib.hid hc0
  have H1 := Lib.hid h1
  have H2 := Lib.hid h2
  clear hc0 h1 h2 hc
  go_enter Tryd.func8, Tryd.ntmps8
  go_wp2_with fail
  refine (awake_any _).mono ?_; rintro e w1 ⟨rfl, hb1⟩
  go_wp2_with fail
  refine (cells_any (min a0 1099511627776) _ (by omega) (by omega)).mono ?_; rintro e w' ⟨rfl, rfl⟩
  rw [HC0.out]
  go_wp2_with fail
  refine (cells_any ((m : Int) + 1) _ (by omega) (by omega)).mono ?_; rintro e w' ⟨rfl, rfl⟩
  rw [H1.out]
  go_wp2_with fail
  refine (cells_any ((m : Int) + 48) _ (by omega) (by omega)).mono ?_; rintro e w' ⟨rfl, rfl⟩
  rw [H2.out]
  go_wp2_with fail
  go_ret
  exact ⟨rfl, hb1⟩

theorem own : ownKnob Tryd.prog.godebug = none := by kernel_rfl
theorem laidOut : laidOutB Tryd.prog = true := by kernel_rfl

set_option maxRecDepth 100000 in
theorem lifted (os : Os) (started : os.Started) (H : Type) (enc : TypeId × Value → H) :
    ReturnsInHanded {} Tryd.checked os 8 .any (fun w args => (Rows.frameCellsSpec.pre enc Tryd.prog Tryd.f8 Rows.frameCellsRow.domain false w args ∧ laidMetH Tryd.prog Rows.frameCellsRow.laid w) ∧ sizedMet enc Tryd.prog Tryd.f8 (OpenSpec.ofChange Rows.frameCellsSpec) false w args) (Rows.frameCellsSpec.post enc Tryd.prog Tryd.f8 false true false false) := by
  refine Base.law_laid (C := Tryd.checked) own started (by kernel_rfl) Tryd.func8 laidOut (by kernel_rfl) rfl Tryd.underlying4 rfl ?_
    (Base.laid_witness #[.int .i64 0] (World.shaped_of_ZipB (by kernel_rfl) (by kernel_rfl)) (by kernel_rfl) (by kernel_rfl) (by kernel_rfl) (by rw [MakeChecks.laidMetH_plain _ _ _ (by kernel_rfl)]; exact laidMet_laidAll _ (by kernel_rfl) (by kernel_rfl))) ?_
  · intro ds h
    match ds, h with
    | [_d0], _ => exact ⟨rfl, rfl, rfl⟩
  · intro W base args ds before hval0 hA0 hlt hsz hL
    have hval : ∀ (j : Nat) t v, Tryd.f8.params[j]? = some t → args[j]? = some v → Value.okWide Tryd.prog W .any base t v := hval0
    have hA : DataW.TrodAll enc Tryd.prog W 0 (fun _ => true) true Tryd.f8.params.toList args.toList ds before := hA0
    clear hval0 hA0
    rw [Tryd.params8] at hA hval hsz
    obtain ⟨v0, vs0, d0, ds0, p0, q0, hargs, rfl, rfl, h0, r0⟩ := trodAll_cons hA
    obtain ⟨rfl, rfl, rfl⟩ := trodAll_nil r0
    obtain rfl : args = #[v0] := by cases args; simp_all
    obtain ⟨a0, rfl, rfl, rfl, w0⟩ := open_int Tryd.underlying3 (hval 0 3 v0 rfl rfl) h0
    exact walk W a0 w0 hL

theorem over : Rows.frameCellsRow.holds Tryd.pinned (OpenSpec.ofChange Rows.frameCellsSpec) :=
  OpenClaim.holds_of_wide 8 Tryd.f8 rfl rfl rfl rfl rfl rfl rfl ⟨rfl, rfl, rfl, rfl, rfl⟩ rfl rfl rfl rfl rfl (by kernel_rfl) Tryd.func8 (by kernel_rfl)
    (of_decide_eq_true (by kernel_rfl)) (by unfold Func.isWrapper; first | (rw [if_pos (by decide +kernel)]; kernel_rfl) | (rw [if_neg (by decide +kernel)]; exact ⟨rfl, rfl⟩))
    (fun os started H enc _ => lifted os started H enc)

theorem proved : Rows.FrameCellsCardSaid :=
  Claim7.holds_tied_plain_at .later [] [.data, .pinned] true Rows.frameCellsCard.stood.harness false over (fun _ h => by cases h) (by kernel_rfl) (fun _ h => by cases h) frameCells_row_tie rfl ⟨rfl, rfl⟩ (by kernel_rfl) rfl
    (fun f fn hf hfn => by
      obtain rfl : f = 8 := Option.some.inj ((show Tryd.prog.funcNamed Rows.frameCellsRow.func = some 8 by kernel_rfl).symm.trans hf) |>.symm
      obtain rfl : fn = Tryd.f8 := (Option.some.inj (Tryd.func8.symm.trans hfn)).symm
      exact ⟨by kernel_rfl, fun j t ht => by
        rw [Tryd.params8] at ht
        have hm : t ∈ [3] := by simpa using Array.mem_of_getElem? ht
        have hall : ([3].all fun u => !Tryd.prog.wantsStandIn u) = true := by kernel_rfl
        exact (show Tryd.prog.wantsStandIn t = false by simpa using List.all_eq_true.1 hall t hm)⟩)
    (by kernel_rfl)
#print axioms proved
end Go.Proofs.YtkjephbfbagckaaDoor.frameCells
