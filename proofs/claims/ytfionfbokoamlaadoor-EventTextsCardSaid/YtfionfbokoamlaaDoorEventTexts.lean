/-
  EventTexts is proved: each signal's text is the document's; for every input the law returns true.
-/
import Derived.Test.YtfionfbokoamlaaDoorLaid
import Derived.Test.YtfionfbokoamlaaDoorCards
import Derived.Test.YtfionfbokoamlaaDoorEvLaw
namespace Go.Proofs.YtfionfbokoamlaaDoor.eventTexts
open Go.ChangeShapes Go.WideShapes Go.ChangeAt Go.RowKit
set_option linter.unusedVariables false      -- a walk need not use every bound of an argument

open Ev
set_option maxRecDepth 100000 in
theorem walk (w : World) (v : Value) (x : Base.Dat) (h0 : Base.RdV w (.struct [.int .i64, .str, .bool, .int .u8, .int .i64]) x v) (hL : laidMetH Tryd.prog Rows.eventTextsRow.laid w) :
    Calls Tryd.prog 4 #[v] w fun e w' => e = .returned (.bool true) ∧ Below w.heap.size w w' := by
  obtain ⟨k, d, sf, cd, n, rfl, hcd, hk1, hk2, hn1, hn2, _⟩ := open_sig w v x h0
  have HT := Lib.hid (tabs_laid (by kernel_rfl) hL (by simp [Rows.eventTextsRow]) (by simp [Rows.eventTextsRow]) (by simp [Rows.eventTextsRow]))
  clear hL h0 x
  obtain ⟨c, hc⟩ : ∃ c, cutL d 60 = c := ⟨_, rfl⟩
  have HS : Hid (c.size ≤ 10000) := Lib.hid (by rw [← hc]; exact Nat.le_trans (cutL_le d 60).1 (by decide))
  have HC := Lib.hid hc
  obtain ⟨T, hTT⟩ : ∃ T, textK k c sf cd n = T := ⟨_, rfl⟩
  have HTT := Lib.hid hTT
  have HN1 := Lib.hid hn1
  have HN2 := Lib.hid hn2
  have HCD := Lib.hid hcd
  have heq : (T.toList == T.toList) = true := beq_self_eq_true _
  clear hc hTT hn1 hn2 hcd
  go_enter Tryd.func4, Tryd.ntmps4
  go_wp2_with fail
  refine (awake_any _ (HT.out.alloc _)).mono ?_; rintro e w1 ⟨rfl, hb1⟩
  have hb0 : Below w.heap.size w w1 := ((Below.refl w.heap.size w).alloc (Nat.le_refl _) _).trans (hb1.mono (by simp))
  have hg1 : w1.heap[w.heap.size]? = some (.cells #[.int .i64 k, .string d, .bool sf, .int .u8 (cd : Int), .int .i64 n] 31 (0, 0)) := (hb1.block _ (by simp)).trans (heap_alloc_new w _)
  clear hb1
  have k1 := Go.Joins.cell_of_block hg1 1
  have u1 : w1.frozen? ⟨w.heap.size, 1, none⟩ = false := Go.Joins.unfrozen_of_block hg1 1
  go_wp2_with fail
  refine (cut_any d _ 60 _ rfl).mono ?_; rintro e w2 ⟨rfl, rfl⟩
  rw [HC.out]
  go_wp2_with fail
  have hb2 : Below w.heap.size w (w1.setCell ⟨w.heap.size, 1, none⟩ (.string c)) := hb0.setCell (Nat.le_refl _) _
  have hg2 := Go.Joins.block_setCell (i := 1) hg1 (.string c)
  generalize w1.setCell ⟨w.heap.size, 1, none⟩ (.string c) = w2 at *
  have hT2 := Lib.hid (HT.out.below hb2)
  have q0 : w2.cell? ⟨w.heap.size, 0, none⟩ = some (.int .i64 k) := Go.Joins.cell_of_block hg2 0
  have q1 : w2.cell? ⟨w.heap.size, 1, none⟩ = some (.string c) := Go.Joins.cell_of_block hg2 1
  have q2 : w2.cell? ⟨w.heap.size, 2, none⟩ = some (.bool sf) := Go.Joins.cell_of_block hg2 2
  have q3 : w2.cell? ⟨w.heap.size, 3, none⟩ = some (.int .u8 (cd : Int)) := Go.Joins.cell_of_block hg2 3
  have q4 : w2.cell? ⟨w.heap.size, 4, none⟩ = some (.int .i64 n) := Go.Joins.cell_of_block hg2 4
  have hlt : w.heap.size < w2.heap.size := by rcases Array.getElem?_eq_some_iff.1 hg2 with ⟨h, _⟩; exact h
  clear hb0 hg1 k1 u1 hg2
  go_region_held3 (fun w' => w'.cell? ⟨w.heap.size, 0, none⟩ = some (.int .i64 k) ∧ w'.cell? ⟨w.heap.size, 1, none⟩ = some (.string c) ∧ w'.cell? ⟨w.heap.size, 2, none⟩ = some (.bool sf) ∧ w'.cell? ⟨w.heap.size, 3, none⟩ = some (.int .u8 (cd : Int)) ∧ w'.cell? ⟨w.heap.size, 4, none⟩ = some (.int .i64 n) ∧ Below w2.heap.size w2 w')
    (first | (with_reducible assumption) | exact ⟨q0, q1, q2, q3, q4, (Below.refl _ _).drew⟩ | exact ⟨r0, r1, r2, r3, r4, hb4⟩ | exact ⟨r0, r1, r2, r3, r4, (by assumption)⟩)
    (first
      | (go_at_call 13
         refine (text_any k c sf cd n _ (hT2.out.below (by first | exact (Below.refl _ _).drew | assumption)) HS.out HCD.out HN1.out HN2.out).mono ?_
         rintro e w3 ⟨rfl, hb3⟩
         rw [HTT.out]
         (first
           | (have hb4 : Below w2.heap.size w2 w3 := ((Below.refl _ _).drew).trans (hb3.mono (by simp)))
           | (have hb5 := hb4.size
              have hb4 : Below w2.heap.size w2 w3 := hb4.trans (hb3.mono hb5)))
         (have r0 := (hb4.cell (p := ⟨w.heap.size, 0, none⟩) hlt).trans q0)
         (have r1 := (hb4.cell (p := ⟨w.heap.size, 1, none⟩) hlt).trans q1)
         (have r2 := (hb4.cell (p := ⟨w.heap.size, 2, none⟩) hlt).trans q2)
         (have r3 := (hb4.cell (p := ⟨w.heap.size, 3, none⟩) hlt).trans q3)
         (have r4 := (hb4.cell (p := ⟨w.heap.size, 4, none⟩) hlt).trans q4)
         clear hb3)
      | (go_at_call 14
         refine (rtext_any k c sf cd n _ HS.out HCD.out HN1.out HN2.out).mono ?_
         rintro e w3 ⟨rfl, hb3⟩
         rw [HTT.out]
         (first
           | (have hb4 : Below w2.heap.size w2 w3 := ((Below.refl _ _).drew).trans (hb3.mono (by simp)))
           | (have hb5 := hb4.size
              have hb4 : Below w2.heap.size w2 w3 := hb4.trans (hb3.mono hb5)))
         (have r0 := (hb4.cell (p := ⟨w.heap.size, 0, none⟩) hlt).trans q0)
         (have r1 := (hb4.cell (p := ⟨w.heap.size, 1, none⟩) hlt).trans q1)
         (have r2 := (hb4.cell (p := ⟨w.heap.size, 2, none⟩) hlt).trans q2)
         (have r3 := (hb4.cell (p := ⟨w.heap.size, 3, none⟩) hlt).trans q3)
         (have r4 := (hb4.cell (p := ⟨w.heap.size, 4, none⟩) hlt).trans q4)
         clear hb3))
  all_goals go_wp2_with fail
  all_goals go_ret
  all_goals exact ⟨rfl, hb2.trans (hb4.mono (Nat.le_of_lt hlt))⟩

theorem own : ownKnob Tryd.prog.godebug = none := by kernel_rfl
theorem laidOut : laidOutB Tryd.prog = true := by kernel_rfl

set_option maxRecDepth 100000 in
theorem lifted (os : Os) (started : os.Started) (H : Type) (enc : TypeId × Value → H) :
    ReturnsInHanded {} Tryd.checked os 4 .any (fun w args => (Rows.eventTextsSpec.pre enc Tryd.prog Tryd.f4 Rows.eventTextsRow.domain false w args ∧ laidMetH Tryd.prog Rows.eventTextsRow.laid w) ∧ sizedMet enc Tryd.prog Tryd.f4 (OpenSpec.ofChange Rows.eventTextsSpec) false w args) (Rows.eventTextsSpec.post enc Tryd.prog Tryd.f4 false true false false) := by
  refine Base.law_laid (C := Tryd.checked) own started (by kernel_rfl) Tryd.func4 laidOut (by kernel_rfl) rfl Tryd.underlying4 rfl ?_
    (Base.laid_witness #[.agg #[.int .i64 0, .string ⟨#[]⟩, .bool false, .int .u8 0, .int .i64 0]] (World.shaped_of_ZipB (by kernel_rfl) (by kernel_rfl)) (by kernel_rfl) (by kernel_rfl) (by kernel_rfl) (by rw [MakeChecks.laidMetH_plain _ _ _ (by kernel_rfl)]; exact laidMet_laidAll _ (by kernel_rfl) (by kernel_rfl))) ?_
  · intro ds h
    match ds, h with
    | [_d0], _ => exact ⟨rfl, rfl, rfl⟩
  · intro W base args ds before hval0 hA0 hlt hsz hL
    have hval : ∀ (j : Nat) t v, Tryd.f4.params[j]? = some t → args[j]? = some v → Value.okWide Tryd.prog W .any base t v := hval0
    have hA : DataW.TrodAll enc Tryd.prog W 0 (fun _ => true) true Tryd.f4.params.toList args.toList ds before := hA0
    clear hval0 hA0
    rw [Tryd.params4] at hA hval hsz
    obtain ⟨v0, vs0, d0, ds0, p0, q0, hargs, rfl, rfl, h0, r0⟩ := trodAll_cons hA
    obtain ⟨rfl, rfl, rfl⟩ := trodAll_nil r0
    obtain rfl : args = #[v0] := by cases args; simp_all
    obtain ⟨x0, w0⟩ := Base.open_shape (s := (.struct [(.int .i64), .str, .bool, (.int .u8), (.int .i64)])) (by kernel_rfl) (hval 0 31 v0 rfl rfl) h0 (fun x hx => hlt x (by simp [hx])) hsz (j := 0) rfl rfl
    exact walk W v0 x0 w0 hL

theorem over : Rows.eventTextsRow.holds Tryd.pinned (OpenSpec.ofChange Rows.eventTextsSpec) :=
  OpenClaim.holds_of_wide 4 Tryd.f4 rfl rfl rfl rfl rfl rfl rfl ⟨rfl, rfl, rfl, rfl, rfl⟩ rfl rfl rfl rfl rfl (by kernel_rfl) Tryd.func4 (by kernel_rfl)
    (of_decide_eq_true (by kernel_rfl)) (by unfold Func.isWrapper; first | (rw [if_pos (by decide +kernel)]; kernel_rfl) | (rw [if_neg (by decide +kernel)]; exact ⟨rfl, rfl⟩))
    (fun os started H enc _ => lifted os started H enc)

theorem proved : Rows.EventTextsCardSaid :=
  Claim7.holds_tied_plain_at .later [] [.data, .data, .data, .data, .data] true Rows.eventTextsCard.stood.harness false over (fun _ h => by cases h) (by kernel_rfl) (fun _ h => by cases h) eventTexts_row_tie rfl ⟨rfl, rfl⟩ (by kernel_rfl) rfl
    (fun f fn hf hfn => by
      obtain rfl : f = 4 := Option.some.inj ((show Tryd.prog.funcNamed Rows.eventTextsRow.func = some 4 by kernel_rfl).symm.trans hf) |>.symm
      obtain rfl : fn = Tryd.f4 := (Option.some.inj (Tryd.func4.symm.trans hfn)).symm
      exact ⟨by kernel_rfl, fun j t ht => by
        rw [Tryd.params4] at ht
        have hm : t ∈ [31] := by simpa using Array.mem_of_getElem? ht
        have hall : ([31].all fun u => !Tryd.prog.wantsStandIn u) = true := by kernel_rfl
        exact (show Tryd.prog.wantsStandIn t = false by simpa using List.all_eq_true.1 hall t hm)⟩)
    (by kernel_rfl)
#print axioms proved
end Go.Proofs.YtfionfbokoamlaaDoor.eventTexts
