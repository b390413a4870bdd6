/-
  FrameBack is proved: a frame's bytes are the document's, and come back.
-/
import Derived.Test.YtkjephbfbagckaaDoorLaid
import Derived.Test.YtkjephbfbagckaaDoorCards
import Derived.Test.YtkjephbfbagckaaDoorLaw05
namespace Go.Proofs.YtkjephbfbagckaaDoor.frameBack
open Go.ChangeShapes Go.WideShapes Go.ChangeAt Go.RowKit
set_option linter.unusedVariables false      -- a walk need not use every bound of an argument

open CrcMath CrcCalls FrameMath FrameCalls
theorem sizes (n c : Nat) (hc : cellsN n = c) : ∃ m : Nat, 48 * c = m ∧ (m : Int) / 48 = (c : Int) := ⟨48 * c, rfl, by omega⟩
set_option maxHeartbeats 1000000 in
theorem walk (w : World) (a0 : Int) (w0 : (Lit.int .u8 a0).wf = true) (a1 : ByteArray) (w1 : a1.size ≤ 140737488351232) (_hL : laidMetH Tryd.prog Rows.frameBackRow.laid w) :
    Calls Tryd.prog 3 #[.int .u8 a0, .string a1] w fun e w' => e = .returned (.bool true) ∧ Below w.heap.size w w' := by
  obtain ⟨u, rfl, hu⟩ : ∃ u : Nat, a0 = (u : Int) ∧ u < 256 := by
    have := bounds_u8 w0
    exact ⟨a0.toNat, by omega, by omega⟩
  have hz := zero_run
  obtain ⟨d, hd⟩ : ∃ d, cutL a1 400 = d := ⟨_, rfl⟩
  have hds : d.size ≤ 400 := by rw [← hd]; exact (cutL_le a1 400).1
  obtain ⟨F, hF⟩ : ∃ F, frameB (UInt8.ofNat u) d = F := ⟨_, rfl⟩
  obtain ⟨c, hc⟩ : ∃ c, cellsN d.size = c := ⟨_, rfl⟩
  obtain ⟨m, hm1, hm2⟩ := sizes d.size c hc
  have hcI : cellsI (d.size : Int) = (c : Int) := by rw [cellsI_nat, hc]
  have hFs : F.size = m := by rw [← hF, frameB_size, hc, hm1]
  have HF := Lib.hid hF
  have HCI := Lib.hid hcI
  have hcr := cellsN_room d.size
  have hc5 : (c : Int) ≤ 3000 := by omega
  have HC5 := Lib.hid hc5
  clear hF hcI hm1 hc hcr
  go_enter Tryd.func3, Tryd.ntmps3
  go_wp2_with fail
  refine (awake_any _).mono ?_; rintro e w1 ⟨rfl, hb1⟩
  go_wp2_with fail
  refine (cut_any _ _ 400 _ rfl).mono ?_; rintro e w' ⟨rfl, rfl⟩
  rw [hd]
  go_wp2_with fail
  refine (make_any _).mono ?_; rintro e w2 ⟨rfl, hb2⟩
  go_wp2_with (refine wpList_store_row rfl 26 _ _ rfl _ table rfl rfl 26 zeros (heap_alloc_last _ _) (by rw [table_size]; exact tableInfo) (by rw [table_size, zeros_size]) table_cells ?_; rw [World.setRow_alloc_new])
  have hT := Lib.hid (tab_new w2 26)
  have hb3 : Below w.heap.size w (w2.alloc (.cells table 26)) := (hb1.trans (hb2.mono hb1.size)).alloc (Nat.le_trans hb1.size hb2.size) _
  have hs3 := hb3.size
  clear hb1 hb2
  generalize w2.heap.size = B at *
  generalize w2.alloc (.cells table 26) = w3 at *
  refine (bytes_frame B u hu d _ hT.out (by omega)).mono ?_
  rintro e w4 ⟨rfl, hb4⟩
  rw [HF.out]
  have hT4 := Lib.hid (hT.out.below hb4)
  have hb4' := hb3.trans (hb4.mono hs3)
  have hs4 := hb4'.size
  clear hb4 hb3 hs3 hT
  go_wp2_with fail
  refine (parse_backN B u hu d F _ hT4.out HF.out (by omega)).mono ?_
  rintro e w5 ⟨rfl, hb5⟩
  have hb5' := hb4'.trans (hb5.mono hs4)
  have hs5 := hb5'.size
  clear hb4' hs4 hb5
  go_wp2_with fail
  refine (rbytes_any u d _ (by omega)).mono ?_
  rintro e w6 ⟨rfl, hb6⟩
  rw [HF.out]
  have hg6 := (hb6.block _ (by simp)).trans (heap_alloc_new w5 (.cells #[.int .u8 (u : Int), .string d] 31))
  have k0 : w6.cell? ⟨w5.heap.size, 0, none⟩ = some (.int .u8 (u : Int)) := Go.Joins.cell_of_block hg6 0
  have k1 : w6.cell? ⟨w5.heap.size, 1, none⟩ = some (.string d) := Go.Joins.cell_of_block hg6 1
  have hb6' : Below w.heap.size w w6 := (hb5'.alloc hs5 _).trans (hb6.mono (Nat.le_trans hs5 (by simp)))
  clear hg6 hb5' hb6 hs5
  go_wp2_with fail
  refine (cells_any (d.size : Int) _ (by omega) (by omega)).mono ?_
  rintro e w' ⟨rfl, rfl⟩
  rw [HCI.out]
  go_wp2_with fail
  go_ret
  exact ⟨rfl, hb6'⟩

theorem own : ownKnob Tryd.prog.godebug = none := by kernel_rfl
theorem laidOut : laidOutB Tryd.prog = true := by kernel_rfl

set_option maxRecDepth 100000 in
theorem lifted (os : Os) (started : os.Started) (H : Type) (enc : TypeId × Value → H) :
    ReturnsInHanded {} Tryd.checked os 3 .any (fun w args => (Rows.frameBackSpec.pre enc Tryd.prog Tryd.f3 Rows.frameBackRow.domain false w args ∧ laidMetH Tryd.prog Rows.frameBackRow.laid w) ∧ sizedMet enc Tryd.prog Tryd.f3 (OpenSpec.ofChange Rows.frameBackSpec) false w args) (Rows.frameBackSpec.post enc Tryd.prog Tryd.f3 false true false false) := by
  refine Base.law_laid (C := Tryd.checked) own started (by kernel_rfl) Tryd.func3 laidOut (by kernel_rfl) rfl Tryd.underlying4 rfl ?_
    (Base.laid_witness #[.int .u8 0, .string ⟨#[]⟩] (World.shaped_of_ZipB (by kernel_rfl) (by kernel_rfl)) (by kernel_rfl) (by kernel_rfl) (by kernel_rfl) (by rw [MakeChecks.laidMetH_plain _ _ _ (by kernel_rfl)]; exact laidMet_laidAll _ (by kernel_rfl) (by kernel_rfl))) ?_
  · intro ds h
    match ds, h with
    | [_d0, _d1], _ => exact ⟨rfl, rfl, rfl⟩
  · intro W base args ds before hval0 hA0 hlt hsz hL
    have hval : ∀ (j : Nat) t v, Tryd.f3.params[j]? = some t → args[j]? = some v → Value.okWide Tryd.prog W .any base t v := hval0
    have hA : DataW.TrodAll enc Tryd.prog W 0 (fun _ => true) true Tryd.f3.params.toList args.toList ds before := hA0
    clear hval0 hA0
    rw [Tryd.params3] at hA hval hsz
    obtain ⟨v0, vs0, d0, ds0, p0, q0, hargs, rfl, rfl, h0, r0⟩ := trodAll_cons hA
    obtain ⟨v1, vs1, d1, ds1, p1, q1, rfl, rfl, rfl, h1, r1⟩ := trodAll_cons r0
    obtain ⟨rfl, rfl, rfl⟩ := trodAll_nil r1
    obtain rfl : args = #[v0, v1] := by cases args; simp_all
    obtain ⟨a0, rfl, rfl, rfl, w0⟩ := open_int Tryd.underlying5 (hval 0 5 v0 rfl rfl) h0
    obtain ⟨a1, rfl, rfl, rfl, _⟩ := Go.ChangeMaps.open_string Tryd.underlying9 (hval 1 9 v1 rfl rfl) h1
    have w1 : a1.size ≤ 140737488351232 := by have := sized_string hsz (j := 1) rfl rfl; simpa [reachBytes] using this
    exact walk W a0 w0 a1 w1 hL

theorem over : Rows.frameBackRow.holds Tryd.pinned (OpenSpec.ofChange Rows.frameBackSpec) :=
  OpenClaim.holds_of_wide 3 Tryd.f3 rfl rfl rfl rfl rfl rfl rfl ⟨rfl, rfl, rfl, rfl, rfl⟩ rfl rfl rfl rfl rfl (by kernel_rfl) Tryd.func3 (by kernel_rfl)
    (of_decide_eq_true (by kernel_rfl)) (by unfold Func.isWrapper; first | (rw [if_pos (by decide +kernel)]; kernel_rfl) | (rw [if_neg (by decide +kernel)]; exact ⟨rfl, rfl⟩))
    (fun os started H enc _ => lifted os started H enc)

theorem proved : Rows.FrameBackCardSaid :=
  Claim7.holds_tied_plain_at .later [] [.data, .pinned] true Rows.frameBackCard.stood.harness false over (fun _ h => by cases h) (by kernel_rfl) (fun _ h => by cases h) frameBack_row_tie rfl ⟨rfl, rfl⟩ (by kernel_rfl) rfl
    (fun f fn hf hfn => by
      obtain rfl : f = 3 := Option.some.inj ((show Tryd.prog.funcNamed Rows.frameBackRow.func = some 3 by kernel_rfl).symm.trans hf) |>.symm
      obtain rfl : fn = Tryd.f3 := (Option.some.inj (Tryd.func3.symm.trans hfn)).symm
      exact ⟨by kernel_rfl, fun j t ht => by
        rw [Tryd.params3] at ht
        have hm : t ∈ [5, 9] := by simpa using Array.mem_of_getElem? ht
        have hall : ([5, 9].all fun u => !Tryd.prog.wantsStandIn u) = true := by kernel_rfl
        exact (show Tryd.prog.wantsStandIn t = false by simpa using List.all_eq_true.1 hall t hm)⟩)
    (by kernel_rfl)
#print axioms proved
end Go.Proofs.YtkjephbfbagckaaDoor.frameBack
