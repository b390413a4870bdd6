/-
  FrameReads is proved: of any bytes, also with a sum that fits, there is the frame whose bytes they are, or what is wrong.
-/
import Derived.Test.YtkjephbfbagckaaDoorLaid
import Derived.Test.YtkjephbfbagckaaDoorCards
import Derived.Test.YtkjephbfbagckaaDoorLaw05
namespace Go.Proofs.YtkjephbfbagckaaDoor.frameReads
open Go.ChangeShapes Go.WideShapes Go.ChangeAt Go.RowKit
set_option linter.unusedVariables false      -- a walk need not use every bound of an argument

open CrcMath CrcCalls FrameMath FrameCalls
set_option maxHeartbeats 1000000 in
theorem walk (w : World) (a0 : ByteArray) (w0 : a0.size ≤ 140737488351232) (_hL : laidMetH Tryd.prog Rows.frameReadsRow.laid w) :
    Calls Tryd.prog 4 #[.string a0] w fun e w' => e = .returned (.bool true) ∧ Below w.heap.size w w' := by
  have hz := zero_run
  obtain ⟨c, hc⟩ : ∃ c, cutL a0 300 = c := ⟨_, rfl⟩
  have hcs : c.size ≤ 300 := by rw [← hc]; exact (cutL_le a0 300).1
  go_enter Tryd.func4, Tryd.ntmps4
  go_wp2_with fail
  refine (awake_any _).mono ?_; rintro e w1 ⟨rfl, hb1⟩
  go_wp2_with fail
  refine (cut_any _ _ 300 _ rfl).mono ?_; rintro e w' ⟨rfl, rfl⟩
  rw [hc]
  go_wp2_with fail
  refine (make_any _).mono ?_; rintro e w2 ⟨rfl, hb2⟩
  go_wp2_with (refine wpList_store_row rfl 26 _ _ rfl _ table rfl rfl 26 zeros (heap_alloc_last _ _) (by rw [table_size]; exact tableInfo) (by rw [table_size, zeros_size]) table_cells ?_; rw [World.setRow_alloc_new])
  have hT := Lib.hid (tab_new w2 26)
  have hb3 : Below w.heap.size w (w2.alloc (.cells table 26)) := (hb1.trans (hb2.mono hb1.size)).alloc (Nat.le_trans hb1.size hb2.size) _
  have hs3 := hb3.size
  clear hb1 hb2
  generalize w2.heap.size = B at *
  generalize w2.alloc (.cells table 26) = w3 at *
  refine (rsum_any c _ (by omega)).mono ?_; rintro e w' ⟨rfl, rfl⟩
  go_wp2_with fail
  refine (four_any _ (sum c.data.toList) _ rfl).mono ?_; rintro e w4 ⟨rfl, hb4⟩
  have hadd : ∀ w, (Op.stringOp .add c (wordB (sum c.data.toList))).run Tryd.prog w = .ok (.string (sealB c)) w := fun w => by
    rw [run_string_add_sum _ _ _ (by rw [wordB_size]; omega), sealB_eq]
  have hT4 := Lib.hid ((hT.out.below hb4).alloc (.cells #[.string c, .string (sealB c)] 9))
  have hb4' : Below w.heap.size w (w4.alloc (.cells #[.string c, .string (sealB c)] 9)) := (hb3.trans (hb4.mono hs3)).alloc (Nat.le_trans hs3 hb4.size) _
  have hs4 := hb4'.size
  have hX : ∀ k, k < 2 → ∃ X : ByteArray, X.size ≤ 1000 ∧ (w4.alloc (.cells #[.string c, .string (sealB c)] 9)).cell? ⟨w4.heap.size, k, none⟩ = some (.string X) := fun k hk => by
    match k, hk with
    | 0, _ => exact ⟨c, by omega, by rw [World.cell?_alloc_at _ _ _ _ rfl]; rfl⟩
    | 1, _ => exact ⟨sealB c, by rw [sealB_size]; omega, by rw [World.cell?_alloc_at _ _ _ _ rfl]; rfl⟩
  have HX := Lib.hid hX
  have hlt : w4.heap.size < (w4.alloc (.cells #[.string c, .string (sealB c)] 9)).heap.size := by simp
  clear hX hb4 hb3 hs3 hT
  go_wp2_with fail
  generalize w4.alloc (.cells #[.string c, .string (sealB c)] 9) = w5 at *
  generalize w4.heap.size = g at *
  go_loopw [24] (fun i wr => ∃ k : Nat, k ≤ 2 ∧ i = .int .i64 k ∧ Below w5.heap.size w5 wr) (fun i _ => 2 - (intOf i).toNat)
  case atStart => exact ⟨0, by omega, rfl, Below.refl _ _⟩
  case round =>
    obtain ⟨k, hk, rfl, hb⟩ := hrel
    by_cases hlt2 : k < 2
    · obtain ⟨X, hXs, hc0⟩ := HX.out k hlt2
      have hck : wr.cell? ⟨g, k, none⟩ = some (.string X) := (hb.cell (p := ⟨g, k, none⟩) hlt).trans hc0
      obtain ⟨U, D, E, h1, h2⟩ := parse_both X hXs
      have H1 := Lib.hid h1
      have H2 := Lib.hid h2
      have hTr := Lib.hid (hT4.out.below hb)
      clear h1 h2 hc0
      go_wp2_with fail
      refine (H1.out B _ hTr.out).mono ?_
      rintro e w6 ⟨rfl, hb6⟩
      go_wp2_with fail
      refine (H2.out _).mono ?_
      rintro e w7 ⟨rfl, hb7⟩
      have hg7 := (hb7.block _ (by simp)).trans (heap_alloc_new w6 (.cells #[.int .u8 U, .string D] 31))
      have k0 : w7.cell? ⟨w6.heap.size, 0, none⟩ = some (.int .u8 U) := Go.Joins.cell_of_block hg7 0
      have k1 : w7.cell? ⟨w6.heap.size, 1, none⟩ = some (.string D) := Go.Joins.cell_of_block hg7 1
      have hb7' : Below w5.heap.size w5 w7 := ((hb.trans (hb6.mono hb.size)).alloc (Nat.le_trans hb.size hb6.size) _).trans (hb7.mono (by have := hb.size; have := hb6.size; simp; omega))
      clear hg7 hb hb6 hb7 hTr hck
      go_wp2_with fail
      go_roundw
      case rel => exact ⟨k + 1, by omega, by go_num, hb7'⟩
      case measure => simp [intOf]; omega
    · obtain rfl : k = 2 := by omega
      go_wp2_with fail
      go_ret
      exact ⟨rfl, hb4'.trans (hb.mono hs4)⟩

theorem own : ownKnob Tryd.prog.godebug = none := by kernel_rfl
theorem laidOut : laidOutB Tryd.prog = true := by kernel_rfl

set_option maxRecDepth 100000 in
theorem lifted (os : Os) (started : os.Started) (H : Type) (enc : TypeId × Value → H) :
    ReturnsInHanded {} Tryd.checked os 4 .any (fun w args => (Rows.frameReadsSpec.pre enc Tryd.prog Tryd.f4 Rows.frameReadsRow.domain false w args ∧ laidMetH Tryd.prog Rows.frameReadsRow.laid w) ∧ sizedMet enc Tryd.prog Tryd.f4 (OpenSpec.ofChange Rows.frameReadsSpec) false w args) (Rows.frameReadsSpec.post enc Tryd.prog Tryd.f4 false true false false) := by
  refine Base.law_laid (C := Tryd.checked) own started (by kernel_rfl) Tryd.func4 laidOut (by kernel_rfl) rfl Tryd.underlying4 rfl ?_
    (Base.laid_witness #[.string ⟨#[]⟩] (World.shaped_of_ZipB (by kernel_rfl) (by kernel_rfl)) (by kernel_rfl) (by kernel_rfl) (by kernel_rfl) (by rw [MakeChecks.laidMetH_plain _ _ _ (by kernel_rfl)]; exact laidMet_laidAll _ (by kernel_rfl) (by kernel_rfl))) ?_
  · intro ds h
    match ds, h with
    | [_d0], _ => exact ⟨rfl, rfl, rfl⟩
  · intro W base args ds before hval0 hA0 hlt hsz hL
    have hval : ∀ (j : Nat) t v, Tryd.f4.params[j]? = some t → args[j]? = some v → Value.okWide Tryd.prog W .any base t v := hval0
    have hA : DataW.TrodAll enc Tryd.prog W 0 (fun _ => true) true Tryd.f4.params.toList args.toList ds before := hA0
    clear hval0 hA0
    rw [Tryd.params4] at hA hval hsz
    obtain ⟨v0, vs0, d0, ds0, p0, q0, hargs, rfl, rfl, h0, r0⟩ := trodAll_cons hA
    obtain ⟨rfl, rfl, rfl⟩ := trodAll_nil r0
    obtain rfl : args = #[v0] := by cases args; simp_all
    obtain ⟨a0, rfl, rfl, rfl, _⟩ := Go.ChangeMaps.open_string Tryd.underlying9 (hval 0 9 v0 rfl rfl) h0
    have w0 : a0.size ≤ 140737488351232 := by have := sized_string hsz (j := 0) rfl rfl; simpa [reachBytes] using this
    exact walk W a0 w0 hL

theorem over : Rows.frameReadsRow.holds Tryd.pinned (OpenSpec.ofChange Rows.frameReadsSpec) :=
  OpenClaim.holds_of_wide 4 Tryd.f4 rfl rfl rfl rfl rfl rfl rfl ⟨rfl, rfl, rfl, rfl, rfl⟩ rfl rfl rfl rfl rfl (by kernel_rfl) Tryd.func4 (by kernel_rfl)
    (of_decide_eq_true (by kernel_rfl)) (by unfold Func.isWrapper; first | (rw [if_pos (by decide +kernel)]; kernel_rfl) | (rw [if_neg (by decide +kernel)]; exact ⟨rfl, rfl⟩))
    (fun os started H enc _ => lifted os started H enc)

theorem proved : Rows.FrameReadsCardSaid :=
  Claim7.holds_tied_plain_at .later [] [.data, .pinned] true Rows.frameReadsCard.stood.harness false over (fun _ h => by cases h) (by kernel_rfl) (fun _ h => by cases h) frameReads_row_tie rfl ⟨rfl, rfl⟩ (by kernel_rfl) rfl
    (fun f fn hf hfn => by
      obtain rfl : f = 4 := Option.some.inj ((show Tryd.prog.funcNamed Rows.frameReadsRow.func = some 4 by kernel_rfl).symm.trans hf) |>.symm
      obtain rfl : fn = Tryd.f4 := (Option.some.inj (Tryd.func4.symm.trans hfn)).symm
      exact ⟨by kernel_rfl, fun j t ht => by
        rw [Tryd.params4] at ht
        have hm : t ∈ [9] := by simpa using Array.mem_of_getElem? ht
        have hall : ([9].all fun u => !Tryd.prog.wantsStandIn u) = true := by kernel_rfl
        exact (show Tryd.prog.wantsStandIn t = false by simpa using List.all_eq_true.1 hall t hm)⟩)
    (by kernel_rfl)
#print axioms proved
end Go.Proofs.YtkjephbfbagckaaDoor.frameReads
