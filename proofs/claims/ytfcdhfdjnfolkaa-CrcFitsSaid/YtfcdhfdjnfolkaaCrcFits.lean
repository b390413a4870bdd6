/-
  CrcFits is proved: what fits is just what ends with its sum.
-/
import Derived.Test.YtfcdhfdjnfolkaaBase
import Derived.Test.YtfcdhfdjnfolkaaCrcAwake
import Derived.IntWalk
namespace Go.Proofs.Ytfcdhfdjnfolkaa.crcFits
open Go.ChangeShapes Go.WideShapes Go.ChangeAt Go.RowKit
set_option linter.unusedVariables false      -- a walk need not use every bound of an argument

open CrcMath CrcCalls
set_option maxHeartbeats 1000000 in
theorem walk (w : World) (a0 : ByteArray) (w0 : a0.size ≤ 140737488351232) :
    Calls Try.prog 5 #[.string a0] w fun e w' => e = .returned (.bool true) ∧ Below w.heap.size w w' := by
  obtain ⟨c, hc⟩ : ∃ c, cutL a0 100 = c := ⟨_, rfl⟩
  have hcs : c.size ≤ 100 := by rw [← hc]; exact (cutL_le a0 100).1
  have hz := zero_run
  by_cases h4 : 4 ≤ c.size
  · obtain ⟨m, hm0⟩ : ∃ m, c.size = m + 4 := ⟨c.size - 4, by omega⟩
    have hm : IntKind.i64.wrap ((c.size : Int) - 4) = (m : Int) := by rw [IntWalk.i64_in _ (by omega)]; omega
    have hm5 : (0 : Int) ≤ (m : Int) := by omega
    have hm2 : (m : Int) ≤ (c.size : Int) := by omega
    have hm3 : (m : Int) ≤ 100 := by omega
    have hm4 : (4 : Int) ≤ (c.size : Int) := by omega
    have hx : (c.extract 0 m).size ≤ 140737488351232 := by rw [ByteArray.size_extract]; omega
    have HF := Lib.hid (fits_eq c m hm0)
    clear hm0 h4
    obtain ⟨p, hp⟩ : ∃ p, c.extract 0 m = p := ⟨_, rfl⟩
    obtain ⟨t, ht⟩ : ∃ t, c.extract m c.size = t := ⟨_, rfl⟩
    rw [hp] at hx HF
    rw [ht] at HF
    go_enter Try.func5, Try.ntmps5
    go_wp2_with fail
    refine (awake_any _).mono ?_; rintro e w1 ⟨rfl, hb1⟩
    go_wp2_with fail
    refine (cut_any _ _ 100 _ rfl).mono ?_; rintro e w' ⟨rfl, rfl⟩
    rw [hc]
    go_wp2_with fail
    refine (make_any _).mono ?_; rintro e w2 ⟨rfl, hb2⟩
    go_wp2_with (refine wpList_store_row rfl 26 _ _ rfl _ table rfl rfl 26 zeros (heap_alloc_last _ _) (by rw [table_size]; exact tableInfo) (by rw [table_size, zeros_size]) table_cells ?_; rw [World.setRow_alloc_new])
    have hT := Lib.hid (tab_new w2 26)
    have hb3 : Below w.heap.size w (w2.alloc (.cells table 26)) := (hb1.trans (hb2.mono hb1.size)).alloc (Nat.le_trans hb1.size hb2.size) _
    have hs3 := hb3.size
    clear hb1 hb2
    generalize w2.heap.size = B at *
    generalize w2.alloc (.cells table 26) = w3 at *
    go_region_held3 (fun w' => Below w3.heap.size w3 w')
      (first | (with_reducible assumption) | (with_reducible exact (Below.refl _ _).drew))
      (first
        | (go_at_call 13
           refine (rsum_any p _ hx).mono ?_
           rintro e w' ⟨rfl, rfl⟩)
        | (go_at_call 15
           refine (four_any _ (sum p.data.toList) _ rfl).mono ?_
           rintro e w4 ⟨rfl, hb4⟩
           have hb4' : Below w3.heap.size w3 w4 := (below_drewN (Below.refl _ _) _).trans (hb4.mono (by simp))
           clear hb4))
    have hF := HF.out
    go_wp2_with fail
    have hs4 := hb4'.size
    refine (fits_any B c _ (by exact hT.out.below hb4') (by omega)).mono ?_
    rintro e w5 ⟨rfl, hb5⟩
    go_wp2_with fail
    refine (seal_any B c _ (by exact (hT.out.below hb4').below hb5) (by omega)).mono ?_
    rintro e w6 ⟨rfl, hb6⟩
    go_wp2_with fail
    refine (fits_any B (sealB c) _ (by exact ((hT.out.below hb4').below hb5).below hb6) (by rw [sealB_size]; omega)).mono ?_
    rintro e w7 ⟨rfl, hb7⟩
    rw [sealB_list, fits_seal]
    go_wp2_with fail
    go_ret
    have s5 := hb5.size
    have s6 := hb6.size
    exact ⟨rfl, hb3.trans ((hb4'.mono hs3).trans ((hb5.mono (by omega)).trans ((hb6.mono (by omega)).trans (hb7.mono (by omega)))))⟩
  · have hm4 : decide ((4 : Int) ≤ (c.size : Int)) = false := decide_eq_false (by omega)
    have hF : fits c.data.toList = false := by
      have hl : c.data.toList.length = c.size := rfl
      unfold fits
      rw [decide_eq_false_iff_not, hl]
      omega
    clear h4
    have HF := Lib.hid hF
    clear hF
    go_enter Try.func5, Try.ntmps5
    go_wp2_with fail
    refine (awake_any _).mono ?_; rintro e w1 ⟨rfl, hb1⟩
    go_wp2_with fail
    refine (cut_any _ _ 100 _ rfl).mono ?_; rintro e w' ⟨rfl, rfl⟩
    rw [hc]
    go_wp2_with fail
    refine (make_any _).mono ?_; rintro e w2 ⟨rfl, hb2⟩
    go_wp2_with (refine wpList_store_row rfl 26 _ _ rfl _ table rfl rfl 26 zeros (heap_alloc_last _ _) (by rw [table_size]; exact tableInfo) (by rw [table_size, zeros_size]) table_cells ?_; rw [World.setRow_alloc_new])
    have hT := Lib.hid (tab_new w2 26)
    have hb3 : Below w.heap.size w (w2.alloc (.cells table 26)) := (hb1.trans (hb2.mono hb1.size)).alloc (Nat.le_trans hb1.size hb2.size) _
    have hs3 := hb3.size
    clear hb1 hb2
    generalize w2.heap.size = B at *
    generalize w2.alloc (.cells table 26) = w3 at *
    refine wp_region_quiet_lit (by kernel_rfl) (by kernel_rfl) ?_
    repeat (any_goals (first | go_big_quiet_step (fail) | quiet_step (fail)))
    refine wpQuiet_nil ?_
    intro w4 hw4
    have hb4' : Below w3.heap.size w3 w4 := hw4.elim fun nq h => h ▸ below_drewN (Below.refl _ _) nq
    clear hw4
    have hF := HF.out
    go_wp2_with fail
    have hs4 := hb4'.size
    refine (fits_any B c _ (by exact hT.out.below hb4') (by omega)).mono ?_
    rintro e w5 ⟨rfl, hb5⟩
    go_wp2_with fail
    refine (seal_any B c _ (by exact (hT.out.below hb4').below hb5) (by omega)).mono ?_
    rintro e w6 ⟨rfl, hb6⟩
    go_wp2_with fail
    refine (fits_any B (sealB c) _ (by exact ((hT.out.below hb4').below hb5).below hb6) (by rw [sealB_size]; omega)).mono ?_
    rintro e w7 ⟨rfl, hb7⟩
    rw [sealB_list, fits_seal]
    go_wp2_with fail
    go_ret
    have s5 := hb5.size
    have s6 := hb6.size
    exact ⟨rfl, hb3.trans ((hb4'.mono hs3).trans ((hb5.mono (by omega)).trans ((hb6.mono (by omega)).trans (hb7.mono (by omega)))))⟩

theorem own : ownKnob Try.prog.godebug = none := by kernel_rfl
theorem laidOut : laidOutB Try.prog = true := by kernel_rfl

set_option maxRecDepth 100000 in
theorem lifted (os : Os) (started : os.Started) (H : Type) (enc : TypeId × Value → H) :
    ReturnsInHanded {} Try.checked os 5 .any (Rows.crcFitsSpec.pre6 enc Try.prog Try.f5 Rows.crcFitsRow.domain false) (Rows.crcFitsSpec.post enc Try.prog Try.f5 false true false false) := by
  refine Base.law_lifted (C := Try.checked) own started (by kernel_rfl) Try.func5 laidOut (by kernel_rfl) rfl Try.underlying4 rfl ?_
    (ChangeSpec.witness6 (enc := enc) (C := Try.checked) false ⟨#[], #[.string ⟨#[]⟩], []⟩ 8 (by kernel_rfl) (by kernel_rfl) (by kernel_rfl) (by kernel_rfl)) ?_
  · intro ds h
    match ds, h with
    | [_d0], _ => exact ⟨rfl, rfl, rfl⟩
  · intro W base args ds before hval0 hA0 hlt hsz
    have hval : ∀ (j : Nat) t v, Try.f5.params[j]? = some t → args[j]? = some v → Value.okWide Try.prog W .any base t v := hval0
    have hA : DataW.TrodAll enc Try.prog W 0 (fun _ => true) true Try.f5.params.toList args.toList ds before := hA0
    clear hval0 hA0
    rw [Try.params5] at hA hval hsz
    obtain ⟨v0, vs0, d0, ds0, p0, q0, hargs, rfl, rfl, h0, r0⟩ := trodAll_cons hA
    obtain ⟨rfl, rfl, rfl⟩ := trodAll_nil r0
    obtain rfl : args = #[v0] := by cases args; simp_all
    obtain ⟨a0, rfl, rfl, rfl, _⟩ := Go.ChangeMaps.open_string Try.underlying9 (hval 0 9 v0 rfl rfl) h0
    have w0 : a0.size ≤ 140737488351232 := by have := sized_string hsz (j := 0) rfl rfl; simpa [reachBytes] using this
    exact walk W a0 w0

theorem over : Rows.crcFitsRow.holds Try.pinned (OpenSpec.ofChange Rows.crcFitsSpec) :=
  OpenClaim.holds_of_wide 5 Try.f5 rfl rfl rfl rfl rfl rfl rfl ⟨rfl, rfl, rfl, rfl, rfl⟩ rfl rfl rfl rfl rfl (by kernel_rfl) Try.func5 (by kernel_rfl)
    (of_decide_eq_true (by kernel_rfl)) (by unfold Func.isWrapper; first | (rw [if_pos (by decide +kernel)]; kernel_rfl) | (rw [if_neg (by decide +kernel)]; exact ⟨rfl, rfl⟩))
    (fun os started H enc _ => lifted os started H enc)

theorem proved : Rows.CrcFitsSaid :=
  over
#print axioms proved
end Go.Proofs.Ytfcdhfdjnfolkaa.crcFits
