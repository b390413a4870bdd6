/-
  PipeSpoils is proved: bits that are turned twice alike come as they were; of none none comes; for every input the law returns true.
-/
import Derived.Test.YtoeoigclleijmaaBase
import Derived.Test.YtoeoigclleijmaaPipe4
import Derived.Test.YtoeoigclleijmaaViewR
import Derived.IntWalk
namespace Go.Proofs.Ytoeoigclleijmaa.pipeSpoils
open Go.ChangeShapes Go.WideShapes Go.ChangeAt Go.RowKit
set_option linter.unusedVariables false      -- a walk need not use every bound of an argument

open PipeS RingS View TurnP CrcCalls

set_option maxRecDepth 100000 in
set_option maxHeartbeats 4000000 in
theorem walk (w : World) (s0 : ByteArray) (_h0 : s0.size ≤ 140737488351232) (a1 : Int) (_w1 : (Lit.int .i64 a1).wf = true) (m : Int) (w2 : (Lit.int .u32 m).wf = true) :
    Calls Try.prog 5 #[.string s0, .int .i64 a1, .int .u32 m] w fun e w' => e = .returned (.bool true) ∧ Below w.heap.size w w' := by
  have hm := bounds_u32 w2
  obtain ⟨s, hs⟩ : ∃ s, cutL s0 60 = s := ⟨_, rfl⟩
  have hs60 : s.size ≤ 60 := by rw [← hs]; exact (cutL_le s0 60).1
  obtain ⟨a, ha⟩ : ∃ a, nearI a1 = a := ⟨_, rfl⟩
  have ha2 : -40 ≤ a ∧ a ≤ 400 := by rw [← ha]; exact nearI_le a1
  obtain ⟨v, hv⟩ : ∃ v, outK s 2 a m = v := ⟨_, rfl⟩
  have hvs : v.size ≤ 60 := by rw [← hv]; show (turnB s m a).size ≤ 60; rw [turnB_size]; exact hs60
  have hvt : outK v 2 a m = s := by rw [← hv]; exact turnB_twice s m a
  have HS := Lib.hid hs
  have HA := Lib.hid ha
  have HV := Lib.hid hv
  have HVT := Lib.hid hvt
  have HB := Lib.hid (And.intro (And.intro hs60 hvs) (And.intro ha2 hm))
  clear hs ha hv hvt w2 hm ha2 hs60 hvs
  have hcase : v = s ∨ v ≠ s := Classical.em _
  have HSM1 : Hid (sameK s 2 a m = decide (v = s)) := Lib.hid (by unfold sameK; rw [HV.out]; rfl)
  have HSM2 : Hid (sameK v 2 a m = decide (s = v)) := Lib.hid (by unfold sameK; rw [HVT.out]; rfl)
  go_enter Try.func5, Try.ntmps5
  go_wp2_with fail
  refine (awake_any _).mono ?_; rintro e x1 ⟨rfl, hb1⟩
  have HB1 := Lib.hid hb1
  clear hb1
  go_wp2_with fail
  refine (cut_any s0 60 60 x1 rfl).mono ?_; rintro e x1' ⟨rfl, rfl⟩
  rw [HS.out]
  go_wp2_with fail
  refine (near_any 2 a1 m x1).mono ?_; rintro e x2 ⟨rfl, hb2⟩
  rw [HA.out]
  have HB2 := Lib.hid (HB1.out.trans (hb2.mono HB1.out.size))
  have HZ2 := Lib.hid hb2.size
  clear hb2
  go_wp2_with fail
  have hk0 : (x2.alloc (.cells #[.int .i64 2, .int .i64 a, .int .u32 m] 29)).heap[x2.heap.size]? = some (.cells #[.int .i64 2, .int .i64 a, .int .u32 m] 29 (0, 0)) := heap_alloc_new x2 _
  have HK : Hid (∀ x', Below (x2.heap.size + 1) (x2.alloc (.cells #[.int .i64 2, .int .i64 a, .int .u32 m] 29)) x' → x'.cell? ⟨x2.heap.size, 0, none⟩ = some (.int .i64 2) ∧ x'.cell? ⟨x2.heap.size, 1, none⟩ = some (.int .i64 a) ∧ x'.cell? ⟨x2.heap.size, 2, none⟩ = some (.int .u32 m)) := Lib.hid (fun x' hb => by
    have h1 := (hb.block x2.heap.size (by omega)).trans hk0
    refine ⟨?_, ?_, ?_⟩
    · rw [cell_of_row x' _ 0 _ _ (0, 0) h1]; rfl
    · rw [cell_of_row x' _ 1 _ _ (0, 0) h1]; rfl
    · rw [cell_of_row x' _ 2 _ _ (0, 0) h1]; rfl)
  have HB3 : Hid (Below w.heap.size w (x2.alloc (.cells #[.int .i64 2, .int .i64 a, .int .u32 m] 29))) := Lib.hid (HB2.out.alloc HB2.out.size _)
  have hz : (x2.alloc (.cells #[.int .i64 2, .int .i64 a, .int .u32 m] 29)).heap.size = x2.heap.size + 1 := by simp
  have HZ := Lib.hid hz
  clear hk0 hz
  generalize x2.alloc (.cells #[.int .i64 2, .int .i64 a, .int .u32 m] 29) = W2 at *
  generalize x2.heap.size = g at *
  refine (pnew_any W2 W2 W2.heap.size 1 1 rfl (Below.refl _ _) (Nat.le_refl _)).mono ?_; rintro e x3 ⟨B, R, rfl, _, _, h3⟩
  have H3 := Lib.hid h3
  clear h3
  go_wp2_with fail
  refine (pput_any s (by omega) H3.out).mono ?_; rintro e x4 ⟨rfl, G4, h4, _, _⟩
  rw [show fullCode 1 ([] : List V) = 0 from rfl]
  change PAt W2 W2.heap.size B R 1 [s] G4 1 0 0 x4 at h4
  have H4 := Lib.hid h4
  clear h4
  obtain ⟨k0, k1, k2⟩ := HK.out x4 (by rw [← HZ.out]; exact H4.out.mine.1)
  go_wp2_with fail
  refine (ptake_any 2 a m (by have := HB.out.1.1; omega) (by have := HB.out.2.1; omega) (by have := HB.out.2.1; omega) (by have := HB.out.2.2; omega) (by have := HB.out.2.2; omega) (by omega) (by omega) H4.out).mono ?_; rintro e x5 ⟨rfl, h5, _⟩
  rw [HV.out, show decide ((2 : Int) ≠ 1) = true from rfl]
  rw [HSM1.out] at h5
  obtain ⟨c1, hc1⟩ : ∃ c1, (if decide (v = s) then 0 + 1 else 0) = c1 := ⟨_, rfl⟩
  obtain ⟨b1, hb1⟩ : ∃ b1, (if decide (v = s) then 0 else 0 + 1) = b1 := ⟨_, rfl⟩
  rw [hc1, hb1] at h5
  have HC1 : Hid ((v = s ∧ c1 = 1 ∧ b1 = 0) ∨ (v ≠ s ∧ c1 = 0 ∧ b1 = 1)) := Lib.hid (by
    rcases hcase with h | h
    · left; rw [decide_eq_true h] at hc1 hb1; exact ⟨h, hc1.symm, hb1.symm⟩
    · right; rw [decide_eq_false h] at hc1 hb1; exact ⟨h, hc1.symm, hb1.symm⟩)
  have H5 := Lib.hid h5
  clear h5 k0 k1 k2 hc1 hb1 HSM1
  have hcb : c1 ≤ 1 ∧ b1 ≤ 1 := by rcases HC1.out with h | h <;> omega
  go_wp2_with fail
  refine (pput_any v (by omega) H5.out).mono ?_; rintro e x6 ⟨rfl, G6, h6, _, _⟩
  rw [show fullCode 1 ([] : List V) = 0 from rfl]
  change PAt W2 W2.heap.size B R 1 [v] G6 2 c1 b1 x6 at h6
  have H6 := Lib.hid h6
  clear h6
  obtain ⟨k0, k1, k2⟩ := HK.out x6 (by rw [← HZ.out]; exact H6.out.mine.1)
  go_wp2_with fail
  refine (ptake_any 2 a m (by have := HB.out.1.2; omega) (by have := HB.out.2.1; omega) (by have := HB.out.2.1; omega) (by have := HB.out.2.2; omega) (by have := HB.out.2.2; omega) (by omega) (by omega) H6.out).mono ?_; rintro e x7 ⟨rfl, h7, _⟩
  rw [HVT.out, show decide ((2 : Int) ≠ 1) = true from rfl]
  rw [HSM2.out] at h7
  obtain ⟨c2, hc2⟩ : ∃ c2, (if decide (s = v) then c1 + 1 else c1) = c2 := ⟨_, rfl⟩
  obtain ⟨b2, hb2⟩ : ∃ b2, (if decide (s = v) then b1 else b1 + 1) = b2 := ⟨_, rfl⟩
  rw [hc2, hb2] at h7
  have HC2 : Hid ((v = s ∧ c2 = 2 ∧ b2 = 0) ∨ (v ≠ s ∧ c2 = 0 ∧ b2 = 2)) := Lib.hid (by
    rcases HC1.out with ⟨h, rfl, rfl⟩ | ⟨h, rfl, rfl⟩
    · left; rw [decide_eq_true h.symm] at hc2 hb2; exact ⟨h, hc2.symm, hb2.symm⟩
    · right; rw [decide_eq_false (fun e => h e.symm)] at hc2 hb2; exact ⟨h, hc2.symm, hb2.symm⟩)
  have H7 := Lib.hid h7
  clear h7 k0 k1 k2 hc2 hb2 HSM2
  obtain ⟨k0, k1, k2⟩ := HK.out x7 (by rw [← HZ.out]; exact H7.out.mine.1)
  go_wp2_with fail
  refine (ptake_none 2 a m H7.out).mono ?_; rintro e x8 ⟨rfl, h8, _⟩
  have H8 := Lib.hid h8
  clear h8 k0 k1 k2
  go_wp2_with fail
  refine (pcounts_any H8.out).mono ?_; rintro e x9 ⟨rfl, q9, rfl⟩
  have hend : Below w.heap.size w (x8.drewN q9) := HB3.out.trans ((below_drewN H8.out.mine.1 q9).mono HB3.out.size)
  have HE := Lib.hid hend
  clear hend hcb hcase
  rcases HC2.out with ⟨rfl, rfl, rfl⟩ | ⟨hne, rfl, rfl⟩
  · go_wp2_with fail
    go_ret
    exact ⟨rfl, HE.out⟩
  · have hvd : (v.toList == s.toList) = false := ne_toList hne
    go_wp2_with fail
    go_ret
    exact ⟨rfl, HE.out⟩

theorem own : ownKnob Try.prog.godebug = none := by kernel_rfl
theorem laidOut : laidOutB Try.prog = true := by kernel_rfl

set_option maxRecDepth 100000 in
theorem lifted (os : Os) (started : os.Started) (H : Type) (enc : TypeId × Value → H) :
    ReturnsInHanded {} Try.checked os 5 .any (Rows.pipeSpoilsSpec.pre6 enc Try.prog Try.f5 Rows.pipeSpoilsRow.domain false) (Rows.pipeSpoilsSpec.post enc Try.prog Try.f5 false true false false) := by
  refine Base.law_lifted (C := Try.checked) own started (by kernel_rfl) Try.func5 laidOut (by kernel_rfl) rfl Try.underlying4 rfl ?_
    (ChangeSpec.witness6 (enc := enc) (C := Try.checked) false ⟨#[], #[.string ⟨#[]⟩, .int .i64 0, .int .u32 0], []⟩ 8 (by kernel_rfl) (by kernel_rfl) (by kernel_rfl) (by kernel_rfl)) ?_
  · intro ds h
    match ds, h with
    | [_d0, _d1, _d2], _ => exact ⟨rfl, rfl, rfl⟩
  · intro W base args ds before hval0 hA0 hlt hsz
    have hval : ∀ (j : Nat) t v, Try.f5.params[j]? = some t → args[j]? = some v → Value.okWide Try.prog W .any base t v := hval0
    have hA : DataW.TrodAll enc Try.prog W 0 (fun _ => true) true Try.f5.params.toList args.toList ds before := hA0
    clear hval0 hA0
    rw [Try.params5] at hA hval hsz
    obtain ⟨v0, vs0, d0, ds0, p0, q0, hargs, rfl, rfl, h0, r0⟩ := trodAll_cons hA
    obtain ⟨v1, vs1, d1, ds1, p1, q1, rfl, rfl, rfl, h1, r1⟩ := trodAll_cons r0
    obtain ⟨v2, vs2, d2, ds2, p2, q2, rfl, rfl, rfl, h2, r2⟩ := trodAll_cons r1
    obtain ⟨rfl, rfl, rfl⟩ := trodAll_nil r2
    obtain rfl : args = #[v0, v1, v2] := by cases args; simp_all
    obtain ⟨a0, rfl, rfl, rfl, _⟩ := Go.ChangeMaps.open_string Try.underlying9 (hval 0 9 v0 rfl rfl) h0
    have w0 : a0.size ≤ 140737488351232 := by have := sized_string hsz (j := 0) rfl rfl; simpa [reachBytes] using this
    obtain ⟨a1, rfl, rfl, rfl, w1⟩ := open_int Try.underlying3 (hval 1 3 v1 rfl rfl) h1
    obtain ⟨a2, rfl, rfl, rfl, w2⟩ := open_int Try.underlying27 (hval 2 27 v2 rfl rfl) h2
    exact walk W a0 w0 a1 w1 a2 w2

theorem over : Rows.pipeSpoilsRow.holds Try.pinned (OpenSpec.ofChange Rows.pipeSpoilsSpec) :=
  OpenClaim.holds_of_wide 5 Try.f5 rfl rfl rfl rfl rfl rfl rfl ⟨rfl, rfl, rfl, rfl, rfl⟩ rfl rfl rfl rfl rfl (by kernel_rfl) Try.func5 (by kernel_rfl)
    (of_decide_eq_true (by kernel_rfl)) (by unfold Func.isWrapper; first | (rw [if_pos (by decide +kernel)]; kernel_rfl) | (rw [if_neg (by decide +kernel)]; exact ⟨rfl, rfl⟩))
    (fun os started H enc _ => lifted os started H enc)

theorem proved : Rows.PipeSpoilsSaid :=
  over
#print axioms proved
end Go.Proofs.Ytoeoigclleijmaa.pipeSpoils
