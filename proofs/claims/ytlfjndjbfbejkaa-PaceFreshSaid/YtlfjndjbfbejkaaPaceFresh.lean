/-
  PaceFresh is proved: from a beginning on, let alone, a poll is due first, and silence is over at its tick; for every input the law returns true.
-/
import Derived.Test.YtlfjndjbfbejkaaBase
import Derived.Test.YtlfjndjbfbejkaaPaceB
import Derived.Test.YtlfjndjbfbejkaaRefSame
import Derived.BigQuiet
namespace Go.Proofs.Ytlfjndjbfbejkaa.paceFresh
open Go.ChangeShapes Go.WideShapes Go.ChangeAt Go.RowKit
set_option linter.unusedVariables false      -- a walk need not use every bound of an argument

open Pace View Bank
set_option maxRecDepth 100000 in
set_option maxHeartbeats 8000000 in
theorem walk (w : World) (v0 : Value) (D : List Int) (w0 : Base.IntSlice .i64 8 w v0 D) :
    Calls Try.prog 5 #[v0] w fun e w' => e = .returned (.bool true) ∧ Below w.heap.size w w' := by
  obtain ⟨a, cap, rfl, hr, hD, hn⟩ := Pace.rd_ints w0
  have HL := Lib.hid hr
  have HD := Lib.hid hD
  have HN := Lib.hid hn
  clear w0 hr hD hn
  go_enter Try.func5, Try.ntmps5
  go_wp2_with fail
  refine (pawake_any _).mono ?_; rintro e W1 ⟨rfl, hb1⟩
  have B1 := Lib.hid hb1
  clear hb1
  go_wp2_with fail
  refine (right_any a _ cap D _ (HL.out.below B1.out) HN.out HD.out).mono ?_; rintro e W2 ⟨v, K, rfl, hown, hK, hb⟩
  have HK := Lib.hid hK
  have B2 := Lib.hid (B1.out.trans (hb.mono B1.out.size))
  obtain ⟨k0, k1, k2, k3, k4, rfl⟩ := five_of hK.1
  have h2 := Five.own (N := fun _ => False) hown hK.1 (fun _ h => h.elim)
  have HF2 := Lib.hid h2
  obtain ⟨gv, ov, cv, rfl, _, _⟩ := h2
  clear hown hb hK HL HN HD B1
  go_wp2_with fail
  refine (own_any (fun _ => False) _ k0 k1 k2 k3 k4 _ HF2.out).mono ?_; rintro e W3 ⟨rfl, hb⟩
  have B3 := Lib.hid (B2.out.trans (hb.mono B2.out.size))
  have HF3 := Lib.hid (HF2.out.below hb)
  clear hb HF2 B2
  go_wp2_with fail
  refine (new_any k0 k1 k2 k3 k4 _ HK.out).mono ?_; rintro e W4 ⟨B, rfl, hB, h4, hb⟩
  have HB : Hid (w.heap.size ≤ B) := Lib.hid (Nat.le_trans B3.out.size hB)
  have HA4 := Lib.hid h4
  have B4 := Lib.hid (B3.out.trans (hb.mono B3.out.size))
  have HF4 : Hid (Five W4 (fun b => b = B) (.slice (some ⟨gv, ov, none⟩) 5 cv) [k0, k1, k2, k3, k4]) := Lib.hid ((HF3.out.grow (N' := fun b => b = B) (fun b hb => .inr (by omega))).below hb)
  clear hb h4 hB HF3 B3
  go_wp2_with fail
  refine (begin_any B _ _ _ HA4.out).mono ?_; rintro e W5 ⟨⟨v5, rfl⟩, h5, ho⟩
  rw [begin_fresh] at h5
  have HA5 := Lib.hid h5
  have B5 := Lib.hid (ho.below B4.out B4.out.size HB.out)
  have HF5 := Lib.hid (HF4.out.only ho rfl)
  have hK1 := HK.out.2.1 1 (by decide)
  have hK3 := HK.out.2.1 3 (by decide)
  have hK13 := HK.out.2.2.1
  simp only [List.getD_cons_zero, List.getD_cons_succ] at hK1 hK3 hK13
  obtain ⟨p1, p2⟩ := hK1
  obtain ⟨p3, p4⟩ := hK3
  clear h5 ho HA4 B4 HF4
  go_wp2_with fail
  go_loopw [5] (fun s5 wr => ∃ j : Nat, j ≤ k3 ∧ s5 = .int .i64 ((j : Int) + 1) ∧ Hid (At wr B [k0, k1, k2, k3, k4] (fresh k1 k3 j)) ∧ Hid (Five wr (fun b => b = B) (.slice (some ⟨gv, ov, none⟩) 5 cv) [k0, k1, k2, k3, k4]) ∧ Hid (Below w.heap.size w wr)) (fun s5 _ => 1048578 - (intOf s5).toNat)
  case atStart => exact ⟨0, Nat.zero_le _, by go_num, HA5, HF5, B5⟩
  case round =>
    obtain ⟨j, hj, rfl, ha, hf, hb⟩ := hrel
    have c3 := hf.out.cell 3 (by decide)
    simp only [List.getD_cons_zero, List.getD_cons_succ] at c3
    by_cases hlt : j < k3
    · have hle : (j : Int) + 1 ≤ (k3 : Int) := by omega
      have HLT := Lib.hid hlt
      have HSB : Hid (w.heap.size ≤ wr.heap.size) := Lib.hid hb.out.size
      clear hj hlt
      go_wp2_with fail
      refine (tick_at B _ _ _ ha.out).mono ?_; rintro e w2 ⟨v2, rfl, hv, h2, ho⟩
      rw [fresh_tick] at h2
      have HA2 := Lib.hid h2
      have HB2 := Lib.hid (ho.below hb.out hb.out.size HB.out)
      have HF2 := Lib.hid (hf.out.only ho rfl)
      obtain ⟨a2, n2, c2, rfl, _, hr2⟩ := hv.form
      have HR2 := Lib.hid hr2
      have hn2 : n2 ≤ 5 := by rw [hr2.1]; exact overs_len _ 5
      have hn2' : (n2 : Int) ≤ 5 := by omega
      have e1 := HF2.out.cell 1 (by decide)
      have e3 := HF2.out.cell 3 (by decide)
      simp only [List.getD_cons_zero, List.getD_cons_succ] at e1 e3
      clear hv h2 ho hr2 c3 hle ha hf hb
      go_wp2_with fail
      go_loopw [38] (fun s38 wr => ∃ m : Nat, m ≤ n2 ∧ s38 = .int .i64 (m : Int) ∧ wr = w2) (fun s38 _ => n2 - (intOf s38).toNat)
      case atStart => exact ⟨0, Nat.zero_le _, rfl, rfl⟩
      case round =>
        obtain ⟨m, hm, rfl, hwr⟩ := hrel
        subst hwr
        by_cases hmn : m < n2
        · obtain ⟨b, off, rfl, _, hc⟩ := HR2.out.at_ hmn
          obtain ⟨x, hx⟩ : ∃ x, (oversL (fresh k1 k3 j)).getD m 0 = x := ⟨_, rfl⟩
          rw [hx] at hc
          have hxm : x ∈ oversL (fresh k1 k3 j) := by rw [← hx]; have := HR2.out.1; simp [List.getD, show m < (oversL (fresh k1 k3 j)).length by omega]
          have hcase := fresh_over x hxm
          have HM := Lib.hid (show m + 1 ≤ n2 by omega)
          have hmi : (m : Int) < (n2 : Int) := by omega
          have hm5 : (m : Int) ≤ 5 := by omega
          clear hx hxm hmn hm
          rcases hcase with ⟨rfl, hk⟩ | ⟨rfl, hk⟩
          · have hne : (((j : Int) + 1) != (k1 : Int)) = false := by simp; omega
            clear hk
            go_wp2_with fail
            go_roundw
            case rel => exact ⟨m + 1, HM.out, by go_num, trivial⟩
            case measure => simp [intOf]; have := HM.out; omega
          · have hne : (((j : Int) + 1) != (k3 : Int)) = false := by simp; omega
            clear hk
            go_wp2_with fail
            go_roundw
            case rel => exact ⟨m + 1, HM.out, by go_num, trivial⟩
            case measure => simp [intOf]; have := HM.out; omega
        · obtain rfl : m = n2 := by omega
          clear hm hmn
          by_cases q3 : j + 1 < k3
          all_goals by_cases q1 : j + 1 < k1
          · have d3 : decide ((j : Int) + 1 < (k3 : Int)) = true := decide_eq_true (by omega)
            have d1 : decide ((j : Int) + 1 < (k1 : Int)) = true := decide_eq_true (by omega)
            have R3 : Hid (∀ q, Calls Try.prog 17 #[.pointer (some ⟨B, 0, none⟩), .int .i64 3] (wr.drewN q) fun e w' => e = .returned (.bool true) ∧ w' = wr.drewN q) := Lib.hid (fun q =>
              (runs_at B _ _ _ 3 3 rfl (by decide) (HA2.out.drewN q)).mono fun e w' ⟨he, hw⟩ => ⟨by rw [he]; simp [fresh]; omega, hw.symm⟩)
            have R1 : Hid (∀ q, Calls Try.prog 17 #[.pointer (some ⟨B, 0, none⟩), .int .i64 1] (wr.drewN q) fun e w' => e = .returned (.bool true) ∧ w' = wr.drewN q) := Lib.hid (fun q =>
              (runs_at B _ _ _ 1 1 rfl (by decide) (HA2.out.drewN q)).mono fun e w' ⟨he, hw⟩ => ⟨by rw [he]; simp [fresh]; omega, hw.symm⟩)
            have hj2 : (j : Int) ≤ 1048576 := by have := HLT.out; omega
            clear q3 q1
            go_wp2_with fail
            go_quiet (first
              | with_reducible exact Calls.quiet_of_same (R3.out _)
              | with_reducible exact Calls.quiet_of_same (R1.out _))
            go_wp2_with fail
            go_roundw
            case rel => exact ⟨j + 1, HLT.out, by go_num, Lib.hid (HA2.out.drewN nq), Lib.hid (HF2.out.below (View.below_drewN (Below.refl _ _) nq)), Lib.hid (View.below_drewN HB2.out nq)⟩
            case measure => simp [intOf]; have := HLT.out; omega
          · have d3 : decide ((j : Int) + 1 < (k3 : Int)) = true := decide_eq_true (by omega)
            have d1 : decide ((j : Int) + 1 < (k1 : Int)) = false := decide_eq_false (by omega)
            have R3 : Hid (∀ q, Calls Try.prog 17 #[.pointer (some ⟨B, 0, none⟩), .int .i64 3] (wr.drewN q) fun e w' => e = .returned (.bool true) ∧ w' = wr.drewN q) := Lib.hid (fun q =>
              (runs_at B _ _ _ 3 3 rfl (by decide) (HA2.out.drewN q)).mono fun e w' ⟨he, hw⟩ => ⟨by rw [he]; simp [fresh]; omega, hw.symm⟩)
            have R1 : Hid (∀ q, Calls Try.prog 17 #[.pointer (some ⟨B, 0, none⟩), .int .i64 1] (wr.drewN q) fun e w' => e = .returned (.bool false) ∧ w' = wr.drewN q) := Lib.hid (fun q =>
              (runs_at B _ _ _ 1 1 rfl (by decide) (HA2.out.drewN q)).mono fun e w' ⟨he, hw⟩ => ⟨by rw [he]; simp [fresh]; omega, hw.symm⟩)
            have hj2 : (j : Int) ≤ 1048576 := by have := HLT.out; omega
            clear q3 q1
            go_wp2_with fail
            go_quiet (first
              | with_reducible exact Calls.quiet_of_same (R3.out _)
              | with_reducible exact Calls.quiet_of_same (R1.out _))
            go_wp2_with fail
            go_roundw
            case rel => exact ⟨j + 1, HLT.out, by go_num, Lib.hid (HA2.out.drewN nq), Lib.hid (HF2.out.below (View.below_drewN (Below.refl _ _) nq)), Lib.hid (View.below_drewN HB2.out nq)⟩
            case measure => simp [intOf]; have := HLT.out; omega
          · have d3 : decide ((j : Int) + 1 < (k3 : Int)) = false := decide_eq_false (by omega)
            have d1 : decide ((j : Int) + 1 < (k1 : Int)) = true := decide_eq_true (by omega)
            have R3 : Hid (∀ q, Calls Try.prog 17 #[.pointer (some ⟨B, 0, none⟩), .int .i64 3] (wr.drewN q) fun e w' => e = .returned (.bool false) ∧ w' = wr.drewN q) := Lib.hid (fun q =>
              (runs_at B _ _ _ 3 3 rfl (by decide) (HA2.out.drewN q)).mono fun e w' ⟨he, hw⟩ => ⟨by rw [he]; simp [fresh]; omega, hw.symm⟩)
            have R1 : Hid (∀ q, Calls Try.prog 17 #[.pointer (some ⟨B, 0, none⟩), .int .i64 1] (wr.drewN q) fun e w' => e = .returned (.bool true) ∧ w' = wr.drewN q) := Lib.hid (fun q =>
              (runs_at B _ _ _ 1 1 rfl (by decide) (HA2.out.drewN q)).mono fun e w' ⟨he, hw⟩ => ⟨by rw [he]; simp [fresh]; omega, hw.symm⟩)
            have hj2 : (j : Int) ≤ 1048576 := by have := HLT.out; omega
            clear q3 q1
            go_wp2_with fail
            go_quiet (first
              | with_reducible exact Calls.quiet_of_same (R3.out _)
              | with_reducible exact Calls.quiet_of_same (R1.out _))
            go_wp2_with fail
            go_roundw
            case rel => exact ⟨j + 1, HLT.out, by go_num, Lib.hid (HA2.out.drewN nq), Lib.hid (HF2.out.below (View.below_drewN (Below.refl _ _) nq)), Lib.hid (View.below_drewN HB2.out nq)⟩
            case measure => simp [intOf]; have := HLT.out; omega
          · have d3 : decide ((j : Int) + 1 < (k3 : Int)) = false := decide_eq_false (by omega)
            have d1 : decide ((j : Int) + 1 < (k1 : Int)) = false := decide_eq_false (by omega)
            have R3 : Hid (∀ q, Calls Try.prog 17 #[.pointer (some ⟨B, 0, none⟩), .int .i64 3] (wr.drewN q) fun e w' => e = .returned (.bool false) ∧ w' = wr.drewN q) := Lib.hid (fun q =>
              (runs_at B _ _ _ 3 3 rfl (by decide) (HA2.out.drewN q)).mono fun e w' ⟨he, hw⟩ => ⟨by rw [he]; simp [fresh]; omega, hw.symm⟩)
            have R1 : Hid (∀ q, Calls Try.prog 17 #[.pointer (some ⟨B, 0, none⟩), .int .i64 1] (wr.drewN q) fun e w' => e = .returned (.bool false) ∧ w' = wr.drewN q) := Lib.hid (fun q =>
              (runs_at B _ _ _ 1 1 rfl (by decide) (HA2.out.drewN q)).mono fun e w' ⟨he, hw⟩ => ⟨by rw [he]; simp [fresh]; omega, hw.symm⟩)
            have hj2 : (j : Int) ≤ 1048576 := by have := HLT.out; omega
            clear q3 q1
            go_wp2_with fail
            go_quiet (first
              | with_reducible exact Calls.quiet_of_same (R3.out _)
              | with_reducible exact Calls.quiet_of_same (R1.out _))
            go_wp2_with fail
            go_roundw
            case rel => exact ⟨j + 1, HLT.out, by go_num, Lib.hid (HA2.out.drewN nq), Lib.hid (HF2.out.below (View.below_drewN (Below.refl _ _) nq)), Lib.hid (View.below_drewN HB2.out nq)⟩
            case measure => simp [intOf]; have := HLT.out; omega

    · obtain rfl : j = k3 := by omega
      rw [fresh_end hK13] at ha
      clear hj hlt
      have hgt : ¬ ((j : Int) + 1 ≤ (j : Int)) := by omega
      go_wp2_with fail
      refine (safe_any B _ _ _ ha.out).mono ?_; rintro e w2 ⟨rfl, q, rfl⟩
      rw [show safeL zeroL = true from by decide]
      go_wp2_with fail
      refine (tick_at B _ _ _ (ha.out.drewN q)).mono ?_; rintro e w3 ⟨v3, rfl, hv, _, ho⟩
      rw [show oversL zeroL = [] from by decide] at hv
      obtain ⟨a3, n3, c3', rfl, _, hr3⟩ := hv.form
      obtain rfl : n3 = 0 := hr3.1
      have HB3 := Lib.hid (ho.below (View.below_drewN hb.out q) (by have := hb.out.size; simpa using this) HB.out)
      clear hv ho hr3
      go_wp2_with fail
      go_ret
      exact ⟨rfl, HB3.out⟩

theorem own : ownKnob Try.prog.godebug = none := by kernel_rfl
theorem laidOut : laidOutB Try.prog = true := by kernel_rfl

set_option maxRecDepth 100000 in
theorem lifted (os : Os) (started : os.Started) (H : Type) (enc : TypeId × Value → H) :
    ReturnsInHanded {} Try.checked os 5 .any (Rows.paceFreshSpec.pre6 enc Try.prog Try.f5 Rows.paceFreshRow.domain false) (Rows.paceFreshSpec.post enc Try.prog Try.f5 false true false false) := by
  refine Base.law_lifted (C := Try.checked) own started (by kernel_rfl) Try.func5 laidOut (by kernel_rfl) rfl Try.underlying4 rfl ?_
    (ChangeSpec.witness6 (enc := enc) (C := Try.checked) false ⟨#[], #[.slice none 0 0], []⟩ 8 (by kernel_rfl) (by kernel_rfl) (by kernel_rfl) (by kernel_rfl)) ?_
  · intro ds h
    match ds, h with
    | [_d0], _ => exact ⟨rfl, rfl, rfl⟩
  · intro W base args ds before hval0 hA0 hlt hsz
    have hval : ∀ (j : Nat) t v, Try.f5.params[j]? = some t → args[j]? = some v → Value.okWide Try.prog W .any base t v := hval0
    have hA : DataW.TrodAll enc Try.prog W 0 (fun _ => true) true Try.f5.params.toList args.toList ds before := hA0
    clear hval0 hA0
    rw [Try.params5] at hA hval hsz
    obtain ⟨v0, vs0, d0, ds0, p0, q0, hargs, rfl, rfl, h0, r0⟩ := trodAll_cons hA
    obtain ⟨rfl, rfl, rfl⟩ := trodAll_nil r0
    obtain rfl : args = #[v0] := by cases args; simp_all
    obtain ⟨a0, w0⟩ := Base.open_int_slice Try.underlying22 Try.underlying3 (by kernel_rfl) (by kernel_rfl) (hval 0 22 v0 rfl rfl) h0 (fun x hx => hlt x (by simp [hx])) (Base.sized_at hsz (j := 0) rfl rfl)
    exact walk W v0 a0 w0

theorem over : Rows.paceFreshRow.holds Try.pinned (OpenSpec.ofChange Rows.paceFreshSpec) :=
  OpenClaim.holds_of_wide 5 Try.f5 rfl rfl rfl rfl rfl rfl rfl ⟨rfl, rfl, rfl, rfl, rfl⟩ rfl rfl rfl rfl rfl (by kernel_rfl) Try.func5 (by kernel_rfl)
    (of_decide_eq_true (by kernel_rfl)) (by unfold Func.isWrapper; first | (rw [if_pos (by decide +kernel)]; kernel_rfl) | (rw [if_neg (by decide +kernel)]; exact ⟨rfl, rfl⟩))
    (fun os started H enc _ => lifted os started H enc)

theorem proved : Rows.PaceFreshSaid :=
  over
#print axioms proved
end Go.Proofs.Ytlfjndjbfbejkaa.paceFresh
