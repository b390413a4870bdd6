/-
  GapsMoves is proved: the pairs of a set are moved with its base; for every input the law returns true.
-/
import Derived.Test.YtpaogpjdkkkihaaBase
import Derived.Test.YtpaogpjdkkkihaaGapsA
import Derived.Deep.RegionHeld3
namespace Go.Proofs.Ytpaogpjdkkkihaa.gapsMoves
open Go.ChangeShapes Go.WideShapes Go.ChangeAt Go.RowKit
set_option linter.unusedVariables false      -- a walk need not use every bound of an argument

open Gaps SpanMath
set_option maxRecDepth 100000 in
set_option maxHeartbeats 4000000 in
theorem walk (w : World) (a0 : Int) (w0 : (Lit.int .u32 a0).wf = true) (v1 : Value) (D : List (Int × Int)) (w1 : Base.Pairs w v1 D) (by_ : Int) (w2 : (Lit.int .i64 by_).wf = true) :
    Calls Try.prog 8 #[.int .u32 a0, v1, .int .i64 by_] w fun e w' => e = .returned (.bool true) ∧ Below w.heap.size w w' := by
  obtain ⟨x1, x2⟩ := bounds_u32 w0
  obtain ⟨a, n, cap, rfl, hf, hr⟩ := Law03.rd_pairs w1
  obtain ⟨S, hS, hsm⟩ := Law03.few_set D
  obtain ⟨R, hR, hRs⟩ := few_pos hS
  have HL := Lib.hid hr
  have HS := Lib.hid hS
  have HSM := Lib.hid hsm
  have HR := Lib.hid hR
  have HRS := Lib.hid hRs
  clear w0 w1 w2 hr hf hS hsm hR hRs
  go_enter Try.func8, Try.ntmps8
  go_wp2_with fail
  refine (gawake_any _).mono ?_; rintro e W1 ⟨rfl, hb1⟩
  have B1 := Lib.hid hb1
  clear hb1
  go_wp2_with fail
  refine (Law03.few_any a n cap D _ (HL.out.below B1.out)).mono ?_; rintro e W2 ⟨f1, f2, A, rfl, hown, hown2, hj, hb2⟩
  obtain ⟨aF, nF, cF, rfl, hfF, hrF⟩ := hown.form
  have B2 := Lib.hid (B1.out.trans (hb2.mono B1.out.size))
  have HRF := Lib.hid hrF
  have HFF := Lib.hid hfF
  clear hown hown2 hj hb2 hrF hfF
  go_wp2_with fail
  refine (SpanCalls.of_any aF nF cF (Law03.fewL D) S _ HRF.out HFF.out (Law03.few_near D) HS.out).mono ?_; rintro e W3 ⟨v3, rfl, ho3, hb3⟩
  obtain ⟨a3, n3, c3, rfl, hf3, hr3⟩ := ho3.form
  have B3 := Lib.hid (B2.out.trans (hb3.mono B2.out.size))
  have R3 := Lib.hid hr3
  have F3 := Lib.hid hf3
  clear ho3 hb3 hr3 hf3
  go_wp2_with fail
  refine (SeqCalls.low_any a0 _ x1 (by omega)).mono ?_; rintro e W4 ⟨rfl, rfl⟩
  obtain ⟨b, hb⟩ : ∃ b, a0 % 16777216 = b := ⟨_, rfl⟩
  rw [hb]
  clear hb
  go_wp2_with fail
  refine (glist_any b a3 n3 c3 S S R _ R3.out F3.out (Law03.near_small HSM.out) (Law03.set_again HS.out) (by have := HSM.out.1; omega) HR.out (by have := HRS.out.1; omega)).mono ?_; rintro e W4 ⟨v4, rfl, ho4, hb4⟩
  obtain ⟨a4, c4, rfl, hf4, hr4⟩ := own_rd ho4
  have B4 := Lib.hid (B3.out.trans (hb4.mono B3.out.size))
  have R4 := Lib.hid hr4
  have F4 := Lib.hid hf4
  have R34 := Lib.hid (R3.out.below hb4)
  clear ho4 hb4 hr4 hf4
  go_wp2_with fail
  refine (SeqCalls.add_any _ _ _).mono ?_; rintro e W5 ⟨rfl, rfl⟩
  obtain ⟨b2, hb2⟩ : ∃ b2, (b + by_) % 16777216 = b2 := ⟨_, rfl⟩
  rw [hb2]
  have HB2 := Lib.hid hb2
  clear hb2
  go_wp2_with fail
  refine (glist_any b2 a3 n3 c3 S S R _ R34.out F3.out (Law03.near_small HSM.out) (Law03.set_again HS.out) (by have := HSM.out.1; omega) HR.out (by have := HRS.out.1; omega)).mono ?_; rintro e W5 ⟨v5, rfl, ho5, hb5⟩
  obtain ⟨a5, c5, rfl, hf5, hr5⟩ := own_rd ho5
  have B5 := Lib.hid (B4.out.trans (hb5.mono B4.out.size))
  have R5 := Lib.hid hr5
  have F5 := Lib.hid hf5
  have R45 := Lib.hid (R4.out.below hb5)
  clear ho5 hb5 hr5 hf5 R4
  have HLEN : Hid ((flatB b R).length = (flatB b2 R).length) := Lib.hid (by rw [flatB_len, flatB_len])
  have HAT := Lib.hid (fun i (h : i < (flatB b R).length) => flatB_at b R i h)
  have HAT2 := Lib.hid (fun i (h : i < (flatB b2 R).length) => flatB_at b2 R i h)
  have HCNT : Hid (countL (flatB b R) = countL (flatB b2 R)) := Lib.hid (by rw [count_flat, count_flat])
  have HM : Hid ((flatB b R).length ≤ 10000) := Lib.hid (by rw [flatB_len]; have := HRS.out.1; omega)
  generalize flatB b R = P at *
  generalize flatB b2 R = Q at *
  obtain ⟨m, hm⟩ : ∃ m, P.length = m := ⟨_, rfl⟩
  have hm2 : Q.length = m := by rw [← HLEN.out, hm]
  rw [hm] at R45 F4
  rw [hm2] at R5 F5
  rw [hm, hm2]
  have HMM : Hid (m ≤ 10000) := Lib.hid (by rw [← hm]; exact HM.out)
  have HPL := Lib.hid hm
  have HQL := Lib.hid hm2
  clear hm hm2
  go_wp2_with fail
  go_loopw [40] (fun s40 wr => ∃ i : Nat, i ≤ m ∧ s40 = .int .i64 (i : Int) ∧ ∃ q, wr = W5.drewN q) (fun s40 _ => m - (intOf s40).toNat)
  case atStart => exact ⟨0, Nat.zero_le _, rfl, 0, rfl⟩
  case round =>
    obtain ⟨i, hi, rfl, q, rfl⟩ := hrel
    have B6 := Lib.hid (View.below_drewN B5.out q)
    have R46 := Lib.hid (R45.out.drewN q)
    have R56 := Lib.hid (R5.out.drewN q)
    obtain ⟨W6, hW6⟩ : ∃ W6, W5.drewN q = W6 := ⟨_, rfl⟩
    have HW6 := Lib.hid hW6
    rw [hW6] at B6 R46 R56 ⊢
    clear hW6
    by_cases him : i < m
    · obtain ⟨bb, off, rfl, _, hc⟩ := R46.out.at_ him
      obtain ⟨bb2, off2, rfl, _, hc2⟩ := R56.out.at_ him
      have e1 := HAT.out i (by rw [HPL.out]; exact him)
      have e2 := HAT2.out i (by rw [HQL.out]; exact him)
      obtain ⟨x, hx⟩ : ∃ x, P.getD i 0 = x := ⟨_, rfl⟩
      obtain ⟨y, hy⟩ : ∃ y, Q.getD i 0 = y := ⟨_, rfl⟩
      rw [hx] at hc e1
      rw [hy] at hc2 e2
      have hxy : (x + by_) % 16777216 = y := by
        rw [e1, e2, ← HB2.out]
        generalize (if i % 2 = 0 then (R.getD (i / 2) (0, 0)).1 else (R.getD (i / 2) (0, 0)).2) = z
        omega
      have HXY := Lib.hid hxy
      have HI := Lib.hid him
      have hii : (i : Int) < (m : Int) := by omega
      have hi0 : (i : Int) ≤ 10000 := by have := HMM.out; omega
      have hne : (y != y) = false := by simp
      have hadd : ∀ W : World, Calls Try.prog 18 #[.int .u32 x, .int .i64 by_] W fun e w' => e = .returned (.int .u32 y) ∧ w' = W := fun W =>
        (SeqCalls.add_any x by_ W).mono fun e w' ⟨h1, h2⟩ => ⟨by rw [h1, HXY.out], h2.symm⟩
      clear e1 e2 hx hy hxy him hi
      go_wp2_with fail
      go_quiet (exact Calls.quiet_of_same (hadd _))
      clear hc hc2 hadd
      go_wp2_with fail
      go_roundw
      case rel => exact ⟨i + 1, HI.out, by go_num, q + nq, by rw [← HW6.out, World.drewN_drewN]⟩
      case measure => simp [intOf]; have := HI.out; omega
    · obtain rfl : i = m := by omega
      clear him hi
      go_wp2_with fail
      refine (count_any _ i c4 P _ R46.out F4.out (by have := HMM.out; omega)).mono ?_; rintro e W7 ⟨rfl, hb7⟩
      have B7 := Lib.hid (B6.out.trans (hb7.mono B6.out.size))
      have R57 := Lib.hid (R56.out.below hb7)
      clear hb7
      go_wp2_with fail
      refine (count_any _ i c5 Q _ R57.out F5.out (by have := HMM.out; omega)).mono ?_; rintro e W8 ⟨rfl, hb8⟩
      rw [← HCNT.out]
      have B8 := Lib.hid (B7.out.trans (hb8.mono B7.out.size))
      clear hb8
      go_wp2_with fail
      go_ret
      exact ⟨by simp, B8.out⟩

theorem own : ownKnob Try.prog.godebug = none := by kernel_rfl
theorem laidOut : laidOutB Try.prog = true := by kernel_rfl

set_option maxRecDepth 100000 in
theorem lifted (os : Os) (started : os.Started) (H : Type) (enc : TypeId × Value → H) :
    ReturnsInHanded {} Try.checked os 8 .any (Rows.gapsMovesSpec.pre6 enc Try.prog Try.f8 Rows.gapsMovesRow.domain false) (Rows.gapsMovesSpec.post enc Try.prog Try.f8 false true false false) := by
  refine Base.law_lifted (C := Try.checked) own started (by kernel_rfl) Try.func8 laidOut (by kernel_rfl) rfl Try.underlying4 rfl ?_
    (ChangeSpec.witness6 (enc := enc) (C := Try.checked) false ⟨#[], #[.int .u32 0, .slice none 0 0, .int .i64 0], []⟩ 8 (by kernel_rfl) (by kernel_rfl) (by kernel_rfl) (by kernel_rfl)) ?_
  · intro ds h
    match ds, h with
    | [_d0, _d1, _d2], _ => exact ⟨rfl, rfl, rfl⟩
  · intro W base args ds before hval0 hA0 hlt hsz
    have hval : ∀ (j : Nat) t v, Try.f8.params[j]? = some t → args[j]? = some v → Value.okWide Try.prog W .any base t v := hval0
    have hA : DataW.TrodAll enc Try.prog W 0 (fun _ => true) true Try.f8.params.toList args.toList ds before := hA0
    clear hval0 hA0
    rw [Try.params8] at hA hval hsz
    obtain ⟨v0, vs0, d0, ds0, p0, q0, hargs, rfl, rfl, h0, r0⟩ := trodAll_cons hA
    obtain ⟨v1, vs1, d1, ds1, p1, q1, rfl, rfl, rfl, h1, r1⟩ := trodAll_cons r0
    obtain ⟨v2, vs2, d2, ds2, p2, q2, rfl, rfl, rfl, h2, r2⟩ := trodAll_cons r1
    obtain ⟨rfl, rfl, rfl⟩ := trodAll_nil r2
    obtain rfl : args = #[v0, v1, v2] := by cases args; simp_all
    obtain ⟨a0, rfl, rfl, rfl, w0⟩ := open_int Try.underlying27 (hval 0 27 v0 rfl rfl) h0
    obtain ⟨a1, w1⟩ := Base.open_pairs Try.underlying22 Try.underlying56 (by kernel_rfl) rfl rfl rfl rfl Try.underlying3 (by kernel_rfl) (hval 1 22 v1 rfl rfl) h1 (fun x hx => hlt x (by simp [hx]))
    obtain ⟨a2, rfl, rfl, rfl, w2⟩ := open_int Try.underlying3 (hval 2 3 v2 rfl rfl) h2
    exact walk W a0 w0 v1 a1 w1 a2 w2

theorem over : Rows.gapsMovesRow.holds Try.pinned (OpenSpec.ofChange Rows.gapsMovesSpec) :=
  OpenClaim.holds_of_wide 8 Try.f8 rfl rfl rfl rfl rfl rfl rfl ⟨rfl, rfl, rfl, rfl, rfl⟩ rfl rfl rfl rfl rfl (by kernel_rfl) Try.func8 (by kernel_rfl)
    (of_decide_eq_true (by kernel_rfl)) (by unfold Func.isWrapper; first | (rw [if_pos (by decide +kernel)]; kernel_rfl) | (rw [if_neg (by decide +kernel)]; exact ⟨rfl, rfl⟩))
    (fun os started H enc _ => lifted os started H enc)

theorem proved : Rows.GapsMovesSaid :=
  over
#print axioms proved
end Go.Proofs.Ytpaogpjdkkkihaa.gapsMoves
