/-
  PaceBusy is proved: whoever is busy in the idle phase asks anew, and is watched; whoever is active goes on; for every input the law returns true.
-/
import Derived.Test.YtlfjndjbfbejkaaBase
import Derived.Test.YtlfjndjbfbejkaaPaceB
import Derived.Test.YtlfjndjbfbejkaaRefSame
import Derived.BigQuiet
import Derived.Deep.DeepCutAuto
namespace Go.Proofs.Ytlfjndjbfbejkaa.paceBusy
open Go.ChangeShapes Go.WideShapes Go.ChangeAt Go.RowKit
set_option linter.unusedVariables false      -- a walk need not use every bound of an argument

open Pace View Bank
def idleL (k m : Nat) : List Nat := [0, 0, 0, 0, k - m]
theorem idle_tick (k m : Nat) : tickL (idleL k m) = idleL k (m + 1) := by simp [tickL, idleL, Nat.sub_sub]
theorem idle_over {k m : Nat} (h : 2 ≤ k - m) : oversL (idleL k m) = [] := by
  refine List.eq_nil_iff_forall_not_mem.2 fun x hx => ?_
  obtain ⟨i, rfl, hi, hv⟩ := overs_mem x hx
  rcases (show i = 0 ∨ i = 1 ∨ i = 2 ∨ i = 3 ∨ i = 4 by omega) with rfl | rfl | rfl | rfl | rfl <;> simp [idleL] at hv
  omega
theorem polled_fresh {k0 k1 k2 k3 k4 : Nat} (h : 0 < k3) : polledL [k0, k1, k2, k3, k4] (fresh k1 k3 0) true = [0, 0, k2, k3, 0] := by
  show listenL [k0, k1, k2, k3, k4] [0, 0, k2, k3, 0] = _
  exact if_pos h
theorem answered_fresh {k0 k1 k2 k3 k4 : Nat} (h : 0 < k2) : answeredL [k0, k1, k2, k3, k4] [0, 0, k2, k3, 0] true = idleL k4 0 := by
  unfold answeredL; rw [if_pos ⟨rfl, h⟩]; rfl
theorem busy_idle {k0 k1 k2 k3 k4 m : Nat} (h : 0 < k4 - m) : busyL [k0, k1, k2, k3, k4] (idleL k4 m) = fresh k1 k3 0 := by
  unfold busyL; rw [if_pos (.inr h)]; rfl
theorem busy_fresh {k0 k1 k2 k3 k4 : Nat} : busyL [k0, k1, k2, k3, k4] (fresh k1 k3 0) = fresh k1 k3 0 := by
  unfold busyL; rw [if_neg (by rintro (h | h) <;> simp [fresh] at h)]
theorem safe_fresh {k1 k3 : Nat} (h1 : 0 < k1) (h : k1 < k3) : safeL (fresh k1 k3 0) = true := by
  simp [safeL, aheadL, fresh]; omega
theorem safe_idle (k m : Nat) : safeL (idleL k m) = true := rfl
set_option maxRecDepth 100000 in
set_option maxHeartbeats 8000000 in
theorem walk (w : World) (v0 : Value) (D : List Int) (w0 : Base.IntSlice .i64 8 w v0 D) (a1 : Int) (w1 : (Lit.int .i64 a1).wf = true) :
    Calls Try.prog 6 #[v0, .int .i64 a1] w fun e w' => e = .returned (.bool true) ∧ Below w.heap.size w w' := by
  obtain ⟨a, cap, rfl, hr, hD, hn⟩ := Pace.rd_ints w0
  obtain ⟨y1, y2⟩ := bounds_i64 w1
  have HL := Lib.hid hr
  have HD := Lib.hid hD
  have HN := Lib.hid hn
  clear w0 w1 hr hD hn
  go_enter Try.func6, Try.ntmps6
  go_wp2_with fail
  refine (pawake_any _).mono ?_; rintro e W1 ⟨rfl, hb1⟩
  have B1 := Lib.hid hb1
  clear hb1
  go_wp2_with fail
  refine (right_any a _ cap D _ (HL.out.below B1.out) HN.out HD.out).mono ?_; rintro e W2 ⟨v, K, rfl, hown, hK, hb⟩
  have HK := Lib.hid hK
  have B2 := Lib.hid (B1.out.trans (hb.mono B1.out.size))
  obtain ⟨k0, k1, k2, k3, k4, rfl⟩ := five_of hK.1
  have h2 := Five.own (N := fun _ => False) hown hK.1 (fun _ h => h.elim)
  have HF2 := Lib.hid h2
  obtain ⟨gv, ov, cv, rfl, _, _⟩ := h2
  clear hown hb hK HL HN HD B1
  go_wp2_with fail
  refine (own_any (fun _ => False) _ k0 k1 k2 k3 k4 _ HF2.out).mono ?_; rintro e W3 ⟨rfl, hb⟩
  have B3 := Lib.hid (B2.out.trans (hb.mono B2.out.size))
  have HF3 := Lib.hid (HF2.out.below hb)
  clear hb HF2 B2
  go_wp2_with fail
  refine (new_any k0 k1 k2 k3 k4 _ HK.out).mono ?_; rintro e W4 ⟨B, rfl, hB, h4, hb⟩
  have HB : Hid (w.heap.size ≤ B) := Lib.hid (Nat.le_trans B3.out.size hB)
  have HA4 := Lib.hid h4
  have B4 := Lib.hid (B3.out.trans (hb.mono B3.out.size))
  have HF4 : Hid (Five W4 (fun b => b = B) (.slice (some ⟨gv, ov, none⟩) 5 cv) [k0, k1, k2, k3, k4]) := Lib.hid ((HF3.out.grow (N' := fun b => b = B) (fun b hb => .inr (by omega))).below hb)
  clear hb h4 hB HF3 B3
  have hK1 := HK.out.2.1 1 (by decide)
  have hK2 := HK.out.2.1 2 (by decide)
  have hK3 := HK.out.2.1 3 (by decide)
  have hK4 := HK.out.2.1 4 (by decide)
  have hK13 := HK.out.2.2.1
  simp only [List.getD_cons_zero, List.getD_cons_succ] at hK1 hK2 hK3 hK4 hK13
  obtain ⟨p1, p2⟩ := hK1
  obtain ⟨p21, p22⟩ := hK2
  obtain ⟨p3, p4⟩ := hK3
  obtain ⟨p5, p6⟩ := hK4
  have HK13 := Lib.hid hK13
  clear hK13
  go_wp2_with fail
  refine (begin_any B _ _ _ HA4.out).mono ?_; rintro e W5 ⟨⟨v5, rfl⟩, h5, ho⟩
  rw [begin_fresh] at h5
  have HA5 := Lib.hid h5
  have B5 := Lib.hid (ho.below B4.out B4.out.size HB.out)
  have HF5 := Lib.hid (HF4.out.only ho rfl)
  clear h5 ho HA4 B4 HF4
  go_wp2_with fail
  refine (polled_any B _ _ _ true HA5.out).mono ?_; rintro e W6 ⟨⟨v6, rfl⟩, h6, ho⟩
  rw [polled_fresh (by omega)] at h6
  have HA6 := Lib.hid h6
  have B6 := Lib.hid (ho.below B5.out B5.out.size HB.out)
  have HF6 := Lib.hid (HF5.out.only ho rfl)
  clear h6 ho HA5 B5 HF5
  go_wp2_with fail
  refine (answered_any B _ _ _ true HA6.out).mono ?_; rintro e W7 ⟨⟨v7, rfl⟩, h7, ho⟩
  rw [answered_fresh (by omega)] at h7
  have HA7 := Lib.hid h7
  have B7 := Lib.hid (ho.below B6.out B6.out.size HB.out)
  have HF7 := Lib.hid (HF6.out.only ho rfl)
  clear h7 ho HA6 B6 HF6
  have c4 := HF7.out.cell 4 (by decide)
  simp only [List.getD_cons_zero, List.getD_cons_succ] at c4
  go_upto_region 11 with (fail)
  have hex : ∃ N : Nat, (if 0 < (if (k4 : Int) - 1 < a1 then (k4 : Int) - 1 else a1) then (if (k4 : Int) - 1 < a1 then (k4 : Int) - 1 else a1) else 0) = (N : Int) ∧ N ≤ k4 - 1 := by
    by_cases h1 : (k4 : Int) - 1 < a1
    · rw [if_pos h1]
      by_cases h2 : (0 : Int) < (k4 : Int) - 1
      · exact ⟨k4 - 1, by rw [if_pos h2]; omega, Nat.le_refl _⟩
      · exact ⟨0, by rw [if_neg h2]; rfl, Nat.zero_le _⟩
    · rw [if_neg h1]
      by_cases h2 : (0 : Int) < a1
      · exact ⟨a1.toNat, by rw [if_pos h2]; omega, by omega⟩
      · exact ⟨0, by rw [if_neg h2]; rfl, Nat.zero_le _⟩
  obtain ⟨N, hN, hNk⟩ := hex
  rw [hN]
  generalize (if (k4 : Int) - 1 < a1 then (k4 : Int) - 1 else a1) = z1
  clear hN c4 y1 y2
  have hNi : (N : Int) ≤ 1048576 := by omega
  have HNK := Lib.hid hNk
  clear hNk
  go_wp2_with fail
  go_loopw [39] (fun s39 wr => ∃ m : Nat, m ≤ N ∧ s39 = .int .i64 (m : Int) ∧ Hid (At wr B [k0, k1, k2, k3, k4] (idleL k4 m)) ∧ Hid (Five wr (fun b => b = B) (.slice (some ⟨gv, ov, none⟩) 5 cv) [k0, k1, k2, k3, k4]) ∧ Hid (Below w.heap.size w wr)) (fun s39 _ => N - (intOf s39).toNat)
  case atStart => exact ⟨0, Nat.zero_le _, rfl, HA7, HF7, B7⟩
  case round =>
    obtain ⟨m, hm, rfl, ha, hf, hb⟩ := hrel
    by_cases hlt : m < N
    · have hmi : (m : Int) < (N : Int) := by omega
      have HM := Lib.hid hlt
      have HOV : Hid (oversL (idleL k4 m) = []) := Lib.hid (idle_over (by have := HNK.out; omega))
      clear hlt hm
      go_wp2_with fail
      refine (tick_at B _ _ _ ha.out).mono ?_; rintro e w3 ⟨v3, rfl, hv, h3, ho⟩
      rw [HOV.out] at hv
      rw [idle_tick] at h3
      obtain ⟨a3, n3, c3', rfl, _, hr3⟩ := hv.form
      obtain rfl : n3 = 0 := hr3.1
      have HA3 := Lib.hid h3
      have HB3 := Lib.hid (ho.below hb.out hb.out.size HB.out)
      have HF3 := Lib.hid (hf.out.only ho rfl)
      clear hv h3 ho hr3
      go_wp2_with fail
      go_roundw
      case rel => exact ⟨m + 1, HM.out, by go_num, HA3, HF3, HB3⟩
      case measure => simp [intOf]; have := HM.out; omega
    · obtain rfl : m = N := by omega
      clear hlt hm
      obtain ⟨d, hd⟩ : ∃ d, k4 - m = d := ⟨_, rfl⟩
      have hdi : (k4 : Int) - (m : Int) = (d : Int) := by have := HNK.out; omega
      have hd1 : 1 ≤ d ∧ d ≤ 1048576 := by have := HNK.out; omega
      have c4 := hf.out.cell 4 (by decide)
      simp only [List.getD_cons_zero, List.getD_cons_succ] at c4
      have L4 : Hid (∀ q, Calls Try.prog 24 #[.pointer (some ⟨B, 0, none⟩), .int .i64 4] (wr.drewN q) fun e w' => e = .returned (.int .i64 (d : Int)) ∧ w' = wr.drewN q) := Lib.hid (fun q =>
        (left_at B _ _ _ 4 4 rfl (by decide) (ha.out.drewN q)).mono fun e w' ⟨he, hw⟩ => ⟨by rw [he, ← hd]; rfl, hw.symm⟩)
      have R3 : Hid (∀ q, Calls Try.prog 17 #[.pointer (some ⟨B, 0, none⟩), .int .i64 3] (wr.drewN q) fun e w' => e = .returned (.bool false) ∧ w' = wr.drewN q) := Lib.hid (fun q =>
        (runs_at B _ _ _ 3 3 rfl (by decide) (ha.out.drewN q)).mono fun e w' ⟨he, hw⟩ => ⟨by rw [he]; rfl, hw.symm⟩)
      have S1 : Hid (∀ q, Calls Try.prog 16 #[.pointer (some ⟨B, 0, none⟩)] (wr.drewN q) fun e w' => e = .returned (.bool true) ∧ ∃ m, w' = wr.drewN m) := Lib.hid (fun q =>
        (safe_any B _ _ _ (ha.out.drewN q)).mono fun e w' ⟨he, q2, hw⟩ => ⟨by rw [he, safe_idle], q + q2, by rw [hw, World.drewN_drewN]⟩)
      have HD := Lib.hid hd1
      have hne : ((d : Int) != (d : Int)) = false := by simp
      clear hd hd1
      go_wp2_with fail
      go_quiet (first
        | with_reducible exact Calls.quiet_of_same (L4.out _)
        | with_reducible exact Calls.quiet_of_same (R3.out _)
        | with_reducible exact S1.out _)
      have HA8 := Lib.hid (ha.out.drewN nq)
      have B8 := Lib.hid (View.below_drewN hb.out nq)
      have HF8 := Lib.hid (hf.out.below (View.below_drewN (Below.refl _ _) nq))
      clear L4 R3 S1 hdi hne c4
      clear ha hf hb
      generalize wr.drewN nq = W8 at *
      have HPOS : Hid (0 < k4 - m) := Lib.hid (by have := HNK.out; omega)
      go_wp2_with fail
      refine (busy_any B _ _ _ HA8.out).mono ?_; rintro e W9 ⟨⟨v9, rfl⟩, h9, ho⟩
      rw [busy_idle HPOS.out] at h9
      have HA9 := Lib.hid h9
      have B9 := Lib.hid (ho.below B8.out B8.out.size HB.out)
      have HF9 := Lib.hid (HF8.out.only ho rfl)
      clear h9 ho HA8 B8 HF8
      have c1 := HF9.out.cell 1 (by decide)
      have c3 := HF9.out.cell 3 (by decide)
      simp only [List.getD_cons_zero, List.getD_cons_succ] at c1 c3
      have L1 : Hid (∀ q, Calls Try.prog 24 #[.pointer (some ⟨B, 0, none⟩), .int .i64 1] (W9.drewN q) fun e w' => e = .returned (.int .i64 (k1 : Int)) ∧ w' = W9.drewN q) := Lib.hid (fun q =>
        (left_at B _ _ _ 1 1 rfl (by decide) (HA9.out.drewN q)).mono fun e w' ⟨he, hw⟩ => ⟨by rw [he]; rfl, hw.symm⟩)
      have L3 : Hid (∀ q, Calls Try.prog 24 #[.pointer (some ⟨B, 0, none⟩), .int .i64 3] (W9.drewN q) fun e w' => e = .returned (.int .i64 (k3 : Int)) ∧ w' = W9.drewN q) := Lib.hid (fun q =>
        (left_at B _ _ _ 3 3 rfl (by decide) (HA9.out.drewN q)).mono fun e w' ⟨he, hw⟩ => ⟨by rw [he]; rfl, hw.symm⟩)
      have R4 : Hid (∀ q, Calls Try.prog 17 #[.pointer (some ⟨B, 0, none⟩), .int .i64 4] (W9.drewN q) fun e w' => e = .returned (.bool false) ∧ w' = W9.drewN q) := Lib.hid (fun q =>
        (runs_at B _ _ _ 4 4 rfl (by decide) (HA9.out.drewN q)).mono fun e w' ⟨he, hw⟩ => ⟨by rw [he]; rfl, hw.symm⟩)
      have S1 : Hid (∀ q, Calls Try.prog 16 #[.pointer (some ⟨B, 0, none⟩)] (W9.drewN q) fun e w' => e = .returned (.bool true) ∧ ∃ m, w' = W9.drewN m) := Lib.hid (fun q =>
        (safe_any B _ _ _ (HA9.out.drewN q)).mono fun e w' ⟨he, q2, hw⟩ => ⟨by rw [he, safe_fresh (by omega) HK13.out], q + q2, by rw [hw, World.drewN_drewN]⟩)
      have hn1 : ((k1 : Int) != (k1 : Int)) = false := by simp
      have hn3 : ((k3 : Int) != (k3 : Int)) = false := by simp
      go_wp2_with fail
      go_quiet (first
        | with_reducible exact Calls.quiet_of_same (L1.out _)
        | with_reducible exact Calls.quiet_of_same (L3.out _)
        | with_reducible exact Calls.quiet_of_same (R4.out _)
        | with_reducible exact S1.out _)
      have HA10 := Lib.hid (HA9.out.drewN nq)
      have B10 := Lib.hid (View.below_drewN B9.out nq)
      clear L1 L3 R4 S1 hn1 hn3 c1 c3 HA9 B9 HF9
      generalize W9.drewN nq = W10 at *
      go_wp2_with fail
      refine (clone_any _ B _ _ HA10.out).mono ?_; rintro e W11 ⟨C, rfl, hC, h11, hb⟩
      have HC11 := Lib.hid h11
      have HA11 := Lib.hid (HA10.out.below hb)
      have B11 := Lib.hid (B10.out.trans (hb.mono B10.out.size))
      have HCB : Hid (B < C) := Lib.hid (by have := HA10.out.lt; omega)
      clear hC h11 hb HA10 B10
      go_wp2_with fail
      refine (busy_any B _ _ _ HA11.out).mono ?_; rintro e W12 ⟨⟨v12, rfl⟩, h12, ho⟩
      rw [busy_fresh] at h12
      have HA12 := Lib.hid h12
      have HC12 := Lib.hid (HC11.out.only ho (by have := HCB.out; omega))
      have B12 := Lib.hid (ho.below B11.out B11.out.size HB.out)
      clear h12 ho HA11 HC11 B11
      have L1 : Hid (∀ q, Calls Try.prog 24 #[.pointer (some ⟨B, 0, none⟩), .int .i64 1] (W12.drewN q) fun e w' => e = .returned (.int .i64 (k1 : Int)) ∧ w' = W12.drewN q) := Lib.hid (fun q =>
        (left_at B _ _ _ 1 1 rfl (by decide) (HA12.out.drewN q)).mono fun e w' ⟨he, hw⟩ => ⟨by rw [he]; rfl, hw.symm⟩)
      have L3 : Hid (∀ q, Calls Try.prog 24 #[.pointer (some ⟨B, 0, none⟩), .int .i64 3] (W12.drewN q) fun e w' => e = .returned (.int .i64 (k3 : Int)) ∧ w' = W12.drewN q) := Lib.hid (fun q =>
        (left_at B _ _ _ 3 3 rfl (by decide) (HA12.out.drewN q)).mono fun e w' ⟨he, hw⟩ => ⟨by rw [he]; rfl, hw.symm⟩)
      have C1 : Hid (∀ q, Calls Try.prog 24 #[.pointer (some ⟨C, 0, none⟩), .int .i64 1] (W12.drewN q) fun e w' => e = .returned (.int .i64 (k1 : Int)) ∧ w' = W12.drewN q) := Lib.hid (fun q =>
        (left_at C _ _ _ 1 1 rfl (by decide) (HC12.out.drewN q)).mono fun e w' ⟨he, hw⟩ => ⟨by rw [he]; rfl, hw.symm⟩)
      have C3 : Hid (∀ q, Calls Try.prog 24 #[.pointer (some ⟨C, 0, none⟩), .int .i64 3] (W12.drewN q) fun e w' => e = .returned (.int .i64 (k3 : Int)) ∧ w' = W12.drewN q) := Lib.hid (fun q =>
        (left_at C _ _ _ 3 3 rfl (by decide) (HC12.out.drewN q)).mono fun e w' ⟨he, hw⟩ => ⟨by rw [he]; rfl, hw.symm⟩)
      have he1 : ((k1 : Int) == (k1 : Int)) = true := by simp
      have he3 : ((k3 : Int) == (k3 : Int)) = true := by simp
      go_wp2_with fail
      go_quiet (first
        | with_reducible exact Calls.quiet_of_same (L1.out _)
        | with_reducible exact Calls.quiet_of_same (L3.out _)
        | with_reducible exact Calls.quiet_of_same (C1.out _)
        | with_reducible exact Calls.quiet_of_same (C3.out _))
      go_wp2_with fail
      go_ret
      exact ⟨by simp, View.below_drewN B12.out nq⟩

theorem own : ownKnob Try.prog.godebug = none := by kernel_rfl
theorem laidOut : laidOutB Try.prog = true := by kernel_rfl

set_option maxRecDepth 100000 in
theorem lifted (os : Os) (started : os.Started) (H : Type) (enc : TypeId × Value → H) :
    ReturnsInHanded {} Try.checked os 6 .any (Rows.paceBusySpec.pre6 enc Try.prog Try.f6 Rows.paceBusyRow.domain false) (Rows.paceBusySpec.post enc Try.prog Try.f6 false true false false) := by
  refine Base.law_lifted (C := Try.checked) own started (by kernel_rfl) Try.func6 laidOut (by kernel_rfl) rfl Try.underlying4 rfl ?_
    (ChangeSpec.witness6 (enc := enc) (C := Try.checked) false ⟨#[], #[.slice none 0 0, .int .i64 0], []⟩ 8 (by kernel_rfl) (by kernel_rfl) (by kernel_rfl) (by kernel_rfl)) ?_
  · intro ds h
    match ds, h with
    | [_d0, _d1], _ => exact ⟨rfl, rfl, rfl⟩
  · intro W base args ds before hval0 hA0 hlt hsz
    have hval : ∀ (j : Nat) t v, Try.f6.params[j]? = some t → args[j]? = some v → Value.okWide Try.prog W .any base t v := hval0
    have hA : DataW.TrodAll enc Try.prog W 0 (fun _ => true) true Try.f6.params.toList args.toList ds before := hA0
    clear hval0 hA0
    rw [Try.params6] at hA hval hsz
    obtain ⟨v0, vs0, d0, ds0, p0, q0, hargs, rfl, rfl, h0, r0⟩ := trodAll_cons hA
    obtain ⟨v1, vs1, d1, ds1, p1, q1, rfl, rfl, rfl, h1, r1⟩ := trodAll_cons r0
    obtain ⟨rfl, rfl, rfl⟩ := trodAll_nil r1
    obtain rfl : args = #[v0, v1] := by cases args; simp_all
    obtain ⟨a0, w0⟩ := Base.open_int_slice Try.underlying22 Try.underlying3 (by kernel_rfl) (by kernel_rfl) (hval 0 22 v0 rfl rfl) h0 (fun x hx => hlt x (by simp [hx])) (Base.sized_at hsz (j := 0) rfl rfl)
    obtain ⟨a1, rfl, rfl, rfl, w1⟩ := open_int Try.underlying3 (hval 1 3 v1 rfl rfl) h1
    exact walk W v0 a0 w0 a1 w1

theorem over : Rows.paceBusyRow.holds Try.pinned (OpenSpec.ofChange Rows.paceBusySpec) :=
  OpenClaim.holds_of_wide 6 Try.f6 rfl rfl rfl rfl rfl rfl rfl ⟨rfl, rfl, rfl, rfl, rfl⟩ rfl rfl rfl rfl rfl (by kernel_rfl) Try.func6 (by kernel_rfl)
    (of_decide_eq_true (by kernel_rfl)) (by unfold Func.isWrapper; first | (rw [if_pos (by decide +kernel)]; kernel_rfl) | (rw [if_neg (by decide +kernel)]; exact ⟨rfl, rfl⟩))
    (fun os started H enc _ => lifted os started H enc)

theorem proved : Rows.PaceBusySaid :=
  over
#print axioms proved
end Go.Proofs.Ytlfjndjbfbejkaa.paceBusy
