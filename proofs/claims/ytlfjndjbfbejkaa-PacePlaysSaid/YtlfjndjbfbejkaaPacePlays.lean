/-
  PacePlays is proved: behind any calls the timers have what the document says; for every input the law returns true.
-/
import Derived.Test.YtlfjndjbfbejkaaBase
import Derived.Test.YtlfjndjbfbejkaaPaceA
import Derived.Test.YtlfjndjbfbejkaaRefSame
import Derived.Deep.RegionWith
import Derived.Deep.DeepCutAuto
import Derived.Deep.LoopGhost
namespace Go.Proofs.Ytlfjndjbfbejkaa.pacePlays
open Go.ChangeShapes Go.WideShapes Go.ChangeAt Go.RowKit
set_option linter.unusedVariables false      -- a walk need not use every bound of an argument

open Pace View Bank
set_option maxRecDepth 100000 in
set_option maxHeartbeats 8000000 in
theorem walk (w : World) (v0 : Value) (D : List Int) (w0 : Base.IntSlice .i64 8 w v0 D) (v1 : Value) (x1 : Base.Dat) (w1 : Base.RdV w (.slice (.struct [.int .i64, .bool])) x1 v1) :
    Calls Try.prog 3 #[v0, v1] w fun e w' => e = .returned (.bool true) ∧ Below w.heap.size w w' := by
  obtain ⟨a, cap, rfl, hr, hD, hn⟩ := Pace.rd_ints w0
  obtain ⟨aA, n, capA, A, rfl, hA, hnA⟩ := Pace.open_acts w v1 x1 w1
  have HL := Lib.hid hr
  have HD := Lib.hid hD
  have HN := Lib.hid hn
  have HACT := Lib.hid hA
  have hnn : (n : Int) ≤ 140737488351232 := by omega
  clear w0 w1 hr hD hn hA hnA
  go_enter Try.func3, Try.ntmps3
  go_wp2_with fail
  refine (pawake_any _).mono ?_; rintro e W1 ⟨rfl, hb1⟩
  have B1 := Lib.hid hb1
  clear hb1
  go_wp2_with fail
  refine (right_any a _ cap D _ (HL.out.below B1.out) HN.out HD.out).mono ?_; rintro e W2 ⟨v, K, rfl, hown, hK, hb⟩
  have HK := Lib.hid hK
  have B2 := Lib.hid (B1.out.trans (hb.mono B1.out.size))
  obtain ⟨k0, k1, k2, k3, k4, rfl⟩ := five_of hK.1
  have h2 := Five.own (N := fun _ => False) hown hK.1 (fun _ h => h.elim)
  have HF2 := Lib.hid h2
  obtain ⟨gv, ov, cv, rfl, _, _⟩ := h2
  clear hown hb hK HL HN HD B1
  go_wp2_with fail
  refine (own_any (fun _ => False) _ k0 k1 k2 k3 k4 _ HF2.out).mono ?_; rintro e W3 ⟨rfl, hb⟩
  have B3 := Lib.hid (B2.out.trans (hb.mono B2.out.size))
  have HF3 := Lib.hid (HF2.out.below hb)
  clear hb HF2 B2
  go_wp2_with fail
  refine (new_any k0 k1 k2 k3 k4 _ HK.out).mono ?_; rintro e W4 ⟨B, rfl, hB, h4, hb⟩
  have HB : Hid (w.heap.size ≤ B) := Lib.hid (Nat.le_trans B3.out.size hB)
  have HA4 := Lib.hid h4
  have B4 := Lib.hid (B3.out.trans (hb.mono B3.out.size))
  have HF4 : Hid (Five W4 (fun b => b = B) (.slice (some ⟨gv, ov, none⟩) 5 cv) [k0, k1, k2, k3, k4]) := Lib.hid ((HF3.out.grow (N' := fun b => b = B) (fun b hb => .inr (by omega))).below hb)
  clear hb h4 hB HF3 B3
  go_wp2_with fail
  refine (rnew_any (fun b => b = B) _ _ _ (fun b hb => by subst hb; exact HA4.out.lt) HF4.out).mono ?_; rintro e W5 ⟨v5, rfl, h5, hb⟩
  have H5 := Lib.hid h5
  obtain ⟨g5, o5, c5, rfl, _, _⟩ := h5
  have B5 := Lib.hid (B4.out.trans (hb.mono B4.out.size))
  have HA5 := Lib.hid (HA4.out.below hb)
  have HF5 := Lib.hid (HF4.out.below hb)
  clear hb HA4 HF4 B4
  obtain ⟨W6, hW6⟩ : ∃ W6, W6 = W5.alloc (.cells #[.slice (some ⟨gv, ov, none⟩) 5 cv, .slice (some ⟨g5, o5, none⟩) 5 c5] 34) := ⟨_, rfl⟩
  obtain ⟨G, hG⟩ : ∃ G, G = W5.heap.size := ⟨_, rfl⟩
  have hb56 : Below W5.heap.size W5 W6 := by rw [hW6]; exact (Below.refl _ _).alloc (Nat.le_refl _) _
  have B6 := Lib.hid (B5.out.trans (hb56.mono B5.out.size))
  have HBX6 : Hid (W6.heap[G]? = some (.cells #[.slice (some ⟨gv, ov, none⟩) 5 cv, .slice (some ⟨g5, o5, none⟩) 5 c5] 34 (0, 0))) := Lib.hid (by rw [hW6, hG]; exact heap_alloc_new W5 _)
  have HA6 := Lib.hid (HA5.out.below hb56)
  have HF6 : Hid (Five W6 (And1 (fun b => b = B) G) (.slice (some ⟨gv, ov, none⟩) 5 cv) [k0, k1, k2, k3, k4]) := Lib.hid ((HF5.out.grow (N' := And1 (fun b => b = B) G) (fun b hb => by rcases hb with h | h; exact .inl h; exact .inr (by omega))).below hb56)
  have H6 : Hid (Five W6 (And1 (fun b => b = B) G) (.slice (some ⟨g5, o5, none⟩) 5 c5) zeroL) := Lib.hid ((H5.out.grow (N' := And1 (fun b => b = B) G) (fun b hb => by rcases hb with h | h; exact .inl h; exact .inr (by omega))).below hb56)
  have HGB : Hid (B < G ∧ G < W6.heap.size ∧ w.heap.size ≤ G) := Lib.hid ⟨by rw [hG]; exact HA5.out.lt, by rw [hW6, hG]; simp, by rw [hG]; exact B5.out.size⟩
  clear hb56 HA5 HF5 H5 B5
  go_wp2_with fail
  rw [← hG, ← hW6]
  clear hW6 hG
  go_loopw [8, 9] (fun s8 s9 wr => ∃ (k : Nat) (L : List Nat) (g o c : Nat) (ok : Bool), k ≤ n ∧ k ≤ 150 ∧ s9 = .int .i64 (k : Int) ∧ s8 = .bool ok ∧ Hid (At wr B [k0, k1, k2, k3, k4] L) ∧ Hid (wr.heap[G]? = some (.cells #[.slice (some ⟨gv, ov, none⟩) 5 cv, .slice (some ⟨g, o, none⟩) 5 c] 34 (0, 0))) ∧ Hid (Five wr (And1 (fun b => b = B) G) (.slice (some ⟨gv, ov, none⟩) 5 cv) [k0, k1, k2, k3, k4]) ∧ Hid (Five wr (And1 (fun b => b = B) G) (.slice (some ⟨g, o, none⟩) 5 c) L) ∧ Hid (Below w.heap.size w wr) ∧ Hid (W6.heap.size ≤ wr.heap.size)) (fun _ s9 _ => 150 - (intOf s9).toNat)
  case atStart => exact ⟨0, zeroL, g5, o5, c5, false, Nat.zero_le _, Nat.zero_le _, rfl, rfl, HA6, HBX6, HF6, H6, B6, Lib.hid (Nat.le_refl _)⟩
  case round =>
    obtain ⟨k, L, g, o, c, ok, hkn, hk, rfl, rfl, ha, hbx, hf, h7, hb, hs⟩ := hrel
    by_cases hlt : k < n
    · by_cases hlt5 : k < 150
      · obtain ⟨bA, oA, rfl, hltA, hcA⟩ := (HACT.out.below hb.out).2 (by omega)
        obtain ⟨c0, c1⟩ := hcA k hlt
        obtain ⟨⟨kind, idle⟩, hy⟩ : ∃ y, A.getD k (0, false) = y := ⟨_, rfl⟩
        rw [hy] at c0 c1
        have c0 : wr.cell? ⟨bA, oA + k * 2, none⟩ = some (.int .i64 kind) := c0
        have c1 : wr.cell? ⟨bA, oA + k * 2 + 1, none⟩ = some (.bool idle) := c1
        have b0 : wr.cell? ⟨G, 0, none⟩ = some (.slice (some ⟨gv, ov, none⟩) 5 cv) := (cell_of_row _ _ _ _ _ _ hbx.out).trans rfl
        have b1 : wr.cell? ⟨G, 1, none⟩ = some (.slice (some ⟨g, o, none⟩) 5 c) := (cell_of_row _ _ _ _ _ _ hbx.out).trans rfl
        have HK := Lib.hid (show k + 1 ≤ n ∧ k + 1 ≤ 150 by omega)
        have hki : (k : Int) < (n : Int) := by omega
        have hk5 : (k : Int) < 150 := by omega
        clear hy hlt hlt5 hkn hk hcA hltA
        go_wp2_with fail
        go_region_with (first
          | (go_at_call 12
             refine (step_any (And1 (fun b => b = B) G) B _ L _ _ kind idle _ (.inl rfl) (fun b hb => by
               have := HGB.out
               have := hs.out
               have e0 : (wr.drewN 1).heap.size = wr.heap.size := rfl
               rcases hb with h | h
               · have h : b = B := h
                 omega
               · omega) (ha.out.drewN 1) (hf.out.below (Below.refl _ wr).drew) (h7.out.below (Below.refl _ wr).drew)).mono ?_
             rintro e w8 ⟨v8, rfl, ha8', h8', hf8', ho8'⟩
             (have ho8 : Only wr w8 B := (Only.draw wr B 1).trans ho8')
             (have HO8 := Lib.hid ho8)
             (have HA8 := Lib.hid ha8')
             (have H8 := Lib.hid h8')
             (have HF8 := Lib.hid hf8')
             obtain ⟨g8, o8, c8, rfl, _, _⟩ := h8'
             (have HBX8 : Hid (w8.heap[G]? = some (.cells #[.slice (some ⟨gv, ov, none⟩) 5 cv, .slice (some ⟨g, o, none⟩) 5 c] 34 (0, 0))) := Lib.hid ((ho8.block G (by have := HGB.out; have := hs.out; omega) (by have := HGB.out; omega)).trans hbx.out))
             (have z0 : w8.cell? ⟨G, 0, none⟩ = some (.slice (some ⟨gv, ov, none⟩) 5 cv) := (cell_of_row _ _ _ _ _ _ HBX8.out).trans rfl)
             (have z1 : w8.cell? ⟨G, 1, none⟩ = some (.slice (some ⟨g, o, none⟩) 5 c) := (cell_of_row _ _ _ _ _ _ HBX8.out).trans rfl)
             (have f0 : w8.frozen? ⟨G, 0, none⟩ = false := frozen_of_row _ _ _ _ _ HBX8.out)
             (have f1 : w8.frozen? ⟨G, 1, none⟩ = false := frozen_of_row _ _ _ _ _ HBX8.out)
             clear ha8' hf8' ho8 ho8'))
        all_goals
          rw [set2 HBX8.out]
          have hos := only_setRow w8 G #[.slice (some ⟨gv, ov, none⟩) 5 cv, .slice (some ⟨g8, o8, none⟩) 5 c8]
          have HA9 := Lib.hid (HA8.out.only hos (by have := HGB.out; omega))
          have H9 := Lib.hid (H8.out.setRow (.inr rfl) #[.slice (some ⟨gv, ov, none⟩) 5 cv, .slice (some ⟨g8, o8, none⟩) 5 c8])
          have HF9 := Lib.hid (HF8.out.setRow (.inr rfl) #[.slice (some ⟨gv, ov, none⟩) 5 cv, .slice (some ⟨g8, o8, none⟩) 5 c8])
          have HBX9 := Lib.hid (setRow_heap w8 G _ #[.slice (some ⟨gv, ov, none⟩) 5 cv, .slice (some ⟨g8, o8, none⟩) 5 c8] _ _ HBX8.out)
          have B9 : Hid (Below w.heap.size w (w8.setRow G #[.slice (some ⟨gv, ov, none⟩) 5 cv, .slice (some ⟨g8, o8, none⟩) 5 c8])) := Lib.hid (below_setRow (HO8.out.below hb.out (by have := hs.out; have := HGB.out; omega) HB.out) HGB.out.2.2 _)
          have HS9 := Lib.hid (Nat.le_trans (Nat.le_trans hs.out HO8.out.size) hos.size)
          have b0 : (w8.setRow G #[.slice (some ⟨gv, ov, none⟩) 5 cv, .slice (some ⟨g8, o8, none⟩) 5 c8]).cell? ⟨G, 0, none⟩ = some (.slice (some ⟨gv, ov, none⟩) 5 cv) := (cell_of_row _ _ _ _ _ _ HBX9.out).trans rfl
          have b1 : (w8.setRow G #[.slice (some ⟨gv, ov, none⟩) 5 cv, .slice (some ⟨g8, o8, none⟩) 5 c8]).cell? ⟨G, 1, none⟩ = some (.slice (some ⟨g8, o8, none⟩) 5 c8) := (cell_of_row _ _ _ _ _ _ HBX9.out).trans rfl
          clear hos z0 z1 f0 f1 c0 c1
          generalize w8.setRow G #[.slice (some ⟨gv, ov, none⟩) 5 cv, .slice (some ⟨g8, o8, none⟩) 5 c8] = W9 at *
          go_wp2_with fail
          refine (is_any (And1 (fun b => b = B) G) B _ _ _ _ _ HA9.out HF9.out H9.out).mono ?_; rintro e W10 ⟨rfl, hb10⟩
          have HA10 := Lib.hid (HA9.out.below hb10)
          have HF10 := Lib.hid (HF9.out.below hb10)
          have H10 := Lib.hid (H9.out.below hb10)
          have HBX10 := Lib.hid ((hb10.block G (by have := HGB.out; have := HS9.out; omega)).trans HBX9.out)
          have B10 := Lib.hid (B9.out.trans (hb10.mono B9.out.size))
          have HS10 := Lib.hid (Nat.le_trans HS9.out hb10.size)
          clear hb10 b0 b1
          go_wp2_with fail
          go_roundw
          case rel => exact ⟨k + 1, _, g8, o8, c8, true, HK.out.1, HK.out.2, by go_num, rfl, HA10, HBX10, HF10, H10, B10, HS10⟩
          case measure => simp [intOf]; have := HK.out; omega
      · obtain rfl : k = 150 := by omega
        clear hlt5 hk
        have hki : ((150 : Nat) : Int) < (n : Int) := by omega
        go_wp2_with fail
        go_ret
        exact ⟨rfl, hb.out⟩
    · obtain rfl : k = n := by omega
      clear hlt
      go_wp2_with fail
      go_ret
      exact ⟨rfl, hb.out⟩

theorem own : ownKnob Try.prog.godebug = none := by kernel_rfl
theorem laidOut : laidOutB Try.prog = true := by kernel_rfl

set_option maxRecDepth 100000 in
theorem lifted (os : Os) (started : os.Started) (H : Type) (enc : TypeId × Value → H) :
    ReturnsInHanded {} Try.checked os 3 .any (Rows.pacePlaysSpec.pre6 enc Try.prog Try.f3 Rows.pacePlaysRow.domain false) (Rows.pacePlaysSpec.post enc Try.prog Try.f3 false true false false) := by
  refine Base.law_lifted (C := Try.checked) own started (by kernel_rfl) Try.func3 laidOut (by kernel_rfl) rfl Try.underlying4 rfl ?_
    (ChangeSpec.witness6 (enc := enc) (C := Try.checked) false ⟨#[], #[.slice none 0 0, .slice none 0 0], []⟩ 8 (by kernel_rfl) (by kernel_rfl) (by kernel_rfl) (by kernel_rfl)) ?_
  · intro ds h
    match ds, h with
    | [_d0, _d1], _ => exact ⟨rfl, rfl, rfl⟩
  · intro W base args ds before hval0 hA0 hlt hsz
    have hval : ∀ (j : Nat) t v, Try.f3.params[j]? = some t → args[j]? = some v → Value.okWide Try.prog W .any base t v := hval0
    have hA : DataW.TrodAll enc Try.prog W 0 (fun _ => true) true Try.f3.params.toList args.toList ds before := hA0
    clear hval0 hA0
    rw [Try.params3] at hA hval hsz
    obtain ⟨v0, vs0, d0, ds0, p0, q0, hargs, rfl, rfl, h0, r0⟩ := trodAll_cons hA
    obtain ⟨v1, vs1, d1, ds1, p1, q1, rfl, rfl, rfl, h1, r1⟩ := trodAll_cons r0
    obtain ⟨rfl, rfl, rfl⟩ := trodAll_nil r1
    obtain rfl : args = #[v0, v1] := by cases args; simp_all
    obtain ⟨a0, w0⟩ := Base.open_int_slice Try.underlying22 Try.underlying3 (by kernel_rfl) (by kernel_rfl) (hval 0 22 v0 rfl rfl) h0 (fun x hx => hlt x (by simp [hx])) (Base.sized_at hsz (j := 0) rfl rfl)
    obtain ⟨x1, w1⟩ := Base.open_shape (s := (.slice (.struct [(.int .i64), .bool]))) (by kernel_rfl) (hval 1 23 v1 rfl rfl) h1 (fun x hx => hlt x (by simp [hx])) hsz (j := 1) rfl rfl
    exact walk W v0 a0 w0 v1 x1 w1

theorem over : Rows.pacePlaysRow.holds Try.pinned (OpenSpec.ofChange Rows.pacePlaysSpec) :=
  OpenClaim.holds_of_wide 3 Try.f3 rfl rfl rfl rfl rfl rfl rfl ⟨rfl, rfl, rfl, rfl, rfl⟩ rfl rfl rfl rfl rfl (by kernel_rfl) Try.func3 (by kernel_rfl)
    (of_decide_eq_true (by kernel_rfl)) (by unfold Func.isWrapper; first | (rw [if_pos (by decide +kernel)]; kernel_rfl) | (rw [if_neg (by decide +kernel)]; exact ⟨rfl, rfl⟩))
    (fun os started H enc _ => lifted os started H enc)

theorem proved : Rows.PacePlaysSaid :=
  over
#print axioms proved
end Go.Proofs.Ytlfjndjbfbejkaa.pacePlays
