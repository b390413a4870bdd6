/-
  PaceLives is proved: from a safe one on, who asks at once, and is answered at once, is never given up; for every input the law returns true.
-/
import Derived.Test.YtlfjndjbfbejkaaBase
import Derived.Test.YtlfjndjbfbejkaaPaceC
import Derived.Test.YtlfjndjbfbejkaaRefSame
import Derived.Deep.RegionWith
import Derived.Deep.RegionHeld3
import Derived.Deep.DeepCutAuto
import Derived.Deep.LoopGhost
import Derived.Deep.CutBlock
namespace Go.Proofs.Ytlfjndjbfbejkaa.paceLives
open Go.ChangeShapes Go.WideShapes Go.ChangeAt Go.RowKit
set_option linter.unusedVariables false      -- a walk need not use every bound of an argument

open Pace View Bank
set_option maxRecDepth 100000 in
set_option maxHeartbeats 16000000 in
theorem walk (w : World) (v0 : Value) (D : List Int) (w0 : Base.IntSlice .i64 8 w v0 D) (v1 : Value) (x1 : Base.Dat) (w1 : Base.RdV w (.slice .bool) x1 v1) (v2 : Value) (x2 : Base.Dat) (w2 : Base.RdV w (.slice (.struct [.int .i64, .bool])) x2 v2) :
    Calls Try.prog 4 #[v0, v1, v2] w fun e w' => e = .returned (.bool true) ∧ Below w.heap.size w w' := by
  obtain ⟨a, cap, rfl, hr, hD, hn⟩ := Pace.rd_ints w0
  obtain ⟨aI, nI, capI, I, rfl, hI, hnI⟩ := Pace.open_bools w v1 x1 w1
  obtain ⟨aA, n, capA, A, rfl, hA, hnA⟩ := Pace.open_acts w v2 x2 w2
  have HL := Lib.hid hr
  have HD := Lib.hid hD
  have HN := Lib.hid hn
  have HACT := Lib.hid hA
  have HID := Lib.hid hI
  have hnn : (n : Int) ≤ 140737488351232 := by omega
  have hni : (nI : Int) ≤ 140737488351232 := by omega
  clear w0 w1 w2 hr hD hn hA hnA hI hnI
  go_enter Try.func4, Try.ntmps4
  go_wp2_with fail
  refine (pawake_any _).mono ?_; rintro e W1 ⟨rfl, hb1⟩
  have B1 := Lib.hid hb1
  clear hb1
  go_wp2_with fail
  refine (right_any a _ cap D _ (HL.out.below B1.out) HN.out HD.out).mono ?_; rintro e W2 ⟨v, K, rfl, hown, hK, hb⟩
  have HK := Lib.hid hK
  have B2 := Lib.hid (B1.out.trans (hb.mono B1.out.size))
  obtain ⟨k0, k1, k2, k3, k4, rfl⟩ := five_of hK.1
  have h2 := Five.own (N := fun _ => False) hown hK.1 (fun _ h => h.elim)
  have HF2 := Lib.hid h2
  obtain ⟨gv, ov, cv, rfl, _, _⟩ := h2
  clear hown hb hK HL HN HD B1
  go_wp2_with fail
  refine (own_any (fun _ => False) _ k0 k1 k2 k3 k4 _ HF2.out).mono ?_; rintro e W3 ⟨rfl, hb⟩
  have B3 := Lib.hid (B2.out.trans (hb.mono B2.out.size))
  have HF3 := Lib.hid (HF2.out.below hb)
  clear hb HF2 B2
  go_wp2_with fail
  refine (new_any k0 k1 k2 k3 k4 _ HK.out).mono ?_; rintro e W4 ⟨B, rfl, hB, h4, hb⟩
  have HB : Hid (w.heap.size ≤ B) := Lib.hid (Nat.le_trans B3.out.size hB)
  have HA4 := Lib.hid h4
  have B4 := Lib.hid (B3.out.trans (hb.mono B3.out.size))
  have HF4 : Hid (Five W4 (fun b => b = B) (.slice (some ⟨gv, ov, none⟩) 5 cv) [k0, k1, k2, k3, k4]) := Lib.hid ((HF3.out.grow (N' := fun b => b = B) (fun b hb => .inr (by omega))).below hb)
  clear hb h4 hB HF3 B3
  go_wp2_with fail
  refine (rnew_any (fun b => b = B) _ _ _ (fun b hb => by subst hb; exact HA4.out.lt) HF4.out).mono ?_; rintro e W5 ⟨v5, rfl, h5, hb⟩
  have H5 := Lib.hid h5
  obtain ⟨g5, o5, c5, rfl, _, _⟩ := h5
  have B5 := Lib.hid (B4.out.trans (hb.mono B4.out.size))
  have HA5 := Lib.hid (HA4.out.below hb)
  have HF5 := Lib.hid (HF4.out.below hb)
  clear hb HA4 HF4 B4
  obtain ⟨W6, hW6⟩ : ∃ W6, W6 = W5.alloc (.cells #[.slice (some ⟨gv, ov, none⟩) 5 cv, .slice (some ⟨g5, o5, none⟩) 5 c5] 34) := ⟨_, rfl⟩
  obtain ⟨G, hG⟩ : ∃ G, G = W5.heap.size := ⟨_, rfl⟩
  have hb56 : Below W5.heap.size W5 W6 := by rw [hW6]; exact (Below.refl _ _).alloc (Nat.le_refl _) _
  have B6 := Lib.hid (B5.out.trans (hb56.mono B5.out.size))
  have HBX6 : Hid (W6.heap[G]? = some (.cells #[.slice (some ⟨gv, ov, none⟩) 5 cv, .slice (some ⟨g5, o5, none⟩) 5 c5] 34 (0, 0))) := Lib.hid (by rw [hW6, hG]; exact heap_alloc_new W5 _)
  have HA6 := Lib.hid (HA5.out.below hb56)
  have HF6 : Hid (Five W6 (And1 (fun b => b = B) G) (.slice (some ⟨gv, ov, none⟩) 5 cv) [k0, k1, k2, k3, k4]) := Lib.hid ((HF5.out.grow (N' := And1 (fun b => b = B) G) (fun b hb => by rcases hb with h | h; exact .inl h; exact .inr (by omega))).below hb56)
  have H6 : Hid (Five W6 (And1 (fun b => b = B) G) (.slice (some ⟨g5, o5, none⟩) 5 c5) zeroL) := Lib.hid ((H5.out.grow (N' := And1 (fun b => b = B) G) (fun b hb => by rcases hb with h | h; exact .inl h; exact .inr (by omega))).below hb56)
  have HGB : Hid (B < G ∧ G < W6.heap.size ∧ w.heap.size ≤ G) := Lib.hid ⟨by rw [hG]; exact HA5.out.lt, by rw [hW6, hG]; simp, by rw [hG]; exact B5.out.size⟩
  clear hb56 HA5 HF5 H5 B5
  go_wp2_with fail
  rw [← hG, ← hW6]
  clear hW6 hG
  refine (begin_any B _ _ _ HA6.out).mono ?_; rintro e W7 ⟨⟨v7, rfl⟩, h7, ho⟩
  have HA7 := Lib.hid h7
  have B7 := Lib.hid (ho.below B6.out B6.out.size HB.out)
  have HF7 := Lib.hid (HF6.out.only ho (.inl rfl))
  have HX7 := Lib.hid (H6.out.only ho (.inl rfl))
  have HBX7 := Lib.hid ((ho.block G HGB.out.2.1 (by have := HGB.out; omega)).trans HBX6.out)
  have HS7 := Lib.hid ho.size
  have b0 : W7.cell? ⟨G, 0, none⟩ = some (.slice (some ⟨gv, ov, none⟩) 5 cv) := (cell_of_row _ _ _ _ _ _ HBX7.out).trans rfl
  have b1 : W7.cell? ⟨G, 1, none⟩ = some (.slice (some ⟨g5, o5, none⟩) 5 c5) := (cell_of_row _ _ _ _ _ _ HBX7.out).trans rfl
  clear h7 ho HA6 B6 HF6 H6 HBX6
  go_wp2_with fail
  refine (rbegin_any (And1 (fun b => b = B) G) _ _ _ _ _ (fun b hb => by
    have := HGB.out
    have := HS7.out
    rcases hb with h | h
    · have h : b = B := h
      omega
    · omega) HF7.out HX7.out).mono ?_; rintro e W8 ⟨v8, rfl, h8, hb8⟩
  have H8 := Lib.hid h8
  have HA8 := Lib.hid (HA7.out.below hb8)
  have HF8 := Lib.hid (HF7.out.below hb8)
  have B8 := Lib.hid (B7.out.trans (hb8.mono B7.out.size))
  have HBX8 := Lib.hid ((hb8.block G (by have := HGB.out; have := HS7.out; omega)).trans HBX7.out)
  have HS8 := Lib.hid (Nat.le_trans HS7.out hb8.size)
  obtain ⟨g8, o8, c8, rfl, _, _⟩ := h8
  clear hb8 b0 b1 HA7 B7 HF7 HX7 HBX7 HS7
  go_wp2_with (refine wpList_store_row rfl 34 _ _ rfl G #[.slice (some ⟨gv, ov, none⟩) 5 cv, .slice (some ⟨g8, o8, none⟩) 5 c8] rfl rfl 34 _ HBX8.out ref_info rfl (by simp [Value.oneCell']) ?_)
  have hos := only_setRow W8 G #[.slice (some ⟨gv, ov, none⟩) 5 cv, .slice (some ⟨g8, o8, none⟩) 5 c8]
  have HA9 := Lib.hid (HA8.out.only hos (by have := HGB.out; omega))
  have H9 := Lib.hid (H8.out.setRow (.inr rfl) #[.slice (some ⟨gv, ov, none⟩) 5 cv, .slice (some ⟨g8, o8, none⟩) 5 c8])
  have HF9 := Lib.hid (HF8.out.setRow (.inr rfl) #[.slice (some ⟨gv, ov, none⟩) 5 cv, .slice (some ⟨g8, o8, none⟩) 5 c8])
  have HBX9 := Lib.hid (setRow_heap W8 G _ #[.slice (some ⟨gv, ov, none⟩) 5 cv, .slice (some ⟨g8, o8, none⟩) 5 c8] _ _ HBX8.out)
  have B9 : Hid (Below w.heap.size w (W8.setRow G #[.slice (some ⟨gv, ov, none⟩) 5 cv, .slice (some ⟨g8, o8, none⟩) 5 c8])) := Lib.hid (below_setRow B8.out HGB.out.2.2 _)
  have HS9 := Lib.hid (Nat.le_trans HS8.out hos.size)
  have HINV : Hid (Inv (beginL [k0, k1, k2, k3, k4] zeroL)) := Lib.hid (begin_inv HK.out rfl)
  clear hos HA8 H8 HF8 HBX8 B8 HS8
  generalize W8.setRow G #[.slice (some ⟨gv, ov, none⟩) 5 cv, .slice (some ⟨g8, o8, none⟩) 5 c8] = W9 at *
  generalize beginL [k0, k1, k2, k3, k4] zeroL = L9 at *
  go_loopw [10] (fun s10 wr => ∃ (k : Nat) (L : List Nat) (g o c : Nat), k ≤ n ∧ k ≤ 40 ∧ s10 = .int .i64 (k : Int) ∧ Hid (At wr B [k0, k1, k2, k3, k4] L) ∧ Hid (wr.heap[G]? = some (.cells #[.slice (some ⟨gv, ov, none⟩) 5 cv, .slice (some ⟨g, o, none⟩) 5 c] 34 (0, 0))) ∧ Hid (Five wr (And1 (fun b => b = B) G) (.slice (some ⟨gv, ov, none⟩) 5 cv) [k0, k1, k2, k3, k4]) ∧ Hid (Five wr (And1 (fun b => b = B) G) (.slice (some ⟨g, o, none⟩) 5 c) L) ∧ Hid (Below w.heap.size w wr) ∧ Hid (W6.heap.size ≤ wr.heap.size) ∧ Hid (Inv L)) (fun s10 _ => 40 - (intOf s10).toNat)
  case atStart => exact ⟨0, L9, g8, o8, c8, Nat.zero_le _, Nat.zero_le _, rfl, HA9, HBX9, HF9, H9, B9, HS9, HINV⟩
  case round =>
    obtain ⟨k, L, g, o, c, hkn, hk, rfl, ha, hbx, hf, h7, hb, hs, hinv⟩ := hrel
    by_cases hcond : k < n ∧ k < 40
    · obtain ⟨hlt, hlt5⟩ := hcond
      obtain ⟨bA, oA, rfl, hltA, hcA⟩ := (HACT.out.below hb.out).2 (by omega)
      obtain ⟨c0, c1⟩ := hcA k hlt
      obtain ⟨⟨kind, idle⟩, hy⟩ : ∃ y, A.getD k (0, false) = y := ⟨_, rfl⟩
      rw [hy] at c0 c1
      have c0 : wr.cell? ⟨bA, oA + k * 2, none⟩ = some (.int .i64 kind) := c0
      have c1 : wr.cell? ⟨bA, oA + k * 2 + 1, none⟩ = some (.bool idle) := c1
      have HK1 := Lib.hid (show k + 1 ≤ n ∧ k + 1 ≤ 40 by omega)
      have hki : (k : Int) < (n : Int) := by omega
      have hk5 : (k : Int) < 40 := by omega
      have hba : Below wr.heap.size wr (wr.alloc (.cells #[.int .i64 kind, .bool idle] 39)) := (Below.refl _ _).alloc (Nat.le_refl _) _
      have HA2 := Lib.hid (ha.out.below hba)
      have HF2 := Lib.hid (hf.out.below hba)
      have H2 := Lib.hid (h7.out.below hba)
      have HBX2 := Lib.hid ((hba.block G (by have := HGB.out; have := hs.out; omega)).trans hbx.out)
      have B2 := Lib.hid (hb.out.trans (hba.mono hb.out.size))
      have HS2 := Lib.hid (Nat.le_trans hs.out hba.size)
      clear hy hlt hlt5 hkn hk hcA hltA hba ha hf h7 hbx hb hs
      by_cases hk2 : kind = 2
      · subst hk2
        go_wp2_with fail
        go_roundw
        case rel => exact ⟨k + 1, L, g, o, c, HK1.out.1, HK1.out.2, by go_num, HA2, HBX2, HF2, H2, B2, HS2, hinv⟩
        case measure => simp [intOf]; have := HK1.out; omega
      · by_cases hk8 : kind = 8
        · subst hk8
          go_wp2_with fail
          go_roundw
          case rel => exact ⟨k + 1, L, g, o, c, HK1.out.1, HK1.out.2, by go_num, HA2, HBX2, HF2, H2, B2, HS2, hinv⟩
          case measure => simp [intOf]; have := HK1.out; omega
        · have n2 : (kind != 2) = true := by simpa using hk2
          have n8 : (kind != 8) = true := by simpa using hk8
          have b0 : (wr.alloc (.cells #[.int .i64 kind, .bool idle] 39)).cell? ⟨G, 0, none⟩ = some (.slice (some ⟨gv, ov, none⟩) 5 cv) := (cell_of_row _ _ _ _ _ _ HBX2.out).trans rfl
          have b1 : (wr.alloc (.cells #[.int .i64 kind, .bool idle] 39)).cell? ⟨G, 1, none⟩ = some (.slice (some ⟨g, o, none⟩) 5 c) := (cell_of_row _ _ _ _ _ _ HBX2.out).trans rfl
          have HINV2 := Lib.hid (step_inv HK.out HA2.out.bank.len hinv.out kind idle)
          clear hk2 hk8
          go_wp2_with fail
          clear c0 c1
          refine (step_any (And1 (fun b => b = B) G) B _ L _ _ kind idle _ (.inl rfl) (fun b hb => by
               have := HGB.out
               have := HS2.out
               rcases hb with h | h
               · have h : b = B := h
                 omega
               · omega) HA2.out HF2.out H2.out).mono ?_
          rintro e w8 ⟨v8, rfl, ha8', h8', hf8', ho8⟩
          have HO8 := Lib.hid ho8
          have HA8 := Lib.hid ha8'
          have H8 := Lib.hid h8'
          have HF8 := Lib.hid hf8'
          obtain ⟨g8, o8, c8, rfl, _, _⟩ := h8'
          have HBX8 := Lib.hid ((ho8.block G (by have := HGB.out; have := HS2.out; omega) (by have := HGB.out; omega)).trans HBX2.out)
          have B8 := Lib.hid (ho8.below B2.out (by have := B2.out.size; omega) HB.out)
          have HS8 := Lib.hid (Nat.le_trans HS2.out ho8.size)
          clear ha8' hf8' ho8 b0 b1 HA2 HF2 H2 HBX2 B2 HS2
          go_wp2_with (refine wpList_store_row rfl 34 _ _ rfl G #[.slice (some ⟨gv, ov, none⟩) 5 cv, .slice (some ⟨g8, o8, none⟩) 5 c8] rfl rfl 34 _ HBX8.out ref_info rfl (by simp [Value.oneCell']) ?_)
          have hos := only_setRow w8 G #[.slice (some ⟨gv, ov, none⟩) 5 cv, .slice (some ⟨g8, o8, none⟩) 5 c8]
          go_roundw
          case rel => exact ⟨k + 1, _, g8, o8, c8, HK1.out.1, HK1.out.2, by go_num, Lib.hid (HA8.out.only hos (by have := HGB.out; omega)), Lib.hid (setRow_heap w8 G _ _ _ _ HBX8.out), Lib.hid (HF8.out.setRow (.inr rfl) _), Lib.hid (H8.out.setRow (.inr rfl) _), Lib.hid (below_setRow B8.out HGB.out.2.2 _), Lib.hid (Nat.le_trans HS8.out hos.size), HINV2⟩
          case measure => simp [intOf]; have := HK1.out; omega
    · have HL5 := Lib.hid ha.out.bank.len
      have hex : (¬ (k : Int) < (n : Int)) ∨ ((k : Int) < (n : Int) ∧ ¬ (k : Int) < 40) := by omega
      rcases hex with hx | ⟨hx2, hx⟩
      all_goals
        clear hcond hkn
        go_upto_region 16 with (fail)
        go_cut [83] (fun s83 wx => ∃ qb q, s83 = .bool qb ∧ (qb = false → Live L) ∧ wx = wr.drewN q)
        case first =>
          clear hx
          by_cases hsf : safeL L = true
          · by_cases hd3 : 0 < L.getD 3 0
            · have d3 : decide (0 < L.getD 3 0) = true := decide_eq_true hd3
              have HLV : Hid (Live L) := Lib.hid ⟨hsf, hinv.out, .inl hd3⟩
              have HSF := Lib.hid hsf
              clear hd3 hsf
              go_wp2_with fail
              refine (safe_any B _ _ _ ha.out).mono ?_; rintro e w6 ⟨rfl, q, rfl⟩
              rw [HSF.out]
              go_wp2_with fail
              refine (runs_at B _ _ _ 3 3 rfl (by decide) (ha.out.drewN q)).mono ?_; rintro e w' ⟨rfl, rfl⟩
              rw [d3]
              go_wp2_with fail
              go_meet
              exact ⟨false, q, rfl, fun _ => HLV.out, rfl⟩
            · have d3 : decide (0 < L.getD 3 0) = false := decide_eq_false hd3
              by_cases hd4 : 0 < L.getD 4 0
              · have d4 : decide (0 < L.getD 4 0) = true := decide_eq_true hd4
                have HLV : Hid (Live L) := Lib.hid ⟨hsf, hinv.out, .inr hd4⟩
                have HSF := Lib.hid hsf
                clear hd3 hsf hd4
                go_wp2_with fail
                refine (safe_any B _ _ _ ha.out).mono ?_; rintro e w6 ⟨rfl, q, rfl⟩
                rw [HSF.out]
                go_wp2_with fail
                refine (runs_at B _ _ _ 3 3 rfl (by decide) (ha.out.drewN q)).mono ?_; rintro e w' ⟨rfl, rfl⟩
                rw [d3]
                go_wp2_with fail
                refine (runs_at B _ _ _ 4 4 rfl (by decide) (ha.out.drewN q)).mono ?_; rintro e w' ⟨rfl, rfl⟩
                rw [d4]
                go_wp2_with fail
                go_meet
                exact ⟨false, q, rfl, fun _ => HLV.out, rfl⟩
              · have d4 : decide (0 < L.getD 4 0) = false := decide_eq_false hd4
                have HSF := Lib.hid hsf
                clear hd3 hsf hd4
                go_wp2_with fail
                refine (safe_any B _ _ _ ha.out).mono ?_; rintro e w6 ⟨rfl, q, rfl⟩
                rw [HSF.out]
                go_wp2_with fail
                refine (runs_at B _ _ _ 3 3 rfl (by decide) (ha.out.drewN q)).mono ?_; rintro e w' ⟨rfl, rfl⟩
                rw [d3]
                go_wp2_with fail
                refine (runs_at B _ _ _ 4 4 rfl (by decide) (ha.out.drewN q)).mono ?_; rintro e w' ⟨rfl, rfl⟩
                rw [d4]
                go_wp2_with fail
                go_meet
                exact ⟨true, q, rfl, (fun h => by cases h), rfl⟩
          · have hsf2 : safeL L = false := by simpa using hsf
            have HSF := Lib.hid hsf2
            clear hsf hsf2
            go_wp2_with fail
            refine (safe_any B _ _ _ ha.out).mono ?_; rintro e w6 ⟨rfl, q, rfl⟩
            rw [HSF.out]
            go_wp2_with fail
            go_meet
            exact ⟨true, q, rfl, (fun h => by cases h), rfl⟩
        case rest =>
        obtain ⟨qb, q, rfl, hqb, hwx⟩ := hcut
        have HQB := Lib.hid hqb
        have HAX := Lib.hid (ha.out.drewN q)
        have HFX := Lib.hid (hf.out.below (View.below_drewN (Below.refl _ _) q))
        have H7X := Lib.hid (h7.out.below (View.below_drewN (Below.refl _ _) q))
        have BX := Lib.hid (View.below_drewN hb.out q)
        have HBXX : Hid ((wr.drewN q).heap[G]? = some (.cells #[.slice (some ⟨gv, ov, none⟩) 5 cv, .slice (some ⟨g, o, none⟩) 5 c] 34 (0, 0))) := Lib.hid hbx.out
        have HGX : Hid (G < (wr.drewN q).heap.size) := Lib.hid (by have := HGB.out; have := hs.out; have e0 : (wr.drewN q).heap.size = wr.heap.size := rfl; omega)
        rw [← hwx] at HAX HFX H7X BX HBXX HGX
        clear hwx ha hf h7 hb hbx hs hqb
        cases qb
        · have HLV := Lib.hid (HQB.out rfl)
          clear HFX H7X HBXX HQB
          go_wp2_with fail
          go_loopw [89] (fun s89 wr => ∃ (i : Nat) (L : List Nat), i ≤ 200 ∧ s89 = .int .i64 (i : Int) ∧ Hid (At wr B [k0, k1, k2, k3, k4] L) ∧ Hid (Live L) ∧ Hid (Below w.heap.size w wr)) (fun s89 _ => 200 - (intOf s89).toNat)
          case atStart => exact ⟨0, L, Nat.zero_le _, rfl, HAX, HLV, BX⟩
          case round =>
            obtain ⟨i, L1, hi, rfl, ha, hl, hb⟩ := hrel
            by_cases hlt : i < 200
            · have HI := Lib.hid (show i + 1 ≤ 200 by omega)
              have hi2 : (i : Int) < 200 := by omega
              clear hlt hi
              go_upto_region 21 with (fail)
              go_cut [13] (fun s13 wx => (∃ t, s13 = .bool t) ∧ wx = wr)
              case first =>
                by_cases hin : i < nI
                · obtain ⟨bI, oI, rfl, _, hcI⟩ := (HID.out.below hb.out).2 (by omega)
                  have hc := hcI i hin
                  have hini : (i : Int) < (nI : Int) := by omega
                  clear hcI hin
                  go_wp2_with fail
                  go_meet
                  exact ⟨⟨_, rfl⟩, rfl⟩
                · have hini : ¬ (i : Int) < (nI : Int) := by omega
                  clear hin
                  go_wp2_with fail
                  go_meet
                  exact ⟨⟨_, rfl⟩, rfl⟩
              case rest =>
              obtain ⟨⟨t, rfl⟩, hwx⟩ := hcut
              obtain rfl := hwx.symm
              go_upto_region 22 with (fail)
              go_cut [110] (fun s110 wx => ∃ qb, s110 = .bool qb ∧ (qb = true → 0 < L1.getD 4 0) ∧ wx = wr)
              case first =>
                by_cases h7 : (i : Int) % 7 = 3
                · have h7t : ((i : Int) % 7 == 3) = true := by rw [h7]; rfl
                  clear h7
                  go_wp2_with fail
                  refine (runs_at B _ _ _ 4 4 rfl (by decide) ha.out).mono ?_; rintro e w' ⟨rfl, rfl⟩
                  go_wp2_with fail
                  go_meet
                  exact ⟨_, rfl, fun h => by simpa using h, rfl⟩
                · have h7t : ((i : Int) % 7 == 3) = false := by simpa using h7
                  clear h7
                  go_wp2_with fail
                  go_meet
                  exact ⟨false, rfl, (fun h => by cases h), rfl⟩
              case rest =>
              obtain ⟨qb, rfl, hqb, hwx⟩ := hcut
              obtain rfl := hwx.symm
              have HQB := Lib.hid hqb
              clear hqb
              go_upto_if 110 with (fail)
              go_cut [13] (fun s13 wx => s13 = .bool t ∧ ∃ L2, Hid (At wx B [k0, k1, k2, k3, k4] L2) ∧ Hid (Live L2) ∧ Hid (Below w.heap.size w wx))
              case first =>
                cases qb
                · go_wp2_with fail
                  go_meet
                  exact ⟨rfl, L1, ha, hl, hb⟩
                · have HLB := Lib.hid (busy_live HK.out ha.out.bank.len hl.out (HQB.out rfl))
                  go_wp2_with fail
                  refine (busy_any B _ _ _ ha.out).mono ?_; rintro e w2 ⟨⟨v2, rfl⟩, h2, ho⟩
                  have HA2 := Lib.hid h2
                  have HB2 := Lib.hid (ho.below hb.out hb.out.size HB.out)
                  clear h2 ho
                  go_wp2_with fail
                  go_meet
                  exact ⟨rfl, _, HA2, HLB, HB2⟩
              case rest =>
              obtain ⟨rfl, L2, ha2, hl2, hb2⟩ := hcut
              clear ha hl hb HQB
              have HSIL := Lib.hid (live_silent ha2.out.bank.len hl2.out)
              have HLT := Lib.hid (fun h => tick_live ha2.out.bank.len hl2.out h)
              go_wp2_with fail
              refine (tick_at B _ _ _ ha2.out).mono ?_; rintro e w3 ⟨v3, rfl, hv, h3, ho⟩
              have HA3 := Lib.hid h3
              have HB3 := Lib.hid (ho.below hb2.out hb2.out.size HB.out)
              have HV := Lib.hid hv
              obtain ⟨a3, n3, c3, rfl, _, hr3⟩ := hv.form
              have HR3 := Lib.hid hr3
              have hn3 : n3 ≤ 5 := by rw [hr3.1]; exact overs_len _ 5
              have hn3' : (n3 : Int) ≤ 5 := by omega
              have HLT2 := Lib.hid ha2.out.lt
              clear hv h3 ho hr3 hb2 ha2
              go_wp2_with fail
              go_loopw [118] (fun s118 wr => ∃ (m : Nat) (L3 : List Nat), m ≤ n3 ∧ s118 = .int .i64 (m : Int) ∧ Hid (At wr B [k0, k1, k2, k3, k4] L3) ∧ Hid (Below w.heap.size w wr) ∧ Hid (RdI wr a3 n3 (oversL L2)) ∧ Hid ((L3 = tickL L2 ∧ ∀ x ∈ (oversL L2).take m, asksL x = false) ∨ Live L3)) (fun s118 _ => n3 - (intOf s118).toNat)
              case atStart => exact ⟨0, tickL L2, Nat.zero_le _, rfl, HA3, HB3, HR3, Lib.hid (.inl ⟨rfl, by simp⟩)⟩
              case round =>
                obtain ⟨m, L3, hm, rfl, ha, hb, hr, hcs⟩ := hrel
                by_cases hmn : m < n3
                · obtain ⟨b, off, rfl, _, hc⟩ := hr.out.at_ hmn
                  obtain ⟨x, hx⟩ : ∃ x, (oversL L2).getD m 0 = x := ⟨_, rfl⟩
                  rw [hx] at hc
                  have hml : m < (oversL L2).length := by have := hr.out.1; omega
                  have hx3 := HSIL.out x (by rw [← hx]; simp [List.getD, hml])
                  have HTK : Hid ((oversL L2).take (m + 1) = (oversL L2).take m ++ [x]) := Lib.hid (by rw [View.take_succ' _ 0 m hml, hx])
                  have hx3f : (x == 3) = false := by simpa using hx3
                  have HM := Lib.hid (show m + 1 ≤ n3 by omega)
                  have hmi : (m : Int) < (n3 : Int) := by omega
                  have hm5 : (m : Int) ≤ 5 := by omega
                  clear hx hml hx3 hmn hm
                  go_wp2_with fail
                  refine (asks_any _ x _).mono ?_; rintro e w' ⟨rfl, rfl⟩
                  obtain ⟨ab, hab⟩ : ∃ b, asksL x = b := ⟨_, rfl⟩
                  rw [hab]
                  have HAB := Lib.hid hab
                  clear hab
                  cases ab
                  · go_wp2_with fail
                    go_roundw
                    case rel => exact ⟨m + 1, L3, HM.out, by go_num, ha, hb, hr, Lib.hid (by
                      rcases hcs.out with ⟨h1, h2⟩ | h
                      · refine .inl ⟨h1, fun y hy => ?_⟩
                        rw [HTK.out] at hy
                        rcases List.mem_append.1 hy with hy | hy
                        · exact h2 y hy
                        · obtain rfl := List.mem_singleton.1 hy; exact HAB.out
                      · exact .inr h)⟩
                    case measure => simp [intOf]; have := HM.out; omega
                  · have HLV3 : Hid (Live (answeredL [k0, k1, k2, k3, k4] (polledL [k0, k1, k2, k3, k4] L3 t) t)) := Lib.hid (ask_live HK.out ha.out.bank.len t)
                    go_wp2_with fail
                    refine (polled_any B _ _ _ t ha.out).mono ?_; rintro e w4 ⟨⟨v4, rfl⟩, h4, ho⟩
                    have HA4 := Lib.hid h4
                    have HB4 := Lib.hid (ho.below hb.out hb.out.size HB.out)
                    have HR4 := Lib.hid (rd_own_only HV.out hr.out ho HLT2.out)
                    clear h4 ho
                    go_wp2_with fail
                    refine (answered_any B _ _ _ t HA4.out).mono ?_; rintro e w5 ⟨⟨v5, rfl⟩, h5, ho⟩
                    have HA5 := Lib.hid h5
                    have HB5 := Lib.hid (ho.below HB4.out HB4.out.size HB.out)
                    have HR5 := Lib.hid (rd_own_only HV.out HR4.out ho HLT2.out)
                    clear h5 ho HA4 HB4 HR4 hc
                    go_wp2_with fail
                    go_roundw
                    case rel => exact ⟨m + 1, _, HM.out, by go_num, HA5, HB5, HR5, Lib.hid (.inr HLV3.out)⟩
                    case measure => simp [intOf]; have := HM.out; omega
                · obtain rfl : m = n3 := by omega
                  have HLV3 : Hid (Live L3) := Lib.hid (by
                    rcases hcs.out with ⟨h1, h2⟩ | h
                    · rw [h1]
                      refine HLT.out fun y hy => h2 y ?_
                      rw [List.take_of_length_le (by have := hr.out.1; omega)]; exact hy
                    · exact h)
                  clear hmn hm hcs hr
                  go_wp2_with fail
                  refine (safe_any B _ _ _ ha.out).mono ?_; rintro e w6 ⟨rfl, q, rfl⟩
                  rw [HLV3.out.1]
                  have HA6 := Lib.hid (ha.out.drewN q)
                  have HB6 := Lib.hid (View.below_drewN hb.out q)
                  go_wp2_with fail
                  go_roundw
                  case rel => exact ⟨i + 1, L3, HI.out, by go_num, HA6, HLV3, HB6⟩
                  case measure => simp [intOf]; have := HI.out; omega
            · obtain rfl : i = 200 := by omega
              clear hlt hi
              go_wp2_with fail
              go_ret
              exact ⟨rfl, hb.out⟩
        · have b0 : wc.cell? ⟨G, 0, none⟩ = some (.slice (some ⟨gv, ov, none⟩) 5 cv) := (cell_of_row _ _ _ _ _ _ HBXX.out).trans rfl
          have b1 : wc.cell? ⟨G, 1, none⟩ = some (.slice (some ⟨g, o, none⟩) 5 c) := (cell_of_row _ _ _ _ _ _ HBXX.out).trans rfl
          obtain ⟨sb, hsb⟩ : ∃ b, safeL L = b := ⟨_, rfl⟩
          have HP : Hid (∀ W', Below wc.heap.size wc W' → Calls Try.prog 16 #[.pointer (some ⟨B, 0, none⟩)] W' fun e w2 => e = .returned (.bool sb) ∧ Below W'.heap.size W' w2) := Lib.hid (fun W' hW' =>
            (safe_any B _ L W' (HAX.out.below hW')).mono fun e w2 ⟨he, q, hq⟩ => ⟨by rw [he, hsb], by rw [hq]; exact View.below_drewN (Below.refl _ _) q⟩)
          have HR : Hid (∀ W', Below wc.heap.size wc W' → Calls Try.prog 18 #[.agg #[.slice (some ⟨gv, ov, none⟩) 5 cv, .slice (some ⟨g, o, none⟩) 5 c]] W' fun e w2 => e = .returned (.bool sb) ∧ Below W'.heap.size W' w2) := Lib.hid (fun W' hW' =>
            (rsafe_any _ _ L _ _ W' (H7X.out.below hW') (HFX.out.below hW')).mono fun e w2 ⟨he, h2⟩ => ⟨by rw [he, hsb], h2⟩)
          clear hsb
          go_wp2_with fail
          go_region_held3 (fun w' => w'.cell? ⟨G, 0, none⟩ = some (.slice (some ⟨gv, ov, none⟩) 5 cv) ∧ w'.cell? ⟨G, 1, none⟩ = some (.slice (some ⟨g, o, none⟩) 5 c))
            (first | (with_reducible assumption) | exact ⟨b0, b1⟩ | exact ⟨r0, r1⟩ | exact ⟨s0, s1⟩ | exact ⟨t0, t1⟩ | exact ⟨u0, u1⟩ | go_keep)
            (first
              | (go_at_call 16
                 first
                   | (refine (HP.out _ HBR.out).mono ?_
                      rintro e w3 ⟨rfl, hb3⟩
                      (have HBE : Hid (Below wc.heap.size wc w3) := Lib.hid (HBR.out.trans (hb3.mono HBR.out.size)))
                      (have t0 : w3.cell? ⟨G, 0, none⟩ = some (.slice (some ⟨gv, ov, none⟩) 5 cv) := (View.cell_below HBE.out HGX.out).trans b0)
                      (have t1 : w3.cell? ⟨G, 1, none⟩ = some (.slice (some ⟨g, o, none⟩) 5 c) := (View.cell_below HBE.out HGX.out).trans b1)
                      clear hb3)
                   | (refine (HP.out _ ((Below.refl _ _).drew)).mono ?_
                      rintro e w2 ⟨rfl, hb2⟩
                      (have HBP : Hid (Below wc.heap.size wc w2) := Lib.hid (((Below.refl _ _).drew).trans hb2))
                      (have r0 : w2.cell? ⟨G, 0, none⟩ = some (.slice (some ⟨gv, ov, none⟩) 5 cv) := (View.cell_below HBP.out HGX.out).trans b0)
                      (have r1 : w2.cell? ⟨G, 1, none⟩ = some (.slice (some ⟨g, o, none⟩) 5 c) := (View.cell_below HBP.out HGX.out).trans b1)
                      clear hb2))
              | (go_at_call 18
                 first
                   | (refine (HR.out _ HBP.out).mono ?_
                      rintro e w3 ⟨rfl, hb3⟩
                      (have HBE : Hid (Below wc.heap.size wc w3) := Lib.hid (HBP.out.trans (hb3.mono HBP.out.size)))
                      (have u0 : w3.cell? ⟨G, 0, none⟩ = some (.slice (some ⟨gv, ov, none⟩) 5 cv) := (View.cell_below HBE.out HGX.out).trans b0)
                      (have u1 : w3.cell? ⟨G, 1, none⟩ = some (.slice (some ⟨g, o, none⟩) 5 c) := (View.cell_below HBE.out HGX.out).trans b1)
                      clear hb3)
                   | (refine (HR.out _ ((Below.refl _ _).drew)).mono ?_
                      rintro e w2 ⟨rfl, hb2⟩
                      (have HBR : Hid (Below wc.heap.size wc w2) := Lib.hid (((Below.refl _ _).drew).trans hb2))
                      (have s0 : w2.cell? ⟨G, 0, none⟩ = some (.slice (some ⟨gv, ov, none⟩) 5 cv) := (View.cell_below HBR.out HGX.out).trans b0)
                      (have s1 : w2.cell? ⟨G, 1, none⟩ = some (.slice (some ⟨g, o, none⟩) 5 c) := (View.cell_below HBR.out HGX.out).trans b1)
                      clear hb2)))
          all_goals
            go_wp2_with fail
            go_ret
            exact ⟨by simp, BX.out.trans (HBE.out.mono BX.out.size)⟩

theorem own : ownKnob Try.prog.godebug = none := by kernel_rfl
theorem laidOut : laidOutB Try.prog = true := by kernel_rfl

set_option maxRecDepth 100000 in
theorem lifted (os : Os) (started : os.Started) (H : Type) (enc : TypeId × Value → H) :
    ReturnsInHanded {} Try.checked os 4 .any (Rows.paceLivesSpec.pre6 enc Try.prog Try.f4 Rows.paceLivesRow.domain false) (Rows.paceLivesSpec.post enc Try.prog Try.f4 false true false false) := by
  refine Base.law_lifted (C := Try.checked) own started (by kernel_rfl) Try.func4 laidOut (by kernel_rfl) rfl Try.underlying4 rfl ?_
    (ChangeSpec.witness6 (enc := enc) (C := Try.checked) false ⟨#[], #[.slice none 0 0, .slice none 0 0, .slice none 0 0], []⟩ 8 (by kernel_rfl) (by kernel_rfl) (by kernel_rfl) (by kernel_rfl)) ?_
  · intro ds h
    match ds, h with
    | [_d0, _d1, _d2], _ => exact ⟨rfl, rfl, rfl⟩
  · intro W base args ds before hval0 hA0 hlt hsz
    have hval : ∀ (j : Nat) t v, Try.f4.params[j]? = some t → args[j]? = some v → Value.okWide Try.prog W .any base t v := hval0
    have hA : DataW.TrodAll enc Try.prog W 0 (fun _ => true) true Try.f4.params.toList args.toList ds before := hA0
    clear hval0 hA0
    rw [Try.params4] at hA hval hsz
    obtain ⟨v0, vs0, d0, ds0, p0, q0, hargs, rfl, rfl, h0, r0⟩ := trodAll_cons hA
    obtain ⟨v1, vs1, d1, ds1, p1, q1, rfl, rfl, rfl, h1, r1⟩ := trodAll_cons r0
    obtain ⟨v2, vs2, d2, ds2, p2, q2, rfl, rfl, rfl, h2, r2⟩ := trodAll_cons r1
    obtain ⟨rfl, rfl, rfl⟩ := trodAll_nil r2
    obtain rfl : args = #[v0, v1, v2] := by cases args; simp_all
    obtain ⟨a0, w0⟩ := Base.open_int_slice Try.underlying22 Try.underlying3 (by kernel_rfl) (by kernel_rfl) (hval 0 22 v0 rfl rfl) h0 (fun x hx => hlt x (by simp [hx])) (Base.sized_at hsz (j := 0) rfl rfl)
    obtain ⟨x1, w1⟩ := Base.open_shape (s := (.slice .bool)) (by kernel_rfl) (hval 1 42 v1 rfl rfl) h1 (fun x hx => hlt x (by simp [hx])) hsz (j := 1) rfl rfl
    obtain ⟨x2, w2⟩ := Base.open_shape (s := (.slice (.struct [(.int .i64), .bool]))) (by kernel_rfl) (hval 2 23 v2 rfl rfl) h2 (fun x hx => hlt x (by simp [hx])) hsz (j := 2) rfl rfl
    exact walk W v0 a0 w0 v1 x1 w1 v2 x2 w2

theorem over : Rows.paceLivesRow.holds Try.pinned (OpenSpec.ofChange Rows.paceLivesSpec) :=
  OpenClaim.holds_of_wide 4 Try.f4 rfl rfl rfl rfl rfl rfl rfl ⟨rfl, rfl, rfl, rfl, rfl⟩ rfl rfl rfl rfl rfl (by kernel_rfl) Try.func4 (by kernel_rfl)
    (of_decide_eq_true (by kernel_rfl)) (by unfold Func.isWrapper; first | (rw [if_pos (by decide +kernel)]; kernel_rfl) | (rw [if_neg (by decide +kernel)]; exact ⟨rfl, rfl⟩))
    (fun os started H enc _ => lifted os started H enc)

theorem proved : Rows.PaceLivesSaid :=
  over
#print axioms proved
end Go.Proofs.Ytlfjndjbfbejkaa.paceLives
