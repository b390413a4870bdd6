/-
  The pace: what its laws call: a config of ticks, and whether a pace is the document's.
-/
import Derived.Test.YtlfjndjbfbejkaaPace7
import Derived.Deep.RegionHeld3
import Derived.Deep.RegionWith
namespace Go.Proofs.Ytlfjndjbfbejkaa.Pace
open Go.RowKit View Bank AppAt

theorem cfg_info : (Try.prog.info? 31).map (·.size) = some 5 := by kernel_rfl
set_option maxRecDepth 100000 in
set_option maxHeartbeats 4000000 in
theorem own_any (X : Nat → Prop) (v : Value) (k0 k1 k2 k3 k4 : Nat) (w : World) (h : Five w X v [k0, k1, k2, k3, k4]) :
    Calls Try.prog 10 #[v] w fun e w' => e = .returned (aggK k0 k1 k2 k3 k4) ∧ Below w.heap.size w w' := by
  obtain ⟨g, o, c, rfl, _, hr⟩ := h
  unfold aggK
  have hcell : ∀ i, i < 5 → (w.alloc (.cells #[.int .i64 0, .int .i64 0, .int .i64 0, .int .i64 0, .int .i64 0] 31)).cell? ⟨g, o + i, none⟩ = some (.int .i64 ((([k0, k1, k2, k3, k4] : List Nat).getD i 0 : Nat) : Int)) := fun i hi => by
    obtain ⟨b, off, e, _, hc⟩ := (hr.alloc (.cells #[.int .i64 0, .int .i64 0, .int .i64 0, .int .i64 0, .int .i64 0] 31)).at_ hi
    cases e
    rw [encZ_get] at hc
    exact hc
  have c0 := hcell 0 (by decide)
  have c1 := hcell 1 (by decide)
  have c2 := hcell 2 (by decide)
  have c3 := hcell 3 (by decide)
  have c4 := hcell 4 (by decide)
  simp only [List.getD_cons_zero, List.getD_cons_succ, Nat.add_zero] at c0 c1 c2 c3 c4
  clear hcell hr
  go_enter Try.func10, Try.ntmps10
  go_wp2_with fail
  have hz := heap_alloc_new w (.cells #[.int .i64 0, .int .i64 0, .int .i64 0, .int .i64 0, .int .i64 0] 31)
  have HB : Hid (Below w.heap.size w (w.alloc (.cells #[.int .i64 0, .int .i64 0, .int .i64 0, .int .i64 0, .int .i64 0] 31))) := Lib.hid ((Below.refl _ w).alloc (Nat.le_refl _) _)
  generalize w.alloc (.cells #[.int .i64 0, .int .i64 0, .int .i64 0, .int .i64 0, .int .i64 0] 31) = W at *
  go_still_tail 16, (by kernel_rfl)
  change wpList _ _ _ _ _ W.drew
  have hz2 : W.drew.heap[w.heap.size]? = _ := hz
  clear hz
  go_wp2_with (refine wpList_store_row rfl 31 _ _ rfl w.heap.size #[.int .i64 (k0 : Int), .int .i64 (k1 : Int), .int .i64 (k2 : Int), .int .i64 (k3 : Int), .int .i64 (k4 : Int)] rfl rfl 31 _ hz2 cfg_info rfl (by simp [Value.oneCell']) ?_)
  refine bodyPost_ret (results_cell_row rfl _ _ w.heap.size 31 _ (0, 0) _ rfl (setRow_heap _ _ _ _ 31 (0, 0) hz2) Try.underlying31 rfl cfg_info) rfl ?_
  exact ⟨rfl, below_setRow (View.below_drewN HB.out 1) (Nat.le_refl _) _⟩
set_option maxRecDepth 100000 in
set_option maxHeartbeats 4000000 in
theorem is_any (X : Nat → Prop) (B : Nat) (K L : List Nat) (vT vL : Value) (w : World) (h : At w B K L) (hT : Five w X vT K) (hL : Five w X vL L) :
    Calls Try.prog 13 #[.pointer (some ⟨B, 0, none⟩), .agg #[vT, vL]] w fun e w' => e = .returned (.bool true) ∧ Below w.heap.size w w' := by
  have HT := Lib.hid hT
  have HL := Lib.hid hL
  obtain ⟨gT, oT, cT, rfl, _, _⟩ := hT
  obtain ⟨gL, oL, cL, rfl, _, hrL⟩ := hL
  obtain ⟨W, hW⟩ : ∃ W, W = w.alloc (.cells #[.slice (some ⟨gT, oT, none⟩) 5 cT, .slice (some ⟨gL, oL, none⟩) 5 cL] 34) := ⟨_, rfl⟩
  have HB : Hid (Below w.heap.size w W) := Lib.hid (by rw [hW]; exact (Below.refl _ w).alloc (Nat.le_refl _) _)
  have hbx : W.heap[w.heap.size]? = some (.cells #[.slice (some ⟨gT, oT, none⟩) 5 cT, .slice (some ⟨gL, oL, none⟩) 5 cL] 34 (0, 0)) := by rw [hW]; exact heap_alloc_new w _
  have HAT := Lib.hid (h.below HB.out)
  have HT2 := Lib.hid (HT.out.below HB.out)
  have HL2 := Lib.hid (HL.out.below HB.out)
  have HRL := Lib.hid (hrL.below HB.out)
  have b0 : W.cell? ⟨w.heap.size, 0, none⟩ = some (.slice (some ⟨gT, oT, none⟩) 5 cT) := (cell_of_row _ _ _ _ _ _ hbx).trans rfl
  have b1 : W.cell? ⟨w.heap.size, 1, none⟩ = some (.slice (some ⟨gL, oL, none⟩) 5 cL) := (cell_of_row _ _ _ _ _ _ hbx).trans rfl
  have HSZ : Hid (w.heap.size < W.heap.size) := Lib.hid (by rw [hW]; simp)
  clear h HT HL hrL hbx
  go_enter Try.func13, Try.ntmps13
  go_wp2_with fail
  rw [← hW]
  clear hW
  go_loopw [10] (fun s10 wr => ∃ k : Nat, k ≤ 5 ∧ s10 = .int .i64 (k : Int) ∧ wr = W) (fun s10 _ => 5 - (intOf s10).toNat)
  case atStart => exact ⟨0, Nat.zero_le _, rfl, rfl⟩
  case round =>
    obtain ⟨k, hk, rfl, hwr⟩ := hrel
    subst hwr
    by_cases hlt : k < 5
    · obtain ⟨b, off, e, _, hc⟩ := HRL.out.at_ hlt
      cases e
      rw [encZ_get] at hc
      obtain ⟨x, hx⟩ : ∃ x, L.getD k 0 = x := ⟨_, rfl⟩
      rw [hx] at hc
      have HX := Lib.hid hx
      have HK := Lib.hid hlt
      have hk5 : (k : Int) < 5 := by omega
      have hne : ((x : Int) != (x : Int)) = false := by simp
      have hbb : (decide (0 < x) != decide (0 < x)) = false := by simp
      clear hx hlt hk
      go_wp2_with fail
      refine (left_at B K L _ (k : Int) k rfl HK.out HAT.out).mono ?_; rintro e w' ⟨rfl, rfl⟩
      rw [HX.out]
      go_wp2_with fail
      refine (runs_at B K L _ (k : Int) k rfl HK.out HAT.out).mono ?_; rintro e w' ⟨rfl, rfl⟩
      rw [HX.out]
      go_wp2_with fail
      go_roundw
      case rel => exact ⟨k + 1, HK.out, by go_num, trivial⟩
      case measure => simp [intOf]; have := HK.out; omega
    · obtain rfl : k = 5 := by omega
      clear hk hlt
      obtain ⟨sb, hsb⟩ : ∃ b, safeL L = b := ⟨_, rfl⟩
      have HP : Hid (∀ W', Below wr.heap.size wr W' → Calls Try.prog 16 #[.pointer (some ⟨B, 0, none⟩)] W' fun e w2 => e = .returned (.bool sb) ∧ Below W'.heap.size W' w2) := Lib.hid (fun W' hW' =>
        (safe_any B K L W' (HAT.out.below hW')).mono fun e w2 ⟨he, q, hq⟩ => ⟨by rw [he, hsb], by rw [hq]; exact View.below_drewN (Below.refl _ _) q⟩)
      have HR : Hid (∀ W', Below wr.heap.size wr W' → Calls Try.prog 18 #[.agg #[.slice (some ⟨gT, oT, none⟩) 5 cT, .slice (some ⟨gL, oL, none⟩) 5 cL]] W' fun e w2 => e = .returned (.bool sb) ∧ Below W'.heap.size W' w2) := Lib.hid (fun W' hW' =>
        (rsafe_any X K L _ _ W' (HL2.out.below hW') (HT2.out.below hW')).mono fun e w2 ⟨he, h2⟩ => ⟨by rw [he, hsb], h2⟩)
      clear hsb
      go_wp2_with fail
      go_region_held3 (fun w' => w'.cell? ⟨w.heap.size, 0, none⟩ = some (.slice (some ⟨gT, oT, none⟩) 5 cT) ∧ w'.cell? ⟨w.heap.size, 1, none⟩ = some (.slice (some ⟨gL, oL, none⟩) 5 cL))
        (first | (with_reducible assumption) | exact ⟨b0, b1⟩ | exact ⟨r0, r1⟩ | exact ⟨s0, s1⟩ | exact ⟨t0, t1⟩ | exact ⟨u0, u1⟩ | go_keep)
        (first
          | (go_at_call 16
             first
               | (refine (HP.out _ HBR.out).mono ?_
                  rintro e w3 ⟨rfl, hb3⟩
                  (have HBE : Hid (Below wr.heap.size wr w3) := Lib.hid (HBR.out.trans (hb3.mono HBR.out.size)))
                  (have t0 : w3.cell? ⟨w.heap.size, 0, none⟩ = some (.slice (some ⟨gT, oT, none⟩) 5 cT) := (View.cell_below HBE.out HSZ.out).trans b0)
                  (have t1 : w3.cell? ⟨w.heap.size, 1, none⟩ = some (.slice (some ⟨gL, oL, none⟩) 5 cL) := (View.cell_below HBE.out HSZ.out).trans b1)
                  clear hb3)
               | (refine (HP.out _ ((Below.refl _ _).drew)).mono ?_
                  rintro e w2 ⟨rfl, hb2⟩
                  (have HBP : Hid (Below wr.heap.size wr w2) := Lib.hid (((Below.refl _ _).drew).trans hb2))
                  (have r0 : w2.cell? ⟨w.heap.size, 0, none⟩ = some (.slice (some ⟨gT, oT, none⟩) 5 cT) := (View.cell_below HBP.out HSZ.out).trans b0)
                  (have r1 : w2.cell? ⟨w.heap.size, 1, none⟩ = some (.slice (some ⟨gL, oL, none⟩) 5 cL) := (View.cell_below HBP.out HSZ.out).trans b1)
                  clear hb2))
          | (go_at_call 18
             first
               | (refine (HR.out _ HBP.out).mono ?_
                  rintro e w3 ⟨rfl, hb3⟩
                  (have HBE : Hid (Below wr.heap.size wr w3) := Lib.hid (HBP.out.trans (hb3.mono HBP.out.size)))
                  (have u0 : w3.cell? ⟨w.heap.size, 0, none⟩ = some (.slice (some ⟨gT, oT, none⟩) 5 cT) := (View.cell_below HBE.out HSZ.out).trans b0)
                  (have u1 : w3.cell? ⟨w.heap.size, 1, none⟩ = some (.slice (some ⟨gL, oL, none⟩) 5 cL) := (View.cell_below HBE.out HSZ.out).trans b1)
                  clear hb3)
               | (refine (HR.out _ ((Below.refl _ _).drew)).mono ?_
                  rintro e w2 ⟨rfl, hb2⟩
                  (have HBR : Hid (Below wr.heap.size wr w2) := Lib.hid (((Below.refl _ _).drew).trans hb2))
                  (have s0 : w2.cell? ⟨w.heap.size, 0, none⟩ = some (.slice (some ⟨gT, oT, none⟩) 5 cT) := (View.cell_below HBR.out HSZ.out).trans b0)
                  (have s1 : w2.cell? ⟨w.heap.size, 1, none⟩ = some (.slice (some ⟨gL, oL, none⟩) 5 cL) := (View.cell_below HBR.out HSZ.out).trans b1)
                  clear hb2)))
      all_goals
        go_wp2_with fail
        go_ret
        exact ⟨by simp, HB.out.trans (HBE.out.mono HB.out.size)⟩
end Go.Proofs.Ytlfjndjbfbejkaa.Pace
