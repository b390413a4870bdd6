/-
  A connection: what begins, what ends.
-/
import Derived.Test.YtkphompjahcjiaaDoorConn4
import Derived.Deep.RegionHeld3
import Derived.BigQuiet
import Derived.Deep.DeepCutAuto
import Derived.Test.YtkphompjahcjiaaDoorQuietTail
import Derived.StillTailTactics
namespace Go.Proofs.YtkphompjahcjiaaDoor.Conn
open Go.RowKit

section
variable (X : Nat → Prop) (w0 w : World) (g m : Nat) (c : C) (o : O)
set_option maxRecDepth 100000 in
set_option maxHeartbeats 4000000 in
theorem ask_any (h : Make X w0 w g m c o) (hl : Few o 990) :
    Calls Tryd.prog 48 #[.pointer (some ⟨m, 0, none⟩)] w fun e w' => (∃ v, e = .returned v) ∧ Make X w0 w' g m (c) (askO c o) := by
  have p0_ := h.p0
  have c2_ := h.c2
  have c3_ := h.c3
  have c7_ := h.c7
  have H := Lib.hid h
  have HL := Lib.hid hl
  clear h hl
  go_enter Tryd.func48, Tryd.ntmps48
  go_upto_region 0 with (fail)
  go_cut [2] (fun s2 wx => s2 = .pointer (some ⟨w.heap.size, 0, none⟩) ∧ wx = (w.alloc (.cells #[.int .i64 (asksK c.state), .int .i64 c.sq, .int .u32 0, .int .u32 0, .int .u32 0, .slice none 0 0, .bool false, .string c.data] 74)).drew)
  case first =>
    go_region_held3 (fun w' => w'.cell? ⟨m, 0, none⟩ = some (.pointer (some ⟨g, 0, none⟩)) ∧ w'.cell? ⟨g, 2, none⟩ = some (.int .i64 c.state) ∧ w'.cell? ⟨g, 3, none⟩ = some (.int .i64 c.sq) ∧ w'.cell? ⟨g, 7, none⟩ = some (.string c.data))
      (first | (with_reducible assumption) | exact ⟨p0_, c2_, c3_, c7_⟩ | go_keep)
      (first
        | (go_at_call 46
           refine (asks_any _ _).mono ?_
           rintro e w' ⟨rfl, rfl⟩))
    all_goals go_wp2_with fail
    all_goals go_meet
    all_goals exact ⟨rfl, rfl⟩
  case rest =>
  obtain ⟨rfl, hwc⟩ := hcut
  have hblk : wc.heap[w.heap.size]? = some (.cells #[.int .i64 (asksK c.state), .int .i64 c.sq, .int .u32 0, .int .u32 0, .int .u32 0, .slice none 0 0, .bool false, .string c.data] 74 (0, 0)) := by rw [hwc]; exact heap_alloc_new w _
  have H1 : Hid (Make X w0 wc g m c o) := Lib.hid (by rw [hwc]; exact (H.out.alloc _).drewN 1)
  have HGT : Hid (m ≠ w.heap.size) := Lib.hid (by have := H.out.mlt; omega)
  have HBW : Hid (Below w.heap.size w wc) := Lib.hid (by rw [hwc]; exact ((Below.refl _ w).alloc (Nat.le_refl _) _).drew)
  clear hwc p0_ c2_ c3_ c7_
  obtain ⟨q, hq⟩ : ∃ q, w.heap.size = q := ⟨_, rfl⟩
  rw [hq] at hblk ⊢
  have HQ := Lib.hid hq
  clear hq
  have k0 := cell_of_row _ _ 0 _ _ _ hblk
  have k1 := cell_of_row _ _ 1 _ _ _ hblk
  have k2 := cell_of_row _ _ 2 _ _ _ hblk
  have k3 := cell_of_row _ _ 3 _ _ _ hblk
  have k4 := cell_of_row _ _ 4 _ _ _ hblk
  have k5 := cell_of_row _ _ 5 _ _ _ hblk
  have k6 := cell_of_row _ _ 6 _ _ _ hblk
  have k7 := cell_of_row _ _ 7 _ _ _ hblk
  have z2 : wc.frozen? ⟨q, 2, none⟩ = false := frozen_of_row _ _ _ _ _ hblk
  simp only [List.getElem?_toArray, List.getElem?_cons_zero, List.getElem?_cons_succ] at k0 k1 k2 k3 k4 k5 k6 k7
  clear hblk
  go_wp2_with fail
  refine (grant_any X w0 _ g m c o _ H1.out).mono ?_; rintro e w1 ⟨rfl, rfl⟩
  have H2 : Hid (Make X w0 (w1.setCell ⟨q, 2, none⟩ (.int .u32 (grantC c (asksK c.state)))) g m c o) := Lib.hid (H.out.below (HBW.out.setCell (p := ⟨q, 2, none⟩) (by have := HQ.out; show w.heap.size ≤ q; omega) _))
  go_wp2_with fail
  refine (put_any X w0 _ g m c o ⟨asksK c.state, c.sq, grantC c (asksK c.state), false, c.data⟩ H2.out (by have := HL.out.2; omega)).mono ?_; rintro e w3 ⟨⟨v3, rfl⟩, h3⟩
  have H3 := Lib.hid h3
  clear h3 k0 k1 k2 k3 k4 k5 k6 k7 z2 H2
  have p6_ := H3.out.p6
  have y6_ := H3.out.mfree 6
  have HF := Lib.hid (H3.out.setO 6 (.int .i64 1) (askO c o) rfl rfl (fun _ _ => rfl))
  go_wp2_with fail
  (try simp only [Exit.inBlock, Exit.then])
  refine bodyPost_end (results_none rfl _ _ _) rfl ?_
  exact ⟨⟨_, rfl⟩, HF.out⟩
end
end Go.Proofs.YtkphompjahcjiaaDoor.Conn
