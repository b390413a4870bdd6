/-
  A connection: what it hears of beginnings.
-/
import Derived.Test.YtkphompjahcjiaaDoorConn8
namespace Go.Proofs.YtkphompjahcjiaaDoor.Conn
open Go.RowKit

def hearOldO (c : C) (o : O) (p : P) : O :=
  if p.kind = 1 ∧ c.state = 1 then sendO c o 7 p.sq else if p.kind = 1 ∧ (5 ≤ c.state ∧ c.state ≤ 10) then sendO c o 2 p.sq
  else if p.kind = 5 ∧ (7 ≤ c.state ∧ c.state ≤ 10) then sendO c o 6 p.sq else if p.kind = 9 ∧ (c.state = 8 ∨ c.state = 10) then sendO c o 15 p.sq else o
def hearRSC (c : C) : C := if c.state = 5 then toC c 10 else if 7 ≤ c.state ∧ c.state ≤ 10 then toC c 6 else c
def hearRSO (c : C) (o : O) (p : P) : O :=
  if c.state = 5 then readyO c (tellO (sendO c o 6 p.sq) ⟨6, noD, false, 0, 0⟩) else if 7 ≤ c.state ∧ c.state ≤ 10 then stopO (tellO o ⟨5, p.data, false, 0, 0⟩) else o

section
variable (X : Nat → Prop) (w0 w : World) (g m : Nat) (c : C) (o : O) (p : P)
set_option maxRecDepth 100000 in
set_option maxHeartbeats 4000000 in
theorem hearOld_any (h : Make X w0 w g m c o) (hl : Few o 900) :
    Calls Tryd.prog 83 #[.pointer (some ⟨m, 0, none⟩), .agg (encP p)] w fun e w' => (∃ v, e = .returned v) ∧ Make X w0 w' g m (c) (hearOldO c o p) := by
  obtain ⟨W, hW⟩ : ∃ W, W = w.alloc (.cells (encP p) 74) := ⟨_, rfl⟩
  obtain ⟨q, hq⟩ : ∃ q, q = w.heap.size := ⟨_, rfl⟩
  have HBW : Hid (Below w.heap.size w W) := Lib.hid (by rw [hW]; exact (Below.refl _ _).alloc (Nat.le_refl _) _)
  have H := Lib.hid h
  have HL := Lib.hid hl
  have H0 : Hid (Make (Plus X q) W W g m c o) := Lib.hid (by rw [hW, hq]; exact h.held _)
  have HGQ : Hid (q ≠ g) := Lib.hid (by rw [hq]; have := h.glt; omega)
  have HBX : Hid (W.heap[q]? = some (.cells (encP p) 74 (0, 0))) := Lib.hid (by rw [hW, hq]; exact heap_alloc_new w _)
  clear h hl
  by_cases k1 : p.kind = 1
  · by_cases s1 : c.state = 1
    · have hO : hearOldO c o p = sendO c o 7 p.sq := by unfold hearOldO; rw [if_pos (by omega)]
      rw [hO]
      clear hO
      have kk1 : (p.kind == 1) = true := by simp; omega
      have kk5 : (p.kind == 5) = false := by simp; omega
      have kk9 : (p.kind == 9) = false := by simp; omega
      have ss1 : (c.state == 1) = true := by simp; omega
      clear k1 s1
      have k0_ : W.cell? ⟨q, 0, none⟩ = some (.int .i64 p.kind) := (cell_of_row _ _ _ _ _ _ HBX.out).trans rfl
      have k1_ : W.cell? ⟨q, 1, none⟩ = some (.int .i64 p.sq) := (cell_of_row _ _ _ _ _ _ HBX.out).trans rfl
      have k2_ : W.cell? ⟨q, 2, none⟩ = some (.int .u32 p.n) := (cell_of_row _ _ _ _ _ _ HBX.out).trans rfl
      have k6_ : W.cell? ⟨q, 6, none⟩ = some (.bool p.self) := (cell_of_row _ _ _ _ _ _ HBX.out).trans rfl
      have k7_ : W.cell? ⟨q, 7, none⟩ = some (.string p.data) := (cell_of_row _ _ _ _ _ _ HBX.out).trans rfl
      have p0_ := H0.out.p0
      have c2_ := H0.out.c2
      have z2_ := H0.out.free 2
      rw [hW, hq] at k0_ k1_ k2_ k6_ k7_
      rw [hW] at p0_ c2_ z2_
      simp only [encP] at k0_ k1_ k2_ k6_ k7_ p0_ c2_ z2_
      show Calls Tryd.prog _ #[_, .agg #[.int .i64 p.kind, .int .i64 p.sq, .int .u32 p.n, .int .u32 p.ps, .int .u32 p.mr, .slice p.la p.ln p.lc, .bool p.self, .string p.data]] _ _
      go_enter Tryd.func83, Tryd.ntmps83
      go_wp2_with fail
      show Calls Tryd.prog _ _ (w.alloc (.cells (encP p) 74)) _
      rw [← hW, ← hq]
      clear hW hq
      clear k0_ k1_ k2_ k6_ k7_ p0_ c2_ z2_
      refine (send_any (Plus X q) W W g m c o 7 p.sq H0.out (HL.out.more (by decide))).mono ?_; rintro e w1 ⟨⟨v1, rfl⟩, h1⟩
      have H1 := Lib.hid h1
      clear h1
      have hbx := H1.out.boxed HBX.out HGQ.out
      have k0_ : w1.cell? ⟨q, 0, none⟩ = some (.int .i64 p.kind) := (cell_of_row _ _ _ _ _ _ hbx).trans rfl
      have k1_ : w1.cell? ⟨q, 1, none⟩ = some (.int .i64 p.sq) := (cell_of_row _ _ _ _ _ _ hbx).trans rfl
      have k2_ : w1.cell? ⟨q, 2, none⟩ = some (.int .u32 p.n) := (cell_of_row _ _ _ _ _ _ hbx).trans rfl
      have k6_ : w1.cell? ⟨q, 6, none⟩ = some (.bool p.self) := (cell_of_row _ _ _ _ _ _ hbx).trans rfl
      have k7_ : w1.cell? ⟨q, 7, none⟩ = some (.string p.data) := (cell_of_row _ _ _ _ _ _ hbx).trans rfl
      clear hbx
      have p0_ := H1.out.p0
      have c2_ := H1.out.c2
      have z2_ := H1.out.free 2
      go_wp2_with fail
      (try simp only [Exit.inBlock, Exit.then])
      first
        | refine bodyPost_end (results_none rfl _ _ _) rfl ?_
        | refine bodyPost_ret (results_none rfl _ _ _) rfl ?_
      exact ⟨⟨_, rfl⟩, H.out.back HBW.out H1.out⟩
    · by_cases s5 : 5 ≤ c.state ∧ c.state ≤ 10
      · have hO : hearOldO c o p = sendO c o 2 p.sq := by unfold hearOldO; rw [if_neg (by omega), if_pos (by omega)]
        rw [hO]
        clear hO
        have kk1 : (p.kind == 1) = true := by simp; omega
        have kk5 : (p.kind == 5) = false := by simp; omega
        have kk9 : (p.kind == 9) = false := by simp; omega
        have ss1 : (c.state == 1) = false := by simp; omega
        have hw : decide (5 ≤ c.state ∧ c.state ≤ 10) = true := decide_eq_true (by omega)
        clear k1 s1 s5
        have k0_ : W.cell? ⟨q, 0, none⟩ = some (.int .i64 p.kind) := (cell_of_row _ _ _ _ _ _ HBX.out).trans rfl
        have k1_ : W.cell? ⟨q, 1, none⟩ = some (.int .i64 p.sq) := (cell_of_row _ _ _ _ _ _ HBX.out).trans rfl
        have k2_ : W.cell? ⟨q, 2, none⟩ = some (.int .u32 p.n) := (cell_of_row _ _ _ _ _ _ HBX.out).trans rfl
        have k6_ : W.cell? ⟨q, 6, none⟩ = some (.bool p.self) := (cell_of_row _ _ _ _ _ _ HBX.out).trans rfl
        have k7_ : W.cell? ⟨q, 7, none⟩ = some (.string p.data) := (cell_of_row _ _ _ _ _ _ HBX.out).trans rfl
        have p0_ := H0.out.p0
        have c2_ := H0.out.c2
        have z2_ := H0.out.free 2
        rw [hW, hq] at k0_ k1_ k2_ k6_ k7_
        rw [hW] at p0_ c2_ z2_
        simp only [encP] at k0_ k1_ k2_ k6_ k7_ p0_ c2_ z2_
        show Calls Tryd.prog _ #[_, .agg #[.int .i64 p.kind, .int .i64 p.sq, .int .u32 p.n, .int .u32 p.ps, .int .u32 p.mr, .slice p.la p.ln p.lc, .bool p.self, .string p.data]] _ _
        go_enter Tryd.func83, Tryd.ntmps83
        go_wp2_with fail
        show Calls Tryd.prog _ _ (w.alloc (.cells (encP p) 74)) _
        rw [← hW, ← hq]
        clear hW hq
        clear k0_ k1_ k2_ k6_ k7_ p0_ c2_ z2_
        have k0_ : W.cell? ⟨q, 0, none⟩ = some (.int .i64 p.kind) := (cell_of_row _ _ _ _ _ _ HBX.out).trans rfl
        have k1_ : W.cell? ⟨q, 1, none⟩ = some (.int .i64 p.sq) := (cell_of_row _ _ _ _ _ _ HBX.out).trans rfl
        have k2_ : W.cell? ⟨q, 2, none⟩ = some (.int .u32 p.n) := (cell_of_row _ _ _ _ _ _ HBX.out).trans rfl
        have k6_ : W.cell? ⟨q, 6, none⟩ = some (.bool p.self) := (cell_of_row _ _ _ _ _ _ HBX.out).trans rfl
        have k7_ : W.cell? ⟨q, 7, none⟩ = some (.string p.data) := (cell_of_row _ _ _ _ _ _ HBX.out).trans rfl
        have p0_ := H0.out.p0
        have c2_ := H0.out.c2
        have z2_ := H0.out.free 2
        refine (within_any (Plus X q) W W g m c _ 5 10 H0.out).mono ?_; rintro e w' ⟨rfl, hww⟩
        obtain rfl : W = w' := hww.symm
        rw [hw]
        go_wp2_with fail
        clear k0_ k1_ k2_ k6_ k7_ p0_ c2_ z2_
        refine (send_any (Plus X q) W W g m c o 2 p.sq H0.out (HL.out.more (by decide))).mono ?_; rintro e w1 ⟨⟨v1, rfl⟩, h1⟩
        have H1 := Lib.hid h1
        clear h1
        have hbx := H1.out.boxed HBX.out HGQ.out
        have k0_ : w1.cell? ⟨q, 0, none⟩ = some (.int .i64 p.kind) := (cell_of_row _ _ _ _ _ _ hbx).trans rfl
        have k1_ : w1.cell? ⟨q, 1, none⟩ = some (.int .i64 p.sq) := (cell_of_row _ _ _ _ _ _ hbx).trans rfl
        have k2_ : w1.cell? ⟨q, 2, none⟩ = some (.int .u32 p.n) := (cell_of_row _ _ _ _ _ _ hbx).trans rfl
        have k6_ : w1.cell? ⟨q, 6, none⟩ = some (.bool p.self) := (cell_of_row _ _ _ _ _ _ hbx).trans rfl
        have k7_ : w1.cell? ⟨q, 7, none⟩ = some (.string p.data) := (cell_of_row _ _ _ _ _ _ hbx).trans rfl
        clear hbx
        have p0_ := H1.out.p0
        have c2_ := H1.out.c2
        have z2_ := H1.out.free 2
        go_wp2_with fail
        (try simp only [Exit.inBlock, Exit.then])
        first
          | refine bodyPost_end (results_none rfl _ _ _) rfl ?_
          | refine bodyPost_ret (results_none rfl _ _ _) rfl ?_
        exact ⟨⟨_, rfl⟩, H.out.back HBW.out H1.out⟩
      · have hO : hearOldO c o p = o := by unfold hearOldO; rw [if_neg (by omega), if_neg (by omega), if_neg (by omega), if_neg (by omega)]
        rw [hO]
        clear hO
        have kk1 : (p.kind == 1) = true := by simp; omega
        have kk5 : (p.kind == 5) = false := by simp; omega
        have kk9 : (p.kind == 9) = false := by simp; omega
        have ss1 : (c.state == 1) = false := by simp; omega
        have hw : decide (5 ≤ c.state ∧ c.state ≤ 10) = false := decide_eq_false (by omega)
        clear k1 s1 s5
        have k0_ : W.cell? ⟨q, 0, none⟩ = some (.int .i64 p.kind) := (cell_of_row _ _ _ _ _ _ HBX.out).trans rfl
        have k1_ : W.cell? ⟨q, 1, none⟩ = some (.int .i64 p.sq) := (cell_of_row _ _ _ _ _ _ HBX.out).trans rfl
        have k2_ : W.cell? ⟨q, 2, none⟩ = some (.int .u32 p.n) := (cell_of_row _ _ _ _ _ _ HBX.out).trans rfl
        have k6_ : W.cell? ⟨q, 6, none⟩ = some (.bool p.self) := (cell_of_row _ _ _ _ _ _ HBX.out).trans rfl
        have k7_ : W.cell? ⟨q, 7, none⟩ = some (.string p.data) := (cell_of_row _ _ _ _ _ _ HBX.out).trans rfl
        have p0_ := H0.out.p0
        have c2_ := H0.out.c2
        have z2_ := H0.out.free 2
        rw [hW, hq] at k0_ k1_ k2_ k6_ k7_
        rw [hW] at p0_ c2_ z2_
        simp only [encP] at k0_ k1_ k2_ k6_ k7_ p0_ c2_ z2_
        show Calls Tryd.prog _ #[_, .agg #[.int .i64 p.kind, .int .i64 p.sq, .int .u32 p.n, .int .u32 p.ps, .int .u32 p.mr, .slice p.la p.ln p.lc, .bool p.self, .string p.data]] _ _
        go_enter Tryd.func83, Tryd.ntmps83
        go_wp2_with fail
        show Calls Tryd.prog _ _ (w.alloc (.cells (encP p) 74)) _
        rw [← hW, ← hq]
        clear hW hq
        clear k0_ k1_ k2_ k6_ k7_ p0_ c2_ z2_
        have k0_ : W.cell? ⟨q, 0, none⟩ = some (.int .i64 p.kind) := (cell_of_row _ _ _ _ _ _ HBX.out).trans rfl
        have k1_ : W.cell? ⟨q, 1, none⟩ = some (.int .i64 p.sq) := (cell_of_row _ _ _ _ _ _ HBX.out).trans rfl
        have k2_ : W.cell? ⟨q, 2, none⟩ = some (.int .u32 p.n) := (cell_of_row _ _ _ _ _ _ HBX.out).trans rfl
        have k6_ : W.cell? ⟨q, 6, none⟩ = some (.bool p.self) := (cell_of_row _ _ _ _ _ _ HBX.out).trans rfl
        have k7_ : W.cell? ⟨q, 7, none⟩ = some (.string p.data) := (cell_of_row _ _ _ _ _ _ HBX.out).trans rfl
        have p0_ := H0.out.p0
        have c2_ := H0.out.c2
        have z2_ := H0.out.free 2
        refine (within_any (Plus X q) W W g m c _ 5 10 H0.out).mono ?_; rintro e w' ⟨rfl, hww⟩
        obtain rfl : W = w' := hww.symm
        rw [hw]
        go_wp2_with fail
        (try simp only [Exit.inBlock, Exit.then])
        first
          | refine bodyPost_end (results_none rfl _ _ _) rfl ?_
          | refine bodyPost_ret (results_none rfl _ _ _) rfl ?_
        exact ⟨⟨_, rfl⟩, H.out.back HBW.out H0.out⟩
  · by_cases k5 : p.kind = 5
    · by_cases s7 : 7 ≤ c.state ∧ c.state ≤ 10
      · have hO : hearOldO c o p = sendO c o 6 p.sq := by unfold hearOldO; rw [if_neg (by omega), if_neg (by omega), if_pos (by omega)]
        rw [hO]
        clear hO
        have kk1 : (p.kind == 1) = false := by simp; omega
        have kk5 : (p.kind == 5) = true := by simp; omega
        have kk9 : (p.kind == 9) = false := by simp; omega
        have hw : decide (7 ≤ c.state ∧ c.state ≤ 10) = true := decide_eq_true (by omega)
        clear k1 k5 s7
        have k0_ : W.cell? ⟨q, 0, none⟩ = some (.int .i64 p.kind) := (cell_of_row _ _ _ _ _ _ HBX.out).trans rfl
        have k1_ : W.cell? ⟨q, 1, none⟩ = some (.int .i64 p.sq) := (cell_of_row _ _ _ _ _ _ HBX.out).trans rfl
        have k2_ : W.cell? ⟨q, 2, none⟩ = some (.int .u32 p.n) := (cell_of_row _ _ _ _ _ _ HBX.out).trans rfl
        have k6_ : W.cell? ⟨q, 6, none⟩ = some (.bool p.self) := (cell_of_row _ _ _ _ _ _ HBX.out).trans rfl
        have k7_ : W.cell? ⟨q, 7, none⟩ = some (.string p.data) := (cell_of_row _ _ _ _ _ _ HBX.out).trans rfl
        have p0_ := H0.out.p0
        have c2_ := H0.out.c2
        have z2_ := H0.out.free 2
        rw [hW, hq] at k0_ k1_ k2_ k6_ k7_
        rw [hW] at p0_ c2_ z2_
        simp only [encP] at k0_ k1_ k2_ k6_ k7_ p0_ c2_ z2_
        show Calls Tryd.prog _ #[_, .agg #[.int .i64 p.kind, .int .i64 p.sq, .int .u32 p.n, .int .u32 p.ps, .int .u32 p.mr, .slice p.la p.ln p.lc, .bool p.self, .string p.data]] _ _
        go_enter Tryd.func83, Tryd.ntmps83
        go_wp2_with fail
        show Calls Tryd.prog _ _ (w.alloc (.cells (encP p) 74)) _
        rw [← hW, ← hq]
        clear hW hq
        clear k0_ k1_ k2_ k6_ k7_ p0_ c2_ z2_
        have k0_ : W.cell? ⟨q, 0, none⟩ = some (.int .i64 p.kind) := (cell_of_row _ _ _ _ _ _ HBX.out).trans rfl
        have k1_ : W.cell? ⟨q, 1, none⟩ = some (.int .i64 p.sq) := (cell_of_row _ _ _ _ _ _ HBX.out).trans rfl
        have k2_ : W.cell? ⟨q, 2, none⟩ = some (.int .u32 p.n) := (cell_of_row _ _ _ _ _ _ HBX.out).trans rfl
        have k6_ : W.cell? ⟨q, 6, none⟩ = some (.bool p.self) := (cell_of_row _ _ _ _ _ _ HBX.out).trans rfl
        have k7_ : W.cell? ⟨q, 7, none⟩ = some (.string p.data) := (cell_of_row _ _ _ _ _ _ HBX.out).trans rfl
        have p0_ := H0.out.p0
        have c2_ := H0.out.c2
        have z2_ := H0.out.free 2
        refine (within_any (Plus X q) W W g m c _ 7 10 H0.out).mono ?_; rintro e w' ⟨rfl, hww⟩
        obtain rfl : W = w' := hww.symm
        rw [hw]
        go_wp2_with fail
        clear k0_ k1_ k2_ k6_ k7_ p0_ c2_ z2_
        refine (send_any (Plus X q) W W g m c o 6 p.sq H0.out (HL.out.more (by decide))).mono ?_; rintro e w1 ⟨⟨v1, rfl⟩, h1⟩
        have H1 := Lib.hid h1
        clear h1
        have hbx := H1.out.boxed HBX.out HGQ.out
        have k0_ : w1.cell? ⟨q, 0, none⟩ = some (.int .i64 p.kind) := (cell_of_row _ _ _ _ _ _ hbx).trans rfl
        have k1_ : w1.cell? ⟨q, 1, none⟩ = some (.int .i64 p.sq) := (cell_of_row _ _ _ _ _ _ hbx).trans rfl
        have k2_ : w1.cell? ⟨q, 2, none⟩ = some (.int .u32 p.n) := (cell_of_row _ _ _ _ _ _ hbx).trans rfl
        have k6_ : w1.cell? ⟨q, 6, none⟩ = some (.bool p.self) := (cell_of_row _ _ _ _ _ _ hbx).trans rfl
        have k7_ : w1.cell? ⟨q, 7, none⟩ = some (.string p.data) := (cell_of_row _ _ _ _ _ _ hbx).trans rfl
        clear hbx
        have p0_ := H1.out.p0
        have c2_ := H1.out.c2
        have z2_ := H1.out.free 2
        go_wp2_with fail
        (try simp only [Exit.inBlock, Exit.then])
        first
          | refine bodyPost_end (results_none rfl _ _ _) rfl ?_
          | refine bodyPost_ret (results_none rfl _ _ _) rfl ?_
        exact ⟨⟨_, rfl⟩, H.out.back HBW.out H1.out⟩
      · have hO : hearOldO c o p = o := by unfold hearOldO; rw [if_neg (by omega), if_neg (by omega), if_neg (by omega), if_neg (by omega)]
        rw [hO]
        clear hO
        have kk1 : (p.kind == 1) = false := by simp; omega
        have kk5 : (p.kind == 5) = true := by simp; omega
        have kk9 : (p.kind == 9) = false := by simp; omega
        have hw : decide (7 ≤ c.state ∧ c.state ≤ 10) = false := decide_eq_false (by omega)
        clear k1 k5 s7
        have k0_ : W.cell? ⟨q, 0, none⟩ = some (.int .i64 p.kind) := (cell_of_row _ _ _ _ _ _ HBX.out).trans rfl
        have k1_ : W.cell? ⟨q, 1, none⟩ = some (.int .i64 p.sq) := (cell_of_row _ _ _ _ _ _ HBX.out).trans rfl
        have k2_ : W.cell? ⟨q, 2, none⟩ = some (.int .u32 p.n) := (cell_of_row _ _ _ _ _ _ HBX.out).trans rfl
        have k6_ : W.cell? ⟨q, 6, none⟩ = some (.bool p.self) := (cell_of_row _ _ _ _ _ _ HBX.out).trans rfl
        have k7_ : W.cell? ⟨q, 7, none⟩ = some (.string p.data) := (cell_of_row _ _ _ _ _ _ HBX.out).trans rfl
        have p0_ := H0.out.p0
        have c2_ := H0.out.c2
        have z2_ := H0.out.free 2
        rw [hW, hq] at k0_ k1_ k2_ k6_ k7_
        rw [hW] at p0_ c2_ z2_
        simp only [encP] at k0_ k1_ k2_ k6_ k7_ p0_ c2_ z2_
        show Calls Tryd.prog _ #[_, .agg #[.int .i64 p.kind, .int .i64 p.sq, .int .u32 p.n, .int .u32 p.ps, .int .u32 p.mr, .slice p.la p.ln p.lc, .bool p.self, .string p.data]] _ _
        go_enter Tryd.func83, Tryd.ntmps83
        go_wp2_with fail
        show Calls Tryd.prog _ _ (w.alloc (.cells (encP p) 74)) _
        rw [← hW, ← hq]
        clear hW hq
        clear k0_ k1_ k2_ k6_ k7_ p0_ c2_ z2_
        have k0_ : W.cell? ⟨q, 0, none⟩ = some (.int .i64 p.kind) := (cell_of_row _ _ _ _ _ _ HBX.out).trans rfl
        have k1_ : W.cell? ⟨q, 1, none⟩ = some (.int .i64 p.sq) := (cell_of_row _ _ _ _ _ _ HBX.out).trans rfl
        have k2_ : W.cell? ⟨q, 2, none⟩ = some (.int .u32 p.n) := (cell_of_row _ _ _ _ _ _ HBX.out).trans rfl
        have k6_ : W.cell? ⟨q, 6, none⟩ = some (.bool p.self) := (cell_of_row _ _ _ _ _ _ HBX.out).trans rfl
        have k7_ : W.cell? ⟨q, 7, none⟩ = some (.string p.data) := (cell_of_row _ _ _ _ _ _ HBX.out).trans rfl
        have p0_ := H0.out.p0
        have c2_ := H0.out.c2
        have z2_ := H0.out.free 2
        refine (within_any (Plus X q) W W g m c _ 7 10 H0.out).mono ?_; rintro e w' ⟨rfl, hww⟩
        obtain rfl : W = w' := hww.symm
        rw [hw]
        go_wp2_with fail
        (try simp only [Exit.inBlock, Exit.then])
        first
          | refine bodyPost_end (results_none rfl _ _ _) rfl ?_
          | refine bodyPost_ret (results_none rfl _ _ _) rfl ?_
        exact ⟨⟨_, rfl⟩, H.out.back HBW.out H0.out⟩
    · by_cases k9 : p.kind = 9
      · by_cases s8 : c.state = 8
        · have hO : hearOldO c o p = sendO c o 15 p.sq := by unfold hearOldO; rw [if_neg (by omega), if_neg (by omega), if_neg (by omega), if_pos (by omega)]
          rw [hO]
          clear hO
          have kk1 : (p.kind == 1) = false := by simp; omega
          have kk5 : (p.kind == 5) = false := by simp; omega
          have kk9 : (p.kind == 9) = true := by simp; omega
          have ss8 : (c.state == 8) = true := by simp; omega
          clear k1 k5 k9 s8
          have k0_ : W.cell? ⟨q, 0, none⟩ = some (.int .i64 p.kind) := (cell_of_row _ _ _ _ _ _ HBX.out).trans rfl
          have k1_ : W.cell? ⟨q, 1, none⟩ = some (.int .i64 p.sq) := (cell_of_row _ _ _ _ _ _ HBX.out).trans rfl
          have k2_ : W.cell? ⟨q, 2, none⟩ = some (.int .u32 p.n) := (cell_of_row _ _ _ _ _ _ HBX.out).trans rfl
          have k6_ : W.cell? ⟨q, 6, none⟩ = some (.bool p.self) := (cell_of_row _ _ _ _ _ _ HBX.out).trans rfl
          have k7_ : W.cell? ⟨q, 7, none⟩ = some (.string p.data) := (cell_of_row _ _ _ _ _ _ HBX.out).trans rfl
          have p0_ := H0.out.p0
          have c2_ := H0.out.c2
          have z2_ := H0.out.free 2
          rw [hW, hq] at k0_ k1_ k2_ k6_ k7_
          rw [hW] at p0_ c2_ z2_
          simp only [encP] at k0_ k1_ k2_ k6_ k7_ p0_ c2_ z2_
          show Calls Tryd.prog _ #[_, .agg #[.int .i64 p.kind, .int .i64 p.sq, .int .u32 p.n, .int .u32 p.ps, .int .u32 p.mr, .slice p.la p.ln p.lc, .bool p.self, .string p.data]] _ _
          go_enter Tryd.func83, Tryd.ntmps83
          go_wp2_with fail
          show Calls Tryd.prog _ _ (w.alloc (.cells (encP p) 74)) _
          rw [← hW, ← hq]
          clear hW hq
          clear k0_ k1_ k2_ k6_ k7_ p0_ c2_ z2_
          refine (send_any (Plus X q) W W g m c o 15 p.sq H0.out (HL.out.more (by decide))).mono ?_; rintro e w1 ⟨⟨v1, rfl⟩, h1⟩
          have H1 := Lib.hid h1
          clear h1
          have hbx := H1.out.boxed HBX.out HGQ.out
          have k0_ : w1.cell? ⟨q, 0, none⟩ = some (.int .i64 p.kind) := (cell_of_row _ _ _ _ _ _ hbx).trans rfl
          have k1_ : w1.cell? ⟨q, 1, none⟩ = some (.int .i64 p.sq) := (cell_of_row _ _ _ _ _ _ hbx).trans rfl
          have k2_ : w1.cell? ⟨q, 2, none⟩ = some (.int .u32 p.n) := (cell_of_row _ _ _ _ _ _ hbx).trans rfl
          have k6_ : w1.cell? ⟨q, 6, none⟩ = some (.bool p.self) := (cell_of_row _ _ _ _ _ _ hbx).trans rfl
          have k7_ : w1.cell? ⟨q, 7, none⟩ = some (.string p.data) := (cell_of_row _ _ _ _ _ _ hbx).trans rfl
          clear hbx
          have p0_ := H1.out.p0
          have c2_ := H1.out.c2
          have z2_ := H1.out.free 2
          go_wp2_with fail
          (try simp only [Exit.inBlock, Exit.then])
          first
            | refine bodyPost_end (results_none rfl _ _ _) rfl ?_
            | refine bodyPost_ret (results_none rfl _ _ _) rfl ?_
          exact ⟨⟨_, rfl⟩, H.out.back HBW.out H1.out⟩
        · by_cases s10 : c.state = 10
          · have hO : hearOldO c o p = sendO c o 15 p.sq := by unfold hearOldO; rw [if_neg (by omega), if_neg (by omega), if_neg (by omega), if_pos (by omega)]
            rw [hO]
            clear hO
            have kk1 : (p.kind == 1) = false := by simp; omega
            have kk5 : (p.kind == 5) = false := by simp; omega
            have kk9 : (p.kind == 9) = true := by simp; omega
            have ss8 : (c.state == 8) = false := by simp; omega
            have ss10 : (c.state == 10) = true := by simp; omega
            clear k1 k5 k9 s8 s10
            have k0_ : W.cell? ⟨q, 0, none⟩ = some (.int .i64 p.kind) := (cell_of_row _ _ _ _ _ _ HBX.out).trans rfl
            have k1_ : W.cell? ⟨q, 1, none⟩ = some (.int .i64 p.sq) := (cell_of_row _ _ _ _ _ _ HBX.out).trans rfl
            have k2_ : W.cell? ⟨q, 2, none⟩ = some (.int .u32 p.n) := (cell_of_row _ _ _ _ _ _ HBX.out).trans rfl
            have k6_ : W.cell? ⟨q, 6, none⟩ = some (.bool p.self) := (cell_of_row _ _ _ _ _ _ HBX.out).trans rfl
            have k7_ : W.cell? ⟨q, 7, none⟩ = some (.string p.data) := (cell_of_row _ _ _ _ _ _ HBX.out).trans rfl
            have p0_ := H0.out.p0
            have c2_ := H0.out.c2
            have z2_ := H0.out.free 2
            rw [hW, hq] at k0_ k1_ k2_ k6_ k7_
            rw [hW] at p0_ c2_ z2_
            simp only [encP] at k0_ k1_ k2_ k6_ k7_ p0_ c2_ z2_
            show Calls Tryd.prog _ #[_, .agg #[.int .i64 p.kind, .int .i64 p.sq, .int .u32 p.n, .int .u32 p.ps, .int .u32 p.mr, .slice p.la p.ln p.lc, .bool p.self, .string p.data]] _ _
            go_enter Tryd.func83, Tryd.ntmps83
            go_wp2_with fail
            show Calls Tryd.prog _ _ (w.alloc (.cells (encP p) 74)) _
            rw [← hW, ← hq]
            clear hW hq
            clear k0_ k1_ k2_ k6_ k7_ p0_ c2_ z2_
            refine (send_any (Plus X q) W W g m c o 15 p.sq H0.out (HL.out.more (by decide))).mono ?_; rintro e w1 ⟨⟨v1, rfl⟩, h1⟩
            have H1 := Lib.hid h1
            clear h1
            have hbx := H1.out.boxed HBX.out HGQ.out
            have k0_ : w1.cell? ⟨q, 0, none⟩ = some (.int .i64 p.kind) := (cell_of_row _ _ _ _ _ _ hbx).trans rfl
            have k1_ : w1.cell? ⟨q, 1, none⟩ = some (.int .i64 p.sq) := (cell_of_row _ _ _ _ _ _ hbx).trans rfl
            have k2_ : w1.cell? ⟨q, 2, none⟩ = some (.int .u32 p.n) := (cell_of_row _ _ _ _ _ _ hbx).trans rfl
            have k6_ : w1.cell? ⟨q, 6, none⟩ = some (.bool p.self) := (cell_of_row _ _ _ _ _ _ hbx).trans rfl
            have k7_ : w1.cell? ⟨q, 7, none⟩ = some (.string p.data) := (cell_of_row _ _ _ _ _ _ hbx).trans rfl
            clear hbx
            have p0_ := H1.out.p0
            have c2_ := H1.out.c2
            have z2_ := H1.out.free 2
            go_wp2_with fail
            (try simp only [Exit.inBlock, Exit.then])
            first
              | refine bodyPost_end (results_none rfl _ _ _) rfl ?_
              | refine bodyPost_ret (results_none rfl _ _ _) rfl ?_
            exact ⟨⟨_, rfl⟩, H.out.back HBW.out H1.out⟩
          · have hO : hearOldO c o p = o := by unfold hearOldO; rw [if_neg (by omega), if_neg (by omega), if_neg (by omega), if_neg (by omega)]
            rw [hO]
            clear hO
            have kk1 : (p.kind == 1) = false := by simp; omega
            have kk5 : (p.kind == 5) = false := by simp; omega
            have kk9 : (p.kind == 9) = true := by simp; omega
            have ss8 : (c.state == 8) = false := by simp; omega
            have ss10 : (c.state == 10) = false := by simp; omega
            clear k1 k5 k9 s8 s10
            have k0_ : W.cell? ⟨q, 0, none⟩ = some (.int .i64 p.kind) := (cell_of_row _ _ _ _ _ _ HBX.out).trans rfl
            have k1_ : W.cell? ⟨q, 1, none⟩ = some (.int .i64 p.sq) := (cell_of_row _ _ _ _ _ _ HBX.out).trans rfl
            have k2_ : W.cell? ⟨q, 2, none⟩ = some (.int .u32 p.n) := (cell_of_row _ _ _ _ _ _ HBX.out).trans rfl
            have k6_ : W.cell? ⟨q, 6, none⟩ = some (.bool p.self) := (cell_of_row _ _ _ _ _ _ HBX.out).trans rfl
            have k7_ : W.cell? ⟨q, 7, none⟩ = some (.string p.data) := (cell_of_row _ _ _ _ _ _ HBX.out).trans rfl
            have p0_ := H0.out.p0
            have c2_ := H0.out.c2
            have z2_ := H0.out.free 2
            rw [hW, hq] at k0_ k1_ k2_ k6_ k7_
            rw [hW] at p0_ c2_ z2_
            simp only [encP] at k0_ k1_ k2_ k6_ k7_ p0_ c2_ z2_
            show Calls Tryd.prog _ #[_, .agg #[.int .i64 p.kind, .int .i64 p.sq, .int .u32 p.n, .int .u32 p.ps, .int .u32 p.mr, .slice p.la p.ln p.lc, .bool p.self, .string p.data]] _ _
            go_enter Tryd.func83, Tryd.ntmps83
            go_wp2_with fail
            (try simp only [Exit.inBlock, Exit.then])
            first
              | refine bodyPost_end (results_none rfl _ _ _) rfl ?_
              | refine bodyPost_ret (results_none rfl _ _ _) rfl ?_
            exact ⟨⟨_, rfl⟩, H.out.alloc _⟩
      · have hO : hearOldO c o p = o := by unfold hearOldO; rw [if_neg (by omega), if_neg (by omega), if_neg (by omega), if_neg (by omega)]
        rw [hO]
        clear hO
        have kk1 : (p.kind == 1) = false := by simp; omega
        have kk5 : (p.kind == 5) = false := by simp; omega
        have kk9 : (p.kind == 9) = false := by simp; omega
        clear k1 k5 k9
        have k0_ : W.cell? ⟨q, 0, none⟩ = some (.int .i64 p.kind) := (cell_of_row _ _ _ _ _ _ HBX.out).trans rfl
        have k1_ : W.cell? ⟨q, 1, none⟩ = some (.int .i64 p.sq) := (cell_of_row _ _ _ _ _ _ HBX.out).trans rfl
        have k2_ : W.cell? ⟨q, 2, none⟩ = some (.int .u32 p.n) := (cell_of_row _ _ _ _ _ _ HBX.out).trans rfl
        have k6_ : W.cell? ⟨q, 6, none⟩ = some (.bool p.self) := (cell_of_row _ _ _ _ _ _ HBX.out).trans rfl
        have k7_ : W.cell? ⟨q, 7, none⟩ = some (.string p.data) := (cell_of_row _ _ _ _ _ _ HBX.out).trans rfl
        have p0_ := H0.out.p0
        have c2_ := H0.out.c2
        have z2_ := H0.out.free 2
        rw [hW, hq] at k0_ k1_ k2_ k6_ k7_
        rw [hW] at p0_ c2_ z2_
        simp only [encP] at k0_ k1_ k2_ k6_ k7_ p0_ c2_ z2_
        show Calls Tryd.prog _ #[_, .agg #[.int .i64 p.kind, .int .i64 p.sq, .int .u32 p.n, .int .u32 p.ps, .int .u32 p.mr, .slice p.la p.ln p.lc, .bool p.self, .string p.data]] _ _
        go_enter Tryd.func83, Tryd.ntmps83
        go_wp2_with fail
        (try simp only [Exit.inBlock, Exit.then])
        first
          | refine bodyPost_end (results_none rfl _ _ _) rfl ?_
          | refine bodyPost_ret (results_none rfl _ _ _) rfl ?_
        exact ⟨⟨_, rfl⟩, H.out.alloc _⟩
set_option maxRecDepth 100000 in
set_option maxHeartbeats 4000000 in
theorem hearRS_any (h : Make X w0 w g m c o) (hl : Few o 900) :
    Calls Tryd.prog 93 #[.pointer (some ⟨m, 0, none⟩), .agg (encP p)] w fun e w' => (∃ v, e = .returned v) ∧ Make X w0 w' g m (hearRSC c) (hearRSO c o p) := by
  obtain ⟨W, hW⟩ : ∃ W, W = w.alloc (.cells (encP p) 74) := ⟨_, rfl⟩
  obtain ⟨q, hq⟩ : ∃ q, q = w.heap.size := ⟨_, rfl⟩
  have HBW : Hid (Below w.heap.size w W) := Lib.hid (by rw [hW]; exact (Below.refl _ _).alloc (Nat.le_refl _) _)
  have H := Lib.hid h
  have HL := Lib.hid hl
  have H0 : Hid (Make (Plus X q) W W g m c o) := Lib.hid (by rw [hW, hq]; exact h.held _)
  have HGQ : Hid (q ≠ g) := Lib.hid (by rw [hq]; have := h.glt; omega)
  have HBX : Hid (W.heap[q]? = some (.cells (encP p) 74 (0, 0))) := Lib.hid (by rw [hW, hq]; exact heap_alloc_new w _)
  clear h hl
  by_cases s5 : c.state = 5
  · have hC : hearRSC c = toC c 10 := by unfold hearRSC; rw [if_pos (by omega)]
    rw [hC]
    clear hC
    have hO : hearRSO c o p = readyO c (tellO (sendO c o 6 p.sq) ⟨6, noD, false, 0, 0⟩) := by unfold hearRSO; rw [if_pos (by omega)]
    rw [hO]
    clear hO
    have ss5 : (c.state == 5) = true := by simp; omega
    clear s5
    have k0_ : W.cell? ⟨q, 0, none⟩ = some (.int .i64 p.kind) := (cell_of_row _ _ _ _ _ _ HBX.out).trans rfl
    have k1_ : W.cell? ⟨q, 1, none⟩ = some (.int .i64 p.sq) := (cell_of_row _ _ _ _ _ _ HBX.out).trans rfl
    have k2_ : W.cell? ⟨q, 2, none⟩ = some (.int .u32 p.n) := (cell_of_row _ _ _ _ _ _ HBX.out).trans rfl
    have k6_ : W.cell? ⟨q, 6, none⟩ = some (.bool p.self) := (cell_of_row _ _ _ _ _ _ HBX.out).trans rfl
    have k7_ : W.cell? ⟨q, 7, none⟩ = some (.string p.data) := (cell_of_row _ _ _ _ _ _ HBX.out).trans rfl
    have p0_ := H0.out.p0
    have c2_ := H0.out.c2
    have z2_ := H0.out.free 2
    rw [hW, hq] at k0_ k1_ k2_ k6_ k7_
    rw [hW] at p0_ c2_ z2_
    simp only [encP] at k0_ k1_ k2_ k6_ k7_ p0_ c2_ z2_
    show Calls Tryd.prog _ #[_, .agg #[.int .i64 p.kind, .int .i64 p.sq, .int .u32 p.n, .int .u32 p.ps, .int .u32 p.mr, .slice p.la p.ln p.lc, .bool p.self, .string p.data]] _ _
    go_enter Tryd.func93, Tryd.ntmps93
    go_wp2_with fail
    show Calls Tryd.prog _ _ (w.alloc (.cells (encP p) 74)) _
    rw [← hW, ← hq]
    clear hW hq
    clear k0_ k1_ k2_ k6_ k7_ p0_ c2_ z2_
    refine (send_any (Plus X q) W W g m c o 6 p.sq H0.out (HL.out.more (by decide))).mono ?_; rintro e w1 ⟨⟨v1, rfl⟩, h1⟩
    have H1 := Lib.hid h1
    clear h1
    have hbx := H1.out.boxed HBX.out HGQ.out
    have k0_ : w1.cell? ⟨q, 0, none⟩ = some (.int .i64 p.kind) := (cell_of_row _ _ _ _ _ _ hbx).trans rfl
    have k1_ : w1.cell? ⟨q, 1, none⟩ = some (.int .i64 p.sq) := (cell_of_row _ _ _ _ _ _ hbx).trans rfl
    have k2_ : w1.cell? ⟨q, 2, none⟩ = some (.int .u32 p.n) := (cell_of_row _ _ _ _ _ _ hbx).trans rfl
    have k6_ : w1.cell? ⟨q, 6, none⟩ = some (.bool p.self) := (cell_of_row _ _ _ _ _ _ hbx).trans rfl
    have k7_ : w1.cell? ⟨q, 7, none⟩ = some (.string p.data) := (cell_of_row _ _ _ _ _ _ hbx).trans rfl
    clear hbx
    have p0_ := H1.out.p0
    have c2_ := H1.out.c2
    have z2_ := H1.out.free 2
    go_wp2_with fail
    clear k0_ k1_ k2_ k6_ k7_ p0_ c2_ z2_
    refine (tell_any (Plus X q) W w1 g m c _ ⟨6, noD, false, 0, 0⟩ H1.out (by have := HL.out.1; show o.sigs.length ≤ 999; omega)).mono ?_; rintro e w2 ⟨⟨v2, rfl⟩, h2⟩
    have H2 := Lib.hid h2
    clear h2
    have hbx := H2.out.boxed HBX.out HGQ.out
    have k0_ : w2.cell? ⟨q, 0, none⟩ = some (.int .i64 p.kind) := (cell_of_row _ _ _ _ _ _ hbx).trans rfl
    have k1_ : w2.cell? ⟨q, 1, none⟩ = some (.int .i64 p.sq) := (cell_of_row _ _ _ _ _ _ hbx).trans rfl
    have k2_ : w2.cell? ⟨q, 2, none⟩ = some (.int .u32 p.n) := (cell_of_row _ _ _ _ _ _ hbx).trans rfl
    have k6_ : w2.cell? ⟨q, 6, none⟩ = some (.bool p.self) := (cell_of_row _ _ _ _ _ _ hbx).trans rfl
    have k7_ : w2.cell? ⟨q, 7, none⟩ = some (.string p.data) := (cell_of_row _ _ _ _ _ _ hbx).trans rfl
    clear hbx
    have p0_ := H2.out.p0
    have c2_ := H2.out.c2
    have z2_ := H2.out.free 2
    go_wp2_with fail
    clear k0_ k1_ k2_ k6_ k7_ p0_ c2_ z2_
    refine (ready_any (Plus X q) W w2 g m c _ H2.out).mono ?_; rintro e w3 ⟨⟨v3, rfl⟩, h3⟩
    have H3 := Lib.hid h3
    clear h3
    have hbx := H3.out.boxed HBX.out HGQ.out
    have k0_ : w3.cell? ⟨q, 0, none⟩ = some (.int .i64 p.kind) := (cell_of_row _ _ _ _ _ _ hbx).trans rfl
    have k1_ : w3.cell? ⟨q, 1, none⟩ = some (.int .i64 p.sq) := (cell_of_row _ _ _ _ _ _ hbx).trans rfl
    have k2_ : w3.cell? ⟨q, 2, none⟩ = some (.int .u32 p.n) := (cell_of_row _ _ _ _ _ _ hbx).trans rfl
    have k6_ : w3.cell? ⟨q, 6, none⟩ = some (.bool p.self) := (cell_of_row _ _ _ _ _ _ hbx).trans rfl
    have k7_ : w3.cell? ⟨q, 7, none⟩ = some (.string p.data) := (cell_of_row _ _ _ _ _ _ hbx).trans rfl
    clear hbx
    have p0_ := H3.out.p0
    have c2_ := H3.out.c2
    have z2_ := H3.out.free 2
    go_wp2_with fail
    (try simp only [Exit.inBlock, Exit.then])
    first
      | refine bodyPost_end (results_none rfl _ _ _) rfl ?_
      | refine bodyPost_ret (results_none rfl _ _ _) rfl ?_
    exact ⟨⟨_, rfl⟩, H.out.back HBW.out H3.out⟩
  · by_cases s7 : 7 ≤ c.state ∧ c.state ≤ 10
    · have hC : hearRSC c = toC c 6 := by unfold hearRSC; rw [if_neg (by omega), if_pos (by omega)]
      rw [hC]
      clear hC
      have hO : hearRSO c o p = stopO (tellO o ⟨5, p.data, false, 0, 0⟩) := by unfold hearRSO; rw [if_neg (by omega), if_pos (by omega)]
      rw [hO]
      clear hO
      have ss5 : (c.state == 5) = false := by simp; omega
      have hw : decide (7 ≤ c.state ∧ c.state ≤ 10) = true := decide_eq_true (by omega)
      clear s5 s7
      have k0_ : W.cell? ⟨q, 0, none⟩ = some (.int .i64 p.kind) := (cell_of_row _ _ _ _ _ _ HBX.out).trans rfl
      have k1_ : W.cell? ⟨q, 1, none⟩ = some (.int .i64 p.sq) := (cell_of_row _ _ _ _ _ _ HBX.out).trans rfl
      have k2_ : W.cell? ⟨q, 2, none⟩ = some (.int .u32 p.n) := (cell_of_row _ _ _ _ _ _ HBX.out).trans rfl
      have k6_ : W.cell? ⟨q, 6, none⟩ = some (.bool p.self) := (cell_of_row _ _ _ _ _ _ HBX.out).trans rfl
      have k7_ : W.cell? ⟨q, 7, none⟩ = some (.string p.data) := (cell_of_row _ _ _ _ _ _ HBX.out).trans rfl
      have p0_ := H0.out.p0
      have c2_ := H0.out.c2
      have z2_ := H0.out.free 2
      rw [hW, hq] at k0_ k1_ k2_ k6_ k7_
      rw [hW] at p0_ c2_ z2_
      simp only [encP] at k0_ k1_ k2_ k6_ k7_ p0_ c2_ z2_
      show Calls Tryd.prog _ #[_, .agg #[.int .i64 p.kind, .int .i64 p.sq, .int .u32 p.n, .int .u32 p.ps, .int .u32 p.mr, .slice p.la p.ln p.lc, .bool p.self, .string p.data]] _ _
      go_enter Tryd.func93, Tryd.ntmps93
      go_wp2_with fail
      show Calls Tryd.prog _ _ (w.alloc (.cells (encP p) 74)) _
      rw [← hW, ← hq]
      clear hW hq
      clear k0_ k1_ k2_ k6_ k7_ p0_ c2_ z2_
      have k0_ : W.cell? ⟨q, 0, none⟩ = some (.int .i64 p.kind) := (cell_of_row _ _ _ _ _ _ HBX.out).trans rfl
      have k1_ : W.cell? ⟨q, 1, none⟩ = some (.int .i64 p.sq) := (cell_of_row _ _ _ _ _ _ HBX.out).trans rfl
      have k2_ : W.cell? ⟨q, 2, none⟩ = some (.int .u32 p.n) := (cell_of_row _ _ _ _ _ _ HBX.out).trans rfl
      have k6_ : W.cell? ⟨q, 6, none⟩ = some (.bool p.self) := (cell_of_row _ _ _ _ _ _ HBX.out).trans rfl
      have k7_ : W.cell? ⟨q, 7, none⟩ = some (.string p.data) := (cell_of_row _ _ _ _ _ _ HBX.out).trans rfl
      have p0_ := H0.out.p0
      have c2_ := H0.out.c2
      have z2_ := H0.out.free 2
      refine (within_any (Plus X q) W W g m c _ 7 10 H0.out).mono ?_; rintro e w' ⟨rfl, hww⟩
      obtain rfl : W = w' := hww.symm
      rw [hw]
      go_wp2_with fail
      clear k0_ k1_ k2_ k6_ k7_ p0_ c2_ z2_
      refine (tell_any (Plus X q) W W g m c o ⟨5, p.data, false, 0, 0⟩ H0.out (by have := HL.out.1; omega)).mono ?_; rintro e w1 ⟨⟨v1, rfl⟩, h1⟩
      have H1 := Lib.hid h1
      clear h1
      have hbx := H1.out.boxed HBX.out HGQ.out
      have k0_ : w1.cell? ⟨q, 0, none⟩ = some (.int .i64 p.kind) := (cell_of_row _ _ _ _ _ _ hbx).trans rfl
      have k1_ : w1.cell? ⟨q, 1, none⟩ = some (.int .i64 p.sq) := (cell_of_row _ _ _ _ _ _ hbx).trans rfl
      have k2_ : w1.cell? ⟨q, 2, none⟩ = some (.int .u32 p.n) := (cell_of_row _ _ _ _ _ _ hbx).trans rfl
      have k6_ : w1.cell? ⟨q, 6, none⟩ = some (.bool p.self) := (cell_of_row _ _ _ _ _ _ hbx).trans rfl
      have k7_ : w1.cell? ⟨q, 7, none⟩ = some (.string p.data) := (cell_of_row _ _ _ _ _ _ hbx).trans rfl
      clear hbx
      have p0_ := H1.out.p0
      have c2_ := H1.out.c2
      have z2_ := H1.out.free 2
      go_wp2_with fail
      clear k0_ k1_ k2_ k6_ k7_ p0_ c2_ z2_
      refine (stop_any (Plus X q) W w1 g m c _ 6 H1.out).mono ?_; rintro e w2 ⟨⟨v2, rfl⟩, h2⟩
      have H2 := Lib.hid h2
      clear h2
      have hbx := H2.out.boxed HBX.out HGQ.out
      have k0_ : w2.cell? ⟨q, 0, none⟩ = some (.int .i64 p.kind) := (cell_of_row _ _ _ _ _ _ hbx).trans rfl
      have k1_ : w2.cell? ⟨q, 1, none⟩ = some (.int .i64 p.sq) := (cell_of_row _ _ _ _ _ _ hbx).trans rfl
      have k2_ : w2.cell? ⟨q, 2, none⟩ = some (.int .u32 p.n) := (cell_of_row _ _ _ _ _ _ hbx).trans rfl
      have k6_ : w2.cell? ⟨q, 6, none⟩ = some (.bool p.self) := (cell_of_row _ _ _ _ _ _ hbx).trans rfl
      have k7_ : w2.cell? ⟨q, 7, none⟩ = some (.string p.data) := (cell_of_row _ _ _ _ _ _ hbx).trans rfl
      clear hbx
      have p0_ := H2.out.p0
      have c2_ := H2.out.c2
      have z2_ := H2.out.free 2
      go_wp2_with fail
      (try simp only [Exit.inBlock, Exit.then])
      first
        | refine bodyPost_end (results_none rfl _ _ _) rfl ?_
        | refine bodyPost_ret (results_none rfl _ _ _) rfl ?_
      exact ⟨⟨_, rfl⟩, H.out.back HBW.out H2.out⟩
    · have hC : hearRSC c = c := by unfold hearRSC; rw [if_neg (by omega), if_neg (by omega)]
      rw [hC]
      clear hC
      have hO : hearRSO c o p = o := by unfold hearRSO; rw [if_neg (by omega), if_neg (by omega)]
      rw [hO]
      clear hO
      have ss5 : (c.state == 5) = false := by simp; omega
      have hw : decide (7 ≤ c.state ∧ c.state ≤ 10) = false := decide_eq_false (by omega)
      clear s5 s7
      have k0_ : W.cell? ⟨q, 0, none⟩ = some (.int .i64 p.kind) := (cell_of_row _ _ _ _ _ _ HBX.out).trans rfl
      have k1_ : W.cell? ⟨q, 1, none⟩ = some (.int .i64 p.sq) := (cell_of_row _ _ _ _ _ _ HBX.out).trans rfl
      have k2_ : W.cell? ⟨q, 2, none⟩ = some (.int .u32 p.n) := (cell_of_row _ _ _ _ _ _ HBX.out).trans rfl
      have k6_ : W.cell? ⟨q, 6, none⟩ = some (.bool p.self) := (cell_of_row _ _ _ _ _ _ HBX.out).trans rfl
      have k7_ : W.cell? ⟨q, 7, none⟩ = some (.string p.data) := (cell_of_row _ _ _ _ _ _ HBX.out).trans rfl
      have p0_ := H0.out.p0
      have c2_ := H0.out.c2
      have z2_ := H0.out.free 2
      rw [hW, hq] at k0_ k1_ k2_ k6_ k7_
      rw [hW] at p0_ c2_ z2_
      simp only [encP] at k0_ k1_ k2_ k6_ k7_ p0_ c2_ z2_
      show Calls Tryd.prog _ #[_, .agg #[.int .i64 p.kind, .int .i64 p.sq, .int .u32 p.n, .int .u32 p.ps, .int .u32 p.mr, .slice p.la p.ln p.lc, .bool p.self, .string p.data]] _ _
      go_enter Tryd.func93, Tryd.ntmps93
      go_wp2_with fail
      show Calls Tryd.prog _ _ (w.alloc (.cells (encP p) 74)) _
      rw [← hW, ← hq]
      clear hW hq
      clear k0_ k1_ k2_ k6_ k7_ p0_ c2_ z2_
      have k0_ : W.cell? ⟨q, 0, none⟩ = some (.int .i64 p.kind) := (cell_of_row _ _ _ _ _ _ HBX.out).trans rfl
      have k1_ : W.cell? ⟨q, 1, none⟩ = some (.int .i64 p.sq) := (cell_of_row _ _ _ _ _ _ HBX.out).trans rfl
      have k2_ : W.cell? ⟨q, 2, none⟩ = some (.int .u32 p.n) := (cell_of_row _ _ _ _ _ _ HBX.out).trans rfl
      have k6_ : W.cell? ⟨q, 6, none⟩ = some (.bool p.self) := (cell_of_row _ _ _ _ _ _ HBX.out).trans rfl
      have k7_ : W.cell? ⟨q, 7, none⟩ = some (.string p.data) := (cell_of_row _ _ _ _ _ _ HBX.out).trans rfl
      have p0_ := H0.out.p0
      have c2_ := H0.out.c2
      have z2_ := H0.out.free 2
      refine (within_any (Plus X q) W W g m c _ 7 10 H0.out).mono ?_; rintro e w' ⟨rfl, hww⟩
      obtain rfl : W = w' := hww.symm
      rw [hw]
      go_wp2_with fail
      (try simp only [Exit.inBlock, Exit.then])
      first
        | refine bodyPost_end (results_none rfl _ _ _) rfl ?_
        | refine bodyPost_ret (results_none rfl _ _ _) rfl ?_
      exact ⟨⟨_, rfl⟩, H.out.back HBW.out H0.out⟩
end
end Go.Proofs.YtkphompjahcjiaaDoor.Conn
