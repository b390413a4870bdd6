/-
  A connection: what it hears of answers.
-/
import Derived.Test.YtkphompjahcjiaaDoorConn10
import Derived.StillTailTactics
namespace Go.Proofs.YtkphompjahcjiaaDoor.Conn
open Go.RowKit

section
variable (X : Nat → Prop) (w0 w : World) (g m : Nat) (c : C) (o : O) (p : P)
set_option maxRecDepth 100000 in
set_option maxHeartbeats 4000000 in
theorem hearAnswer_any (h : Make X w0 w g m c o) (hl : Few o 900) :
    Calls Tryd.prog 86 #[.pointer (some ⟨m, 0, none⟩), .agg (encP p)] w fun e w' => (∃ v, e = .returned v) ∧ Make X w0 w' g m (hearAnswerC c p) (hearAnswerO c o p) := by
  obtain ⟨W, hW⟩ : ∃ W, W = w.alloc (.cells (encP p) 74) := ⟨_, rfl⟩
  obtain ⟨q, hq⟩ : ∃ q, q = w.heap.size := ⟨_, rfl⟩
  have HBW : Hid (Below w.heap.size w W) := Lib.hid (by rw [hW]; exact (Below.refl _ _).alloc (Nat.le_refl _) _)
  have H := Lib.hid h
  have HL := Lib.hid hl
  have H0 : Hid (Make (Plus X q) W W g m c o) := Lib.hid (by rw [hW, hq]; exact h.held _)
  have HGQ : Hid (q ≠ g) := Lib.hid (by rw [hq]; have := h.glt; omega)
  have HBX : Hid (W.heap[q]? = some (.cells (encP p) 74 (0, 0))) := Lib.hid (by rw [hW, hq]; exact heap_alloc_new w _)
  clear h hl
  by_cases a1 : p.kind = 2 ∧ c.state = 2
  · have hC : hearAnswerC c p = toC (msC c p.n) 10 := by unfold hearAnswerC; rw [if_pos (by omega)]
    rw [hC]
    clear hC
    have hO : hearAnswerO c o p = readyO (msC c p.n) (tellO o (sigK 2)) := by unfold hearAnswerO; rw [if_pos (by omega)]
    rw [hO]
    clear hO
    have kk2 : (p.kind == 2) = true := by simp; omega
    have kk7 : (p.kind == 7) = false := by simp; omega
    have kk4 : (p.kind == 4) = false := by simp; omega
    have kk6 : (p.kind == 6) = false := by simp; omega
    have kk15 : (p.kind == 15) = false := by simp; omega
    have ss2 : (c.state == 2) = true := by simp; omega
    clear a1
    have hg1 : g ≠ w.heap.size := by rw [← hq]; exact HGQ.out.symm
    have hg2 : w.heap.size ≠ g := hg1.symm
    have k0_ : W.cell? ⟨q, 0, none⟩ = some (.int .i64 p.kind) := (cell_of_row _ _ _ _ _ _ HBX.out).trans rfl
    have k1_ : W.cell? ⟨q, 1, none⟩ = some (.int .i64 p.sq) := (cell_of_row _ _ _ _ _ _ HBX.out).trans rfl
    have k2_ : W.cell? ⟨q, 2, none⟩ = some (.int .u32 p.n) := (cell_of_row _ _ _ _ _ _ HBX.out).trans rfl
    have k6_ : W.cell? ⟨q, 6, none⟩ = some (.bool p.self) := (cell_of_row _ _ _ _ _ _ HBX.out).trans rfl
    have k7_ : W.cell? ⟨q, 7, none⟩ = some (.string p.data) := (cell_of_row _ _ _ _ _ _ HBX.out).trans rfl
    have p0_ := H0.out.p0
    have c2_ := H0.out.c2
    have z2_ := H0.out.free 2
    rw [hW, hq] at k0_ k1_ k2_ k6_ k7_
    rw [hW] at p0_ c2_ z2_
    simp only [encP] at k0_ k1_ k2_ k6_ k7_ p0_ c2_ z2_
    show Calls Tryd.prog _ #[_, .agg #[.int .i64 p.kind, .int .i64 p.sq, .int .u32 p.n, .int .u32 p.ps, .int .u32 p.mr, .slice p.la p.ln p.lc, .bool p.self, .string p.data]] _ _
    go_enter Tryd.func86, Tryd.ntmps86
    go_wp2_with fail
    show Code.wp _ _ _ _ (w.alloc (.cells (encP p) 74))
    rw [← hW, ← hq]
    clear hW hq hg1 hg2
    clear k0_ k1_ k2_ k6_ k7_ p0_ c2_ z2_
    have k0_ : W.cell? ⟨q, 0, none⟩ = some (.int .i64 p.kind) := (cell_of_row _ _ _ _ _ _ HBX.out).trans rfl
    have k1_ : W.cell? ⟨q, 1, none⟩ = some (.int .i64 p.sq) := (cell_of_row _ _ _ _ _ _ HBX.out).trans rfl
    have k2_ : W.cell? ⟨q, 2, none⟩ = some (.int .u32 p.n) := (cell_of_row _ _ _ _ _ _ HBX.out).trans rfl
    have k6_ : W.cell? ⟨q, 6, none⟩ = some (.bool p.self) := (cell_of_row _ _ _ _ _ _ HBX.out).trans rfl
    have k7_ : W.cell? ⟨q, 7, none⟩ = some (.string p.data) := (cell_of_row _ _ _ _ _ _ HBX.out).trans rfl
    have p0_ := H0.out.p0
    have c2_ := H0.out.c2
    have z2_ := H0.out.free 2
    have c5_ := H0.out.c5
    have z5_ := H0.out.free 5
    go_still_tail 8, (by kernel_rfl)
    change wpList _ _ _ _ _ W.drew
    go_wp2_with fail
    have HS1 : Hid (Make (Plus X q) W (W.setCell ⟨g, 5, none⟩ (.int .u32 p.n)).drew g m (msC c p.n) o) := Lib.hid ((H0.out.setC 5 (.int .u32 p.n) (msC c p.n) rfl).drewN 1)
    clear c5_ z5_
    clear k0_ k1_ k2_ k6_ k7_ p0_ c2_ z2_
    generalize (W.setCell ⟨g, 5, none⟩ (.int .u32 p.n)).drew = W5 at *
    refine (tell_any (Plus X q) W _ g m (msC c p.n) o (sigK 2) HS1.out (by have := HL.out.1; show o.sigs.length ≤ 999; omega)).mono ?_; rintro e w1 ⟨⟨v1, rfl⟩, h1⟩
    have H1 := Lib.hid h1
    clear h1
    go_wp2_with fail
    refine (ready_any (Plus X q) W w1 g m (msC c p.n) _ H1.out).mono ?_; rintro e w2 ⟨⟨v2, rfl⟩, h2⟩
    have H2 := Lib.hid h2
    clear h2
    go_wp2_with fail
    (try simp only [Exit.inBlock, Exit.then])
    first
      | refine bodyPost_end (results_none rfl _ _ _) rfl ?_
      | refine bodyPost_ret (results_none rfl _ _ _) rfl ?_
    exact ⟨⟨_, rfl⟩, H.out.back HBW.out H2.out⟩
  by_cases a2 : p.kind = 7 ∧ c.state = 2
  · have hC : hearAnswerC c p = toC c 1 := by unfold hearAnswerC; rw [if_neg (by omega), if_pos (by omega)]
    rw [hC]
    clear hC
    have hO : hearAnswerO c o p = stopO (releasedO o false p.data) := by unfold hearAnswerO; rw [if_neg (by omega), if_pos (by omega)]
    rw [hO]
    clear hO
    have kk2 : (p.kind == 2) = false := by simp; omega
    have kk7 : (p.kind == 7) = true := by simp; omega
    have kk4 : (p.kind == 4) = false := by simp; omega
    have kk6 : (p.kind == 6) = false := by simp; omega
    have kk15 : (p.kind == 15) = false := by simp; omega
    have ss2 : (c.state == 2) = true := by simp; omega
    clear a1 a2
    have k0_ : W.cell? ⟨q, 0, none⟩ = some (.int .i64 p.kind) := (cell_of_row _ _ _ _ _ _ HBX.out).trans rfl
    have k1_ : W.cell? ⟨q, 1, none⟩ = some (.int .i64 p.sq) := (cell_of_row _ _ _ _ _ _ HBX.out).trans rfl
    have k2_ : W.cell? ⟨q, 2, none⟩ = some (.int .u32 p.n) := (cell_of_row _ _ _ _ _ _ HBX.out).trans rfl
    have k6_ : W.cell? ⟨q, 6, none⟩ = some (.bool p.self) := (cell_of_row _ _ _ _ _ _ HBX.out).trans rfl
    have k7_ : W.cell? ⟨q, 7, none⟩ = some (.string p.data) := (cell_of_row _ _ _ _ _ _ HBX.out).trans rfl
    have p0_ := H0.out.p0
    have c2_ := H0.out.c2
    have z2_ := H0.out.free 2
    rw [hW, hq] at k0_ k1_ k2_ k6_ k7_
    rw [hW] at p0_ c2_ z2_
    simp only [encP] at k0_ k1_ k2_ k6_ k7_ p0_ c2_ z2_
    show Calls Tryd.prog _ #[_, .agg #[.int .i64 p.kind, .int .i64 p.sq, .int .u32 p.n, .int .u32 p.ps, .int .u32 p.mr, .slice p.la p.ln p.lc, .bool p.self, .string p.data]] _ _
    go_enter Tryd.func86, Tryd.ntmps86
    go_wp2_with fail
    show Calls Tryd.prog _ _ (w.alloc (.cells (encP p) 74)) _
    rw [← hW, ← hq]
    clear hW hq
    clear k0_ k1_ k2_ k6_ k7_ p0_ c2_ z2_
    refine (released_any (Plus X q) W W g m c o false p.data H0.out (HL.out.more (by decide))).mono ?_; rintro e w1 ⟨⟨v1, rfl⟩, h1⟩
    have H1 := Lib.hid h1
    clear h1
    have hbx := H1.out.boxed HBX.out HGQ.out
    have k0_ : w1.cell? ⟨q, 0, none⟩ = some (.int .i64 p.kind) := (cell_of_row _ _ _ _ _ _ hbx).trans rfl
    have k1_ : w1.cell? ⟨q, 1, none⟩ = some (.int .i64 p.sq) := (cell_of_row _ _ _ _ _ _ hbx).trans rfl
    have k2_ : w1.cell? ⟨q, 2, none⟩ = some (.int .u32 p.n) := (cell_of_row _ _ _ _ _ _ hbx).trans rfl
    have k6_ : w1.cell? ⟨q, 6, none⟩ = some (.bool p.self) := (cell_of_row _ _ _ _ _ _ hbx).trans rfl
    have k7_ : w1.cell? ⟨q, 7, none⟩ = some (.string p.data) := (cell_of_row _ _ _ _ _ _ hbx).trans rfl
    clear hbx
    have p0_ := H1.out.p0
    have c2_ := H1.out.c2
    have z2_ := H1.out.free 2
    go_wp2_with fail
    clear k0_ k1_ k2_ k6_ k7_ p0_ c2_ z2_
    refine (stop_any (Plus X q) W w1 g m c _ 1 H1.out).mono ?_; rintro e w2 ⟨⟨v2, rfl⟩, h2⟩
    have H2 := Lib.hid h2
    clear h2
    have hbx := H2.out.boxed HBX.out HGQ.out
    have k0_ : w2.cell? ⟨q, 0, none⟩ = some (.int .i64 p.kind) := (cell_of_row _ _ _ _ _ _ hbx).trans rfl
    have k1_ : w2.cell? ⟨q, 1, none⟩ = some (.int .i64 p.sq) := (cell_of_row _ _ _ _ _ _ hbx).trans rfl
    have k2_ : w2.cell? ⟨q, 2, none⟩ = some (.int .u32 p.n) := (cell_of_row _ _ _ _ _ _ hbx).trans rfl
    have k6_ : w2.cell? ⟨q, 6, none⟩ = some (.bool p.self) := (cell_of_row _ _ _ _ _ _ hbx).trans rfl
    have k7_ : w2.cell? ⟨q, 7, none⟩ = some (.string p.data) := (cell_of_row _ _ _ _ _ _ hbx).trans rfl
    clear hbx
    have p0_ := H2.out.p0
    have c2_ := H2.out.c2
    have z2_ := H2.out.free 2
    go_wp2_with fail
    (try simp only [Exit.inBlock, Exit.then])
    first
      | refine bodyPost_end (results_none rfl _ _ _) rfl ?_
      | refine bodyPost_ret (results_none rfl _ _ _) rfl ?_
    exact ⟨⟨_, rfl⟩, H.out.back HBW.out H2.out⟩
  by_cases a3 : (p.kind = 7 ∨ p.kind = 4) ∧ c.state = 4
  · have hC : hearAnswerC c p = toC c 1 := by unfold hearAnswerC; rw [if_neg (by omega), if_neg (by omega), if_pos (by omega)]
    rw [hC]
    clear hC
    have hO : hearAnswerO c o p = stopO (tellO o (sigK 4)) := by unfold hearAnswerO; rw [if_neg (by omega), if_neg (by omega), if_pos (by omega)]
    rw [hO]
    clear hO
    have s4 : c.state = 4 := a3.2
    by_cases k7 : p.kind = 7
    · have kk2 : (p.kind == 2) = false := by simp; omega
      have kk7 : (p.kind == 7) = true := by simp; omega
      have kk4 : (p.kind == 4) = false := by simp; omega
      have kk6 : (p.kind == 6) = false := by simp; omega
      have kk15 : (p.kind == 15) = false := by simp; omega
      have ss2 : (c.state == 2) = false := by simp; omega
      have ss4 : (c.state == 4) = true := by simp; omega
      clear a1 a2 a3 s4 k7
      have k0_ : W.cell? ⟨q, 0, none⟩ = some (.int .i64 p.kind) := (cell_of_row _ _ _ _ _ _ HBX.out).trans rfl
      have k1_ : W.cell? ⟨q, 1, none⟩ = some (.int .i64 p.sq) := (cell_of_row _ _ _ _ _ _ HBX.out).trans rfl
      have k2_ : W.cell? ⟨q, 2, none⟩ = some (.int .u32 p.n) := (cell_of_row _ _ _ _ _ _ HBX.out).trans rfl
      have k6_ : W.cell? ⟨q, 6, none⟩ = some (.bool p.self) := (cell_of_row _ _ _ _ _ _ HBX.out).trans rfl
      have k7_ : W.cell? ⟨q, 7, none⟩ = some (.string p.data) := (cell_of_row _ _ _ _ _ _ HBX.out).trans rfl
      have p0_ := H0.out.p0
      have c2_ := H0.out.c2
      have z2_ := H0.out.free 2
      rw [hW, hq] at k0_ k1_ k2_ k6_ k7_
      rw [hW] at p0_ c2_ z2_
      simp only [encP] at k0_ k1_ k2_ k6_ k7_ p0_ c2_ z2_
      show Calls Tryd.prog _ #[_, .agg #[.int .i64 p.kind, .int .i64 p.sq, .int .u32 p.n, .int .u32 p.ps, .int .u32 p.mr, .slice p.la p.ln p.lc, .bool p.self, .string p.data]] _ _
      go_enter Tryd.func86, Tryd.ntmps86
      go_wp2_with fail
      show Calls Tryd.prog _ _ (w.alloc (.cells (encP p) 74)) _
      rw [← hW, ← hq]
      clear hW hq
      clear k0_ k1_ k2_ k6_ k7_ p0_ c2_ z2_
      refine (left_any (Plus X q) W W g m c o H0.out (HL.out.more (by decide))).mono ?_; rintro e w1 ⟨⟨v1, rfl⟩, h1⟩
      have H1 := Lib.hid h1
      clear h1
      have hbx := H1.out.boxed HBX.out HGQ.out
      have k0_ : w1.cell? ⟨q, 0, none⟩ = some (.int .i64 p.kind) := (cell_of_row _ _ _ _ _ _ hbx).trans rfl
      have k1_ : w1.cell? ⟨q, 1, none⟩ = some (.int .i64 p.sq) := (cell_of_row _ _ _ _ _ _ hbx).trans rfl
      have k2_ : w1.cell? ⟨q, 2, none⟩ = some (.int .u32 p.n) := (cell_of_row _ _ _ _ _ _ hbx).trans rfl
      have k6_ : w1.cell? ⟨q, 6, none⟩ = some (.bool p.self) := (cell_of_row _ _ _ _ _ _ hbx).trans rfl
      have k7_ : w1.cell? ⟨q, 7, none⟩ = some (.string p.data) := (cell_of_row _ _ _ _ _ _ hbx).trans rfl
      clear hbx
      have p0_ := H1.out.p0
      have c2_ := H1.out.c2
      have z2_ := H1.out.free 2
      go_wp2_with fail
      (try simp only [Exit.inBlock, Exit.then])
      first
        | refine bodyPost_end (results_none rfl _ _ _) rfl ?_
        | refine bodyPost_ret (results_none rfl _ _ _) rfl ?_
      exact ⟨⟨_, rfl⟩, H.out.back HBW.out H1.out⟩
    · have kk2 : (p.kind == 2) = false := by simp; omega
      have kk7 : (p.kind == 7) = false := by simp; omega
      have kk4 : (p.kind == 4) = true := by simp; omega
      have kk6 : (p.kind == 6) = false := by simp; omega
      have kk15 : (p.kind == 15) = false := by simp; omega
      have ss2 : (c.state == 2) = false := by simp; omega
      have ss4 : (c.state == 4) = true := by simp; omega
      clear a1 a2 a3 s4 k7
      have k0_ : W.cell? ⟨q, 0, none⟩ = some (.int .i64 p.kind) := (cell_of_row _ _ _ _ _ _ HBX.out).trans rfl
      have k1_ : W.cell? ⟨q, 1, none⟩ = some (.int .i64 p.sq) := (cell_of_row _ _ _ _ _ _ HBX.out).trans rfl
      have k2_ : W.cell? ⟨q, 2, none⟩ = some (.int .u32 p.n) := (cell_of_row _ _ _ _ _ _ HBX.out).trans rfl
      have k6_ : W.cell? ⟨q, 6, none⟩ = some (.bool p.self) := (cell_of_row _ _ _ _ _ _ HBX.out).trans rfl
      have k7_ : W.cell? ⟨q, 7, none⟩ = some (.string p.data) := (cell_of_row _ _ _ _ _ _ HBX.out).trans rfl
      have p0_ := H0.out.p0
      have c2_ := H0.out.c2
      have z2_ := H0.out.free 2
      rw [hW, hq] at k0_ k1_ k2_ k6_ k7_
      rw [hW] at p0_ c2_ z2_
      simp only [encP] at k0_ k1_ k2_ k6_ k7_ p0_ c2_ z2_
      show Calls Tryd.prog _ #[_, .agg #[.int .i64 p.kind, .int .i64 p.sq, .int .u32 p.n, .int .u32 p.ps, .int .u32 p.mr, .slice p.la p.ln p.lc, .bool p.self, .string p.data]] _ _
      go_enter Tryd.func86, Tryd.ntmps86
      go_wp2_with fail
      show Calls Tryd.prog _ _ (w.alloc (.cells (encP p) 74)) _
      rw [← hW, ← hq]
      clear hW hq
      clear k0_ k1_ k2_ k6_ k7_ p0_ c2_ z2_
      refine (left_any (Plus X q) W W g m c o H0.out (HL.out.more (by decide))).mono ?_; rintro e w1 ⟨⟨v1, rfl⟩, h1⟩
      have H1 := Lib.hid h1
      clear h1
      have hbx := H1.out.boxed HBX.out HGQ.out
      have k0_ : w1.cell? ⟨q, 0, none⟩ = some (.int .i64 p.kind) := (cell_of_row _ _ _ _ _ _ hbx).trans rfl
      have k1_ : w1.cell? ⟨q, 1, none⟩ = some (.int .i64 p.sq) := (cell_of_row _ _ _ _ _ _ hbx).trans rfl
      have k2_ : w1.cell? ⟨q, 2, none⟩ = some (.int .u32 p.n) := (cell_of_row _ _ _ _ _ _ hbx).trans rfl
      have k6_ : w1.cell? ⟨q, 6, none⟩ = some (.bool p.self) := (cell_of_row _ _ _ _ _ _ hbx).trans rfl
      have k7_ : w1.cell? ⟨q, 7, none⟩ = some (.string p.data) := (cell_of_row _ _ _ _ _ _ hbx).trans rfl
      clear hbx
      have p0_ := H1.out.p0
      have c2_ := H1.out.c2
      have z2_ := H1.out.free 2
      go_wp2_with fail
      (try simp only [Exit.inBlock, Exit.then])
      first
        | refine bodyPost_end (results_none rfl _ _ _) rfl ?_
        | refine bodyPost_ret (results_none rfl _ _ _) rfl ?_
      exact ⟨⟨_, rfl⟩, H.out.back HBW.out H1.out⟩
  by_cases a4 : p.kind = 6 ∧ c.state = 5
  · have hC : hearAnswerC c p = toC (msC c p.n) 10 := by unfold hearAnswerC; rw [if_neg (by omega), if_neg (by omega), if_neg (by omega), if_pos (by omega)]
    rw [hC]
    clear hC
    have hO : hearAnswerO c o p = readyO (msC c p.n) (tellO o (sigK 6)) := by unfold hearAnswerO; rw [if_neg (by omega), if_neg (by omega), if_neg (by omega), if_pos (by omega)]
    rw [hO]
    clear hO
    have kk2 : (p.kind == 2) = false := by simp; omega
    have kk7 : (p.kind == 7) = false := by simp; omega
    have kk4 : (p.kind == 4) = false := by simp; omega
    have kk6 : (p.kind == 6) = true := by simp; omega
    have kk15 : (p.kind == 15) = false := by simp; omega
    have ss5 : (c.state == 5) = true := by simp; omega
    clear a1 a2 a3 a4
    have hg1 : g ≠ w.heap.size := by rw [← hq]; exact HGQ.out.symm
    have hg2 : w.heap.size ≠ g := hg1.symm
    have k0_ : W.cell? ⟨q, 0, none⟩ = some (.int .i64 p.kind) := (cell_of_row _ _ _ _ _ _ HBX.out).trans rfl
    have k1_ : W.cell? ⟨q, 1, none⟩ = some (.int .i64 p.sq) := (cell_of_row _ _ _ _ _ _ HBX.out).trans rfl
    have k2_ : W.cell? ⟨q, 2, none⟩ = some (.int .u32 p.n) := (cell_of_row _ _ _ _ _ _ HBX.out).trans rfl
    have k6_ : W.cell? ⟨q, 6, none⟩ = some (.bool p.self) := (cell_of_row _ _ _ _ _ _ HBX.out).trans rfl
    have k7_ : W.cell? ⟨q, 7, none⟩ = some (.string p.data) := (cell_of_row _ _ _ _ _ _ HBX.out).trans rfl
    have p0_ := H0.out.p0
    have c2_ := H0.out.c2
    have z2_ := H0.out.free 2
    rw [hW, hq] at k0_ k1_ k2_ k6_ k7_
    rw [hW] at p0_ c2_ z2_
    simp only [encP] at k0_ k1_ k2_ k6_ k7_ p0_ c2_ z2_
    show Calls Tryd.prog _ #[_, .agg #[.int .i64 p.kind, .int .i64 p.sq, .int .u32 p.n, .int .u32 p.ps, .int .u32 p.mr, .slice p.la p.ln p.lc, .bool p.self, .string p.data]] _ _
    go_enter Tryd.func86, Tryd.ntmps86
    go_wp2_with fail
    show Code.wp _ _ _ _ (w.alloc (.cells (encP p) 74))
    rw [← hW, ← hq]
    clear hW hq hg1 hg2
    clear k0_ k1_ k2_ k6_ k7_ p0_ c2_ z2_
    have k0_ : W.cell? ⟨q, 0, none⟩ = some (.int .i64 p.kind) := (cell_of_row _ _ _ _ _ _ HBX.out).trans rfl
    have k1_ : W.cell? ⟨q, 1, none⟩ = some (.int .i64 p.sq) := (cell_of_row _ _ _ _ _ _ HBX.out).trans rfl
    have k2_ : W.cell? ⟨q, 2, none⟩ = some (.int .u32 p.n) := (cell_of_row _ _ _ _ _ _ HBX.out).trans rfl
    have k6_ : W.cell? ⟨q, 6, none⟩ = some (.bool p.self) := (cell_of_row _ _ _ _ _ _ HBX.out).trans rfl
    have k7_ : W.cell? ⟨q, 7, none⟩ = some (.string p.data) := (cell_of_row _ _ _ _ _ _ HBX.out).trans rfl
    have p0_ := H0.out.p0
    have c2_ := H0.out.c2
    have z2_ := H0.out.free 2
    have c5_ := H0.out.c5
    have z5_ := H0.out.free 5
    go_still_tail 8, (by kernel_rfl)
    change wpList _ _ _ _ _ W.drew
    go_wp2_with fail
    have HS1 : Hid (Make (Plus X q) W (W.setCell ⟨g, 5, none⟩ (.int .u32 p.n)).drew g m (msC c p.n) o) := Lib.hid ((H0.out.setC 5 (.int .u32 p.n) (msC c p.n) rfl).drewN 1)
    clear c5_ z5_
    clear k0_ k1_ k2_ k6_ k7_ p0_ c2_ z2_
    generalize (W.setCell ⟨g, 5, none⟩ (.int .u32 p.n)).drew = W5 at *
    refine (tell_any (Plus X q) W _ g m (msC c p.n) o (sigK 6) HS1.out (by have := HL.out.1; show o.sigs.length ≤ 999; omega)).mono ?_; rintro e w1 ⟨⟨v1, rfl⟩, h1⟩
    have H1 := Lib.hid h1
    clear h1
    go_wp2_with fail
    refine (ready_any (Plus X q) W w1 g m (msC c p.n) _ H1.out).mono ?_; rintro e w2 ⟨⟨v2, rfl⟩, h2⟩
    have H2 := Lib.hid h2
    clear h2
    go_wp2_with fail
    (try simp only [Exit.inBlock, Exit.then])
    first
      | refine bodyPost_end (results_none rfl _ _ _) rfl ?_
      | refine bodyPost_ret (results_none rfl _ _ _) rfl ?_
    exact ⟨⟨_, rfl⟩, H.out.back HBW.out H2.out⟩
  by_cases a5 : p.kind = 15 ∧ c.state = 7
  · have hC : hearAnswerC c p = toC (msC c p.n) 8 := by unfold hearAnswerC; rw [if_neg (by omega), if_neg (by omega), if_neg (by omega), if_neg (by omega), if_pos (by omega)]
    rw [hC]
    clear hC
    have hO : hearAnswerO c o p = stopO (tellO o (sigK 7)) := by unfold hearAnswerO; rw [if_neg (by omega), if_neg (by omega), if_neg (by omega), if_neg (by omega), if_pos (by omega)]
    rw [hO]
    clear hO
    have kk2 : (p.kind == 2) = false := by simp; omega
    have kk7 : (p.kind == 7) = false := by simp; omega
    have kk4 : (p.kind == 4) = false := by simp; omega
    have kk6 : (p.kind == 6) = false := by simp; omega
    have kk15 : (p.kind == 15) = true := by simp; omega
    have ss7 : (c.state == 7) = true := by simp; omega
    clear a1 a2 a3 a4 a5
    have hg1 : g ≠ w.heap.size := by rw [← hq]; exact HGQ.out.symm
    have hg2 : w.heap.size ≠ g := hg1.symm
    have k0_ : W.cell? ⟨q, 0, none⟩ = some (.int .i64 p.kind) := (cell_of_row _ _ _ _ _ _ HBX.out).trans rfl
    have k1_ : W.cell? ⟨q, 1, none⟩ = some (.int .i64 p.sq) := (cell_of_row _ _ _ _ _ _ HBX.out).trans rfl
    have k2_ : W.cell? ⟨q, 2, none⟩ = some (.int .u32 p.n) := (cell_of_row _ _ _ _ _ _ HBX.out).trans rfl
    have k6_ : W.cell? ⟨q, 6, none⟩ = some (.bool p.self) := (cell_of_row _ _ _ _ _ _ HBX.out).trans rfl
    have k7_ : W.cell? ⟨q, 7, none⟩ = some (.string p.data) := (cell_of_row _ _ _ _ _ _ HBX.out).trans rfl
    have p0_ := H0.out.p0
    have c2_ := H0.out.c2
    have z2_ := H0.out.free 2
    rw [hW, hq] at k0_ k1_ k2_ k6_ k7_
    rw [hW] at p0_ c2_ z2_
    simp only [encP] at k0_ k1_ k2_ k6_ k7_ p0_ c2_ z2_
    show Calls Tryd.prog _ #[_, .agg #[.int .i64 p.kind, .int .i64 p.sq, .int .u32 p.n, .int .u32 p.ps, .int .u32 p.mr, .slice p.la p.ln p.lc, .bool p.self, .string p.data]] _ _
    go_enter Tryd.func86, Tryd.ntmps86
    go_wp2_with fail
    show Code.wp _ _ _ _ (w.alloc (.cells (encP p) 74))
    rw [← hW, ← hq]
    clear hW hq hg1 hg2
    clear k0_ k1_ k2_ k6_ k7_ p0_ c2_ z2_
    have k0_ : W.cell? ⟨q, 0, none⟩ = some (.int .i64 p.kind) := (cell_of_row _ _ _ _ _ _ HBX.out).trans rfl
    have k1_ : W.cell? ⟨q, 1, none⟩ = some (.int .i64 p.sq) := (cell_of_row _ _ _ _ _ _ HBX.out).trans rfl
    have k2_ : W.cell? ⟨q, 2, none⟩ = some (.int .u32 p.n) := (cell_of_row _ _ _ _ _ _ HBX.out).trans rfl
    have k6_ : W.cell? ⟨q, 6, none⟩ = some (.bool p.self) := (cell_of_row _ _ _ _ _ _ HBX.out).trans rfl
    have k7_ : W.cell? ⟨q, 7, none⟩ = some (.string p.data) := (cell_of_row _ _ _ _ _ _ HBX.out).trans rfl
    have p0_ := H0.out.p0
    have c2_ := H0.out.c2
    have z2_ := H0.out.free 2
    have c5_ := H0.out.c5
    have z5_ := H0.out.free 5
    go_still_tail 8, (by kernel_rfl)
    change wpList _ _ _ _ _ W.drew
    go_wp2_with fail
    have HS1 : Hid (Make (Plus X q) W (W.setCell ⟨g, 5, none⟩ (.int .u32 p.n)).drew g m (msC c p.n) o) := Lib.hid ((H0.out.setC 5 (.int .u32 p.n) (msC c p.n) rfl).drewN 1)
    clear c5_ z5_
    clear k0_ k1_ k2_ k6_ k7_ p0_ c2_ z2_
    generalize (W.setCell ⟨g, 5, none⟩ (.int .u32 p.n)).drew = W5 at *
    refine (tell_any (Plus X q) W _ g m (msC c p.n) o (sigK 7) HS1.out (by have := HL.out.1; show o.sigs.length ≤ 999; omega)).mono ?_; rintro e w1 ⟨⟨v1, rfl⟩, h1⟩
    have H1 := Lib.hid h1
    clear h1
    go_wp2_with fail
    refine (stop_any (Plus X q) W w1 g m (msC c p.n) _ 8 H1.out).mono ?_; rintro e w2 ⟨⟨v2, rfl⟩, h2⟩
    have H2 := Lib.hid h2
    clear h2
    go_wp2_with fail
    (try simp only [Exit.inBlock, Exit.then])
    first
      | refine bodyPost_end (results_none rfl _ _ _) rfl ?_
      | refine bodyPost_ret (results_none rfl _ _ _) rfl ?_
    exact ⟨⟨_, rfl⟩, H.out.back HBW.out H2.out⟩
  have hC : hearAnswerC c p = c := by unfold hearAnswerC; rw [if_neg (by omega), if_neg (by omega), if_neg (by omega), if_neg (by omega), if_neg (by omega)]
  rw [hC]
  clear hC
  have hO : hearAnswerO c o p = o := by unfold hearAnswerO; rw [if_neg (by omega), if_neg (by omega), if_neg (by omega), if_neg (by omega), if_neg (by omega)]
  rw [hO]
  clear hO
  rcases (show p.kind = 2 ∨ p.kind = 7 ∨ p.kind = 4 ∨ p.kind = 6 ∨ p.kind = 15 ∨ (p.kind ≠ 2 ∧ p.kind ≠ 7 ∧ p.kind ≠ 4 ∧ p.kind ≠ 6 ∧ p.kind ≠ 15) by omega) with k | k | k | k | k | k
  · have kk2 : (p.kind == 2) = true := by simp; omega
    have kk7 : (p.kind == 7) = false := by simp; omega
    have kk4 : (p.kind == 4) = false := by simp; omega
    have kk6 : (p.kind == 6) = false := by simp; omega
    have kk15 : (p.kind == 15) = false := by simp; omega
    have ss2 : (c.state == 2) = false := by simp; omega
    clear a1 a2 a3 a4 a5 k
    have k0_ : W.cell? ⟨q, 0, none⟩ = some (.int .i64 p.kind) := (cell_of_row _ _ _ _ _ _ HBX.out).trans rfl
    have k1_ : W.cell? ⟨q, 1, none⟩ = some (.int .i64 p.sq) := (cell_of_row _ _ _ _ _ _ HBX.out).trans rfl
    have k2_ : W.cell? ⟨q, 2, none⟩ = some (.int .u32 p.n) := (cell_of_row _ _ _ _ _ _ HBX.out).trans rfl
    have k6_ : W.cell? ⟨q, 6, none⟩ = some (.bool p.self) := (cell_of_row _ _ _ _ _ _ HBX.out).trans rfl
    have k7_ : W.cell? ⟨q, 7, none⟩ = some (.string p.data) := (cell_of_row _ _ _ _ _ _ HBX.out).trans rfl
    have p0_ := H0.out.p0
    have c2_ := H0.out.c2
    have z2_ := H0.out.free 2
    rw [hW, hq] at k0_ k1_ k2_ k6_ k7_
    rw [hW] at p0_ c2_ z2_
    simp only [encP] at k0_ k1_ k2_ k6_ k7_ p0_ c2_ z2_
    show Calls Tryd.prog _ #[_, .agg #[.int .i64 p.kind, .int .i64 p.sq, .int .u32 p.n, .int .u32 p.ps, .int .u32 p.mr, .slice p.la p.ln p.lc, .bool p.self, .string p.data]] _ _
    go_enter Tryd.func86, Tryd.ntmps86
    go_wp2_with fail
    (try simp only [Exit.inBlock, Exit.then])
    first
      | refine bodyPost_end (results_none rfl _ _ _) rfl ?_
      | refine bodyPost_ret (results_none rfl _ _ _) rfl ?_
    exact ⟨⟨_, rfl⟩, H.out.alloc _⟩
  · have kk2 : (p.kind == 2) = false := by simp; omega
    have kk7 : (p.kind == 7) = true := by simp; omega
    have kk4 : (p.kind == 4) = false := by simp; omega
    have kk6 : (p.kind == 6) = false := by simp; omega
    have kk15 : (p.kind == 15) = false := by simp; omega
    have ss2 : (c.state == 2) = false := by simp; omega
    have ss4 : (c.state == 4) = false := by simp; omega
    clear a1 a2 a3 a4 a5 k
    have k0_ : W.cell? ⟨q, 0, none⟩ = some (.int .i64 p.kind) := (cell_of_row _ _ _ _ _ _ HBX.out).trans rfl
    have k1_ : W.cell? ⟨q, 1, none⟩ = some (.int .i64 p.sq) := (cell_of_row _ _ _ _ _ _ HBX.out).trans rfl
    have k2_ : W.cell? ⟨q, 2, none⟩ = some (.int .u32 p.n) := (cell_of_row _ _ _ _ _ _ HBX.out).trans rfl
    have k6_ : W.cell? ⟨q, 6, none⟩ = some (.bool p.self) := (cell_of_row _ _ _ _ _ _ HBX.out).trans rfl
    have k7_ : W.cell? ⟨q, 7, none⟩ = some (.string p.data) := (cell_of_row _ _ _ _ _ _ HBX.out).trans rfl
    have p0_ := H0.out.p0
    have c2_ := H0.out.c2
    have z2_ := H0.out.free 2
    rw [hW, hq] at k0_ k1_ k2_ k6_ k7_
    rw [hW] at p0_ c2_ z2_
    simp only [encP] at k0_ k1_ k2_ k6_ k7_ p0_ c2_ z2_
    show Calls Tryd.prog _ #[_, .agg #[.int .i64 p.kind, .int .i64 p.sq, .int .u32 p.n, .int .u32 p.ps, .int .u32 p.mr, .slice p.la p.ln p.lc, .bool p.self, .string p.data]] _ _
    go_enter Tryd.func86, Tryd.ntmps86
    go_wp2_with fail
    (try simp only [Exit.inBlock, Exit.then])
    first
      | refine bodyPost_end (results_none rfl _ _ _) rfl ?_
      | refine bodyPost_ret (results_none rfl _ _ _) rfl ?_
    exact ⟨⟨_, rfl⟩, H.out.alloc _⟩
  · have kk2 : (p.kind == 2) = false := by simp; omega
    have kk7 : (p.kind == 7) = false := by simp; omega
    have kk4 : (p.kind == 4) = true := by simp; omega
    have kk6 : (p.kind == 6) = false := by simp; omega
    have kk15 : (p.kind == 15) = false := by simp; omega
    have ss4 : (c.state == 4) = false := by simp; omega
    clear a1 a2 a3 a4 a5 k
    have k0_ : W.cell? ⟨q, 0, none⟩ = some (.int .i64 p.kind) := (cell_of_row _ _ _ _ _ _ HBX.out).trans rfl
    have k1_ : W.cell? ⟨q, 1, none⟩ = some (.int .i64 p.sq) := (cell_of_row _ _ _ _ _ _ HBX.out).trans rfl
    have k2_ : W.cell? ⟨q, 2, none⟩ = some (.int .u32 p.n) := (cell_of_row _ _ _ _ _ _ HBX.out).trans rfl
    have k6_ : W.cell? ⟨q, 6, none⟩ = some (.bool p.self) := (cell_of_row _ _ _ _ _ _ HBX.out).trans rfl
    have k7_ : W.cell? ⟨q, 7, none⟩ = some (.string p.data) := (cell_of_row _ _ _ _ _ _ HBX.out).trans rfl
    have p0_ := H0.out.p0
    have c2_ := H0.out.c2
    have z2_ := H0.out.free 2
    rw [hW, hq] at k0_ k1_ k2_ k6_ k7_
    rw [hW] at p0_ c2_ z2_
    simp only [encP] at k0_ k1_ k2_ k6_ k7_ p0_ c2_ z2_
    show Calls Tryd.prog _ #[_, .agg #[.int .i64 p.kind, .int .i64 p.sq, .int .u32 p.n, .int .u32 p.ps, .int .u32 p.mr, .slice p.la p.ln p.lc, .bool p.self, .string p.data]] _ _
    go_enter Tryd.func86, Tryd.ntmps86
    go_wp2_with fail
    (try simp only [Exit.inBlock, Exit.then])
    first
      | refine bodyPost_end (results_none rfl _ _ _) rfl ?_
      | refine bodyPost_ret (results_none rfl _ _ _) rfl ?_
    exact ⟨⟨_, rfl⟩, H.out.alloc _⟩
  · have kk2 : (p.kind == 2) = false := by simp; omega
    have kk7 : (p.kind == 7) = false := by simp; omega
    have kk4 : (p.kind == 4) = false := by simp; omega
    have kk6 : (p.kind == 6) = true := by simp; omega
    have kk15 : (p.kind == 15) = false := by simp; omega
    have ss5 : (c.state == 5) = false := by simp; omega
    clear a1 a2 a3 a4 a5 k
    have k0_ : W.cell? ⟨q, 0, none⟩ = some (.int .i64 p.kind) := (cell_of_row _ _ _ _ _ _ HBX.out).trans rfl
    have k1_ : W.cell? ⟨q, 1, none⟩ = some (.int .i64 p.sq) := (cell_of_row _ _ _ _ _ _ HBX.out).trans rfl
    have k2_ : W.cell? ⟨q, 2, none⟩ = some (.int .u32 p.n) := (cell_of_row _ _ _ _ _ _ HBX.out).trans rfl
    have k6_ : W.cell? ⟨q, 6, none⟩ = some (.bool p.self) := (cell_of_row _ _ _ _ _ _ HBX.out).trans rfl
    have k7_ : W.cell? ⟨q, 7, none⟩ = some (.string p.data) := (cell_of_row _ _ _ _ _ _ HBX.out).trans rfl
    have p0_ := H0.out.p0
    have c2_ := H0.out.c2
    have z2_ := H0.out.free 2
    rw [hW, hq] at k0_ k1_ k2_ k6_ k7_
    rw [hW] at p0_ c2_ z2_
    simp only [encP] at k0_ k1_ k2_ k6_ k7_ p0_ c2_ z2_
    show Calls Tryd.prog _ #[_, .agg #[.int .i64 p.kind, .int .i64 p.sq, .int .u32 p.n, .int .u32 p.ps, .int .u32 p.mr, .slice p.la p.ln p.lc, .bool p.self, .string p.data]] _ _
    go_enter Tryd.func86, Tryd.ntmps86
    go_wp2_with fail
    (try simp only [Exit.inBlock, Exit.then])
    first
      | refine bodyPost_end (results_none rfl _ _ _) rfl ?_
      | refine bodyPost_ret (results_none rfl _ _ _) rfl ?_
    exact ⟨⟨_, rfl⟩, H.out.alloc _⟩
  · have kk2 : (p.kind == 2) = false := by simp; omega
    have kk7 : (p.kind == 7) = false := by simp; omega
    have kk4 : (p.kind == 4) = false := by simp; omega
    have kk6 : (p.kind == 6) = false := by simp; omega
    have kk15 : (p.kind == 15) = true := by simp; omega
    have ss7 : (c.state == 7) = false := by simp; omega
    clear a1 a2 a3 a4 a5 k
    have k0_ : W.cell? ⟨q, 0, none⟩ = some (.int .i64 p.kind) := (cell_of_row _ _ _ _ _ _ HBX.out).trans rfl
    have k1_ : W.cell? ⟨q, 1, none⟩ = some (.int .i64 p.sq) := (cell_of_row _ _ _ _ _ _ HBX.out).trans rfl
    have k2_ : W.cell? ⟨q, 2, none⟩ = some (.int .u32 p.n) := (cell_of_row _ _ _ _ _ _ HBX.out).trans rfl
    have k6_ : W.cell? ⟨q, 6, none⟩ = some (.bool p.self) := (cell_of_row _ _ _ _ _ _ HBX.out).trans rfl
    have k7_ : W.cell? ⟨q, 7, none⟩ = some (.string p.data) := (cell_of_row _ _ _ _ _ _ HBX.out).trans rfl
    have p0_ := H0.out.p0
    have c2_ := H0.out.c2
    have z2_ := H0.out.free 2
    rw [hW, hq] at k0_ k1_ k2_ k6_ k7_
    rw [hW] at p0_ c2_ z2_
    simp only [encP] at k0_ k1_ k2_ k6_ k7_ p0_ c2_ z2_
    show Calls Tryd.prog _ #[_, .agg #[.int .i64 p.kind, .int .i64 p.sq, .int .u32 p.n, .int .u32 p.ps, .int .u32 p.mr, .slice p.la p.ln p.lc, .bool p.self, .string p.data]] _ _
    go_enter Tryd.func86, Tryd.ntmps86
    go_wp2_with fail
    (try simp only [Exit.inBlock, Exit.then])
    first
      | refine bodyPost_end (results_none rfl _ _ _) rfl ?_
      | refine bodyPost_ret (results_none rfl _ _ _) rfl ?_
    exact ⟨⟨_, rfl⟩, H.out.alloc _⟩
  · have kk2 : (p.kind == 2) = false := by simp; omega
    have kk7 : (p.kind == 7) = false := by simp; omega
    have kk4 : (p.kind == 4) = false := by simp; omega
    have kk6 : (p.kind == 6) = false := by simp; omega
    have kk15 : (p.kind == 15) = false := by simp; omega
    clear a1 a2 a3 a4 a5 k
    have k0_ : W.cell? ⟨q, 0, none⟩ = some (.int .i64 p.kind) := (cell_of_row _ _ _ _ _ _ HBX.out).trans rfl
    have k1_ : W.cell? ⟨q, 1, none⟩ = some (.int .i64 p.sq) := (cell_of_row _ _ _ _ _ _ HBX.out).trans rfl
    have k2_ : W.cell? ⟨q, 2, none⟩ = some (.int .u32 p.n) := (cell_of_row _ _ _ _ _ _ HBX.out).trans rfl
    have k6_ : W.cell? ⟨q, 6, none⟩ = some (.bool p.self) := (cell_of_row _ _ _ _ _ _ HBX.out).trans rfl
    have k7_ : W.cell? ⟨q, 7, none⟩ = some (.string p.data) := (cell_of_row _ _ _ _ _ _ HBX.out).trans rfl
    have p0_ := H0.out.p0
    have c2_ := H0.out.c2
    have z2_ := H0.out.free 2
    rw [hW, hq] at k0_ k1_ k2_ k6_ k7_
    rw [hW] at p0_ c2_ z2_
    simp only [encP] at k0_ k1_ k2_ k6_ k7_ p0_ c2_ z2_
    show Calls Tryd.prog _ #[_, .agg #[.int .i64 p.kind, .int .i64 p.sq, .int .u32 p.n, .int .u32 p.ps, .int .u32 p.mr, .slice p.la p.ln p.lc, .bool p.self, .string p.data]] _ _
    go_enter Tryd.func86, Tryd.ntmps86
    go_wp2_with fail
    (try simp only [Exit.inBlock, Exit.then])
    first
      | refine bodyPost_end (results_none rfl _ _ _) rfl ?_
      | refine bodyPost_ret (results_none rfl _ _ _) rfl ?_
    exact ⟨⟨_, rfl⟩, H.out.alloc _⟩
end
end Go.Proofs.YtkphompjahcjiaaDoor.Conn
