/-
  A connection: what it hears.
-/
import Derived.Test.YtkphompjahcjiaaDoorConn7
namespace Go.Proofs.YtkphompjahcjiaaDoor.Conn
open Go.RowKit

/-- a unit as it comes -/
structure P where
  kind : Int
  sq : Int
  n : Int
  ps : Int
  mr : Int
  la : Option Addr
  ln : Nat
  lc : Nat
  self : Bool
  data : ByteArray
def encP (p : P) : Array Value := #[.int .i64 p.kind, .int .i64 p.sq, .int .u32 p.n, .int .u32 p.ps, .int .u32 p.mr, .slice p.la p.ln p.lc, .bool p.self, .string p.data]
theorem Make.boxed {X : Nat → Prop} {W w : World} {g m q : Nat} {c : C} {o : O} {p : P} (h : Make (Plus X q) W w g m c o) (hb : W.heap[q]? = some (.cells (encP p) 74 (0, 0))) (hq : q ≠ g) : w.heap[q]? = some (.cells (encP p) 74 (0, 0)) :=
  (h.only.block q (.inr rfl) hq).trans hb
def hearEndC (c : C) : C := if c.state = 3 ∨ (5 ≤ c.state ∧ c.state ≤ 10) then toC c 1 else if c.state = 4 then toC c 1 else c
def hearEndO (c : C) (o : O) (p : P) : O :=
  if c.state = 3 ∨ (5 ≤ c.state ∧ c.state ≤ 10) then stopO (releasedO (sendO c o 4 p.sq) p.self p.data) else if c.state = 4 then stopO (tellO (sendO c o 4 p.sq) ⟨4, noD, false, 0, 0⟩) else sendO c o 4 p.sq

section
variable (X : Nat → Prop) (w0 w : World) (g m : Nat) (c : C) (o : O) (p : P)
set_option maxRecDepth 100000 in
set_option maxHeartbeats 4000000 in
theorem hearEnd_any (h : Make X w0 w g m c o) (hl : Few o 900) :
    Calls Tryd.prog 85 #[.pointer (some ⟨m, 0, none⟩), .agg (encP p)] w fun e w' => (∃ v, e = .returned v) ∧ Make X w0 w' g m (hearEndC c) (hearEndO c o p) := by
  obtain ⟨W, hW⟩ : ∃ W, W = w.alloc (.cells (encP p) 74) := ⟨_, rfl⟩
  obtain ⟨q, hq⟩ : ∃ q, q = w.heap.size := ⟨_, rfl⟩
  have HBW : Hid (Below w.heap.size w W) := Lib.hid (by rw [hW]; exact (Below.refl _ _).alloc (Nat.le_refl _) _)
  have H := Lib.hid h
  have HL := Lib.hid hl
  have H0 : Hid (Make (Plus X q) W W g m c o) := Lib.hid (by rw [hW, hq]; exact h.held _)
  have HGQ : Hid (q ≠ g) := Lib.hid (by rw [hq]; have := h.glt; omega)
  have HBX : Hid (W.heap[q]? = some (.cells (encP p) 74 (0, 0))) := Lib.hid (by rw [hW, hq]; exact heap_alloc_new w _)
  clear h hl
  unfold hearEndC hearEndO
  by_cases h3 : c.state = 3
  · rw [if_pos (.inl h3), if_pos (.inl h3)]
    have HS := Lib.hid h3
    clear h3
    have k0_ : W.cell? ⟨q, 0, none⟩ = some (.int .i64 p.kind) := (cell_of_row _ _ _ _ _ _ HBX.out).trans rfl
    have k1_ : W.cell? ⟨q, 1, none⟩ = some (.int .i64 p.sq) := (cell_of_row _ _ _ _ _ _ HBX.out).trans rfl
    have k2_ : W.cell? ⟨q, 2, none⟩ = some (.int .u32 p.n) := (cell_of_row _ _ _ _ _ _ HBX.out).trans rfl
    have k6_ : W.cell? ⟨q, 6, none⟩ = some (.bool p.self) := (cell_of_row _ _ _ _ _ _ HBX.out).trans rfl
    have k7_ : W.cell? ⟨q, 7, none⟩ = some (.string p.data) := (cell_of_row _ _ _ _ _ _ HBX.out).trans rfl
    have p0_ := H0.out.p0
    have c2_ := H0.out.c2
    have z2_ := H0.out.free 2
    rw [hW, hq] at k0_ k1_ k2_ k6_ k7_
    rw [hW] at p0_ c2_ z2_
    simp only [encP] at k0_ k1_ k2_ k6_ k7_ p0_ c2_ z2_
    show Calls Tryd.prog _ #[_, .agg #[.int .i64 p.kind, .int .i64 p.sq, .int .u32 p.n, .int .u32 p.ps, .int .u32 p.mr, .slice p.la p.ln p.lc, .bool p.self, .string p.data]] _ _
    go_enter Tryd.func85, Tryd.ntmps85
    go_wp2_with fail
    show Calls Tryd.prog _ _ (w.alloc (.cells (encP p) 74)) _
    rw [← hW, ← hq]
    clear hW hq
    clear k0_ k1_ k2_ k6_ k7_ p0_ c2_ z2_
    refine (send_any (Plus X q) W W g m c o 4 p.sq H0.out (HL.out.more (by decide))).mono ?_; rintro e w1 ⟨⟨v1, rfl⟩, h1⟩
    have H1 := Lib.hid h1
    clear h1
    have hbx := H1.out.boxed HBX.out HGQ.out
    have k0_ : w1.cell? ⟨q, 0, none⟩ = some (.int .i64 p.kind) := (cell_of_row _ _ _ _ _ _ hbx).trans rfl
    have k1_ : w1.cell? ⟨q, 1, none⟩ = some (.int .i64 p.sq) := (cell_of_row _ _ _ _ _ _ hbx).trans rfl
    have k2_ : w1.cell? ⟨q, 2, none⟩ = some (.int .u32 p.n) := (cell_of_row _ _ _ _ _ _ hbx).trans rfl
    have k6_ : w1.cell? ⟨q, 6, none⟩ = some (.bool p.self) := (cell_of_row _ _ _ _ _ _ hbx).trans rfl
    have k7_ : w1.cell? ⟨q, 7, none⟩ = some (.string p.data) := (cell_of_row _ _ _ _ _ _ hbx).trans rfl
    clear hbx
    have p0_ := H1.out.p0
    have c2_ := H1.out.c2
    have z2_ := H1.out.free 2
    rw [HS.out] at c2_
    go_wp2_with fail
    clear k0_ k1_ k2_ k6_ k7_ p0_ c2_ z2_
    refine (released_any (Plus X q) W w1 g m c _ p.self p.data H1.out ((HL.out.put _ (by decide : 900 + 1 ≤ 901)).more (by decide))).mono ?_; rintro e w2 ⟨⟨v2, rfl⟩, h2⟩
    have H2 := Lib.hid h2
    clear h2
    have hbx := H2.out.boxed HBX.out HGQ.out
    have k0_ : w2.cell? ⟨q, 0, none⟩ = some (.int .i64 p.kind) := (cell_of_row _ _ _ _ _ _ hbx).trans rfl
    have k1_ : w2.cell? ⟨q, 1, none⟩ = some (.int .i64 p.sq) := (cell_of_row _ _ _ _ _ _ hbx).trans rfl
    have k2_ : w2.cell? ⟨q, 2, none⟩ = some (.int .u32 p.n) := (cell_of_row _ _ _ _ _ _ hbx).trans rfl
    have k6_ : w2.cell? ⟨q, 6, none⟩ = some (.bool p.self) := (cell_of_row _ _ _ _ _ _ hbx).trans rfl
    have k7_ : w2.cell? ⟨q, 7, none⟩ = some (.string p.data) := (cell_of_row _ _ _ _ _ _ hbx).trans rfl
    clear hbx
    have p0_ := H2.out.p0
    have c2_ := H2.out.c2
    have z2_ := H2.out.free 2
    go_wp2_with fail
    clear k0_ k1_ k2_ k6_ k7_ p0_ c2_ z2_
    refine (stop_any (Plus X q) W w2 g m c _ 1 H2.out).mono ?_; rintro e w3 ⟨⟨v3, rfl⟩, h3⟩
    have H3 := Lib.hid h3
    clear h3
    have hbx := H3.out.boxed HBX.out HGQ.out
    have k0_ : w3.cell? ⟨q, 0, none⟩ = some (.int .i64 p.kind) := (cell_of_row _ _ _ _ _ _ hbx).trans rfl
    have k1_ : w3.cell? ⟨q, 1, none⟩ = some (.int .i64 p.sq) := (cell_of_row _ _ _ _ _ _ hbx).trans rfl
    have k2_ : w3.cell? ⟨q, 2, none⟩ = some (.int .u32 p.n) := (cell_of_row _ _ _ _ _ _ hbx).trans rfl
    have k6_ : w3.cell? ⟨q, 6, none⟩ = some (.bool p.self) := (cell_of_row _ _ _ _ _ _ hbx).trans rfl
    have k7_ : w3.cell? ⟨q, 7, none⟩ = some (.string p.data) := (cell_of_row _ _ _ _ _ _ hbx).trans rfl
    clear hbx
    have p0_ := H3.out.p0
    have c2_ := H3.out.c2
    have z2_ := H3.out.free 2
    go_wp2_with fail
    (try simp only [Exit.inBlock, Exit.then])
    first
      | refine bodyPost_end (results_none rfl _ _ _) rfl ?_
      | refine bodyPost_ret (results_none rfl _ _ _) rfl ?_
    exact ⟨⟨_, rfl⟩, H.out.back HBW.out H3.out⟩
  · by_cases h5 : 5 ≤ c.state ∧ c.state ≤ 10
    · rw [if_pos (.inr h5), if_pos (.inr h5)]
      have hd5 : decide (5 ≤ c.state ∧ c.state ≤ 10) = true := decide_eq_true h5
      have e3 : (c.state == 3) = false := by simpa using h3
      clear h3 h5
      have k0_ : W.cell? ⟨q, 0, none⟩ = some (.int .i64 p.kind) := (cell_of_row _ _ _ _ _ _ HBX.out).trans rfl
      have k1_ : W.cell? ⟨q, 1, none⟩ = some (.int .i64 p.sq) := (cell_of_row _ _ _ _ _ _ HBX.out).trans rfl
      have k2_ : W.cell? ⟨q, 2, none⟩ = some (.int .u32 p.n) := (cell_of_row _ _ _ _ _ _ HBX.out).trans rfl
      have k6_ : W.cell? ⟨q, 6, none⟩ = some (.bool p.self) := (cell_of_row _ _ _ _ _ _ HBX.out).trans rfl
      have k7_ : W.cell? ⟨q, 7, none⟩ = some (.string p.data) := (cell_of_row _ _ _ _ _ _ HBX.out).trans rfl
      have p0_ := H0.out.p0
      have c2_ := H0.out.c2
      have z2_ := H0.out.free 2
      rw [hW, hq] at k0_ k1_ k2_ k6_ k7_
      rw [hW] at p0_ c2_ z2_
      simp only [encP] at k0_ k1_ k2_ k6_ k7_ p0_ c2_ z2_
      show Calls Tryd.prog _ #[_, .agg #[.int .i64 p.kind, .int .i64 p.sq, .int .u32 p.n, .int .u32 p.ps, .int .u32 p.mr, .slice p.la p.ln p.lc, .bool p.self, .string p.data]] _ _
      go_enter Tryd.func85, Tryd.ntmps85
      go_wp2_with fail
      show Calls Tryd.prog _ _ (w.alloc (.cells (encP p) 74)) _
      rw [← hW, ← hq]
      clear hW hq
      clear k0_ k1_ k2_ k6_ k7_ p0_ c2_ z2_
      refine (send_any (Plus X q) W W g m c o 4 p.sq H0.out (HL.out.more (by decide))).mono ?_; rintro e w1 ⟨⟨v1, rfl⟩, h1⟩
      have H1 := Lib.hid h1
      clear h1
      have hbx := H1.out.boxed HBX.out HGQ.out
      have k0_ : w1.cell? ⟨q, 0, none⟩ = some (.int .i64 p.kind) := (cell_of_row _ _ _ _ _ _ hbx).trans rfl
      have k1_ : w1.cell? ⟨q, 1, none⟩ = some (.int .i64 p.sq) := (cell_of_row _ _ _ _ _ _ hbx).trans rfl
      have k2_ : w1.cell? ⟨q, 2, none⟩ = some (.int .u32 p.n) := (cell_of_row _ _ _ _ _ _ hbx).trans rfl
      have k6_ : w1.cell? ⟨q, 6, none⟩ = some (.bool p.self) := (cell_of_row _ _ _ _ _ _ hbx).trans rfl
      have k7_ : w1.cell? ⟨q, 7, none⟩ = some (.string p.data) := (cell_of_row _ _ _ _ _ _ hbx).trans rfl
      clear hbx
      have p0_ := H1.out.p0
      have c2_ := H1.out.c2
      have z2_ := H1.out.free 2
      go_wp2_with fail
      refine (within_any (Plus X q) W w1 g m c _ 5 10 H1.out).mono ?_; rintro e w' ⟨rfl, hww⟩
      obtain rfl : w1 = w' := hww.symm
      rw [hd5]
      go_wp2_with fail
      clear k0_ k1_ k2_ k6_ k7_ p0_ c2_ z2_
      refine (released_any (Plus X q) W w1 g m c _ p.self p.data H1.out ((HL.out.put _ (by decide : 900 + 1 ≤ 901)).more (by decide))).mono ?_; rintro e w2 ⟨⟨v2, rfl⟩, h2⟩
      have H2 := Lib.hid h2
      clear h2
      have hbx := H2.out.boxed HBX.out HGQ.out
      have k0_ : w2.cell? ⟨q, 0, none⟩ = some (.int .i64 p.kind) := (cell_of_row _ _ _ _ _ _ hbx).trans rfl
      have k1_ : w2.cell? ⟨q, 1, none⟩ = some (.int .i64 p.sq) := (cell_of_row _ _ _ _ _ _ hbx).trans rfl
      have k2_ : w2.cell? ⟨q, 2, none⟩ = some (.int .u32 p.n) := (cell_of_row _ _ _ _ _ _ hbx).trans rfl
      have k6_ : w2.cell? ⟨q, 6, none⟩ = some (.bool p.self) := (cell_of_row _ _ _ _ _ _ hbx).trans rfl
      have k7_ : w2.cell? ⟨q, 7, none⟩ = some (.string p.data) := (cell_of_row _ _ _ _ _ _ hbx).trans rfl
      clear hbx
      have p0_ := H2.out.p0
      have c2_ := H2.out.c2
      have z2_ := H2.out.free 2
      go_wp2_with fail
      clear k0_ k1_ k2_ k6_ k7_ p0_ c2_ z2_
      refine (stop_any (Plus X q) W w2 g m c _ 1 H2.out).mono ?_; rintro e w3 ⟨⟨v3, rfl⟩, h3⟩
      have H3 := Lib.hid h3
      clear h3
      have hbx := H3.out.boxed HBX.out HGQ.out
      have k0_ : w3.cell? ⟨q, 0, none⟩ = some (.int .i64 p.kind) := (cell_of_row _ _ _ _ _ _ hbx).trans rfl
      have k1_ : w3.cell? ⟨q, 1, none⟩ = some (.int .i64 p.sq) := (cell_of_row _ _ _ _ _ _ hbx).trans rfl
      have k2_ : w3.cell? ⟨q, 2, none⟩ = some (.int .u32 p.n) := (cell_of_row _ _ _ _ _ _ hbx).trans rfl
      have k6_ : w3.cell? ⟨q, 6, none⟩ = some (.bool p.self) := (cell_of_row _ _ _ _ _ _ hbx).trans rfl
      have k7_ : w3.cell? ⟨q, 7, none⟩ = some (.string p.data) := (cell_of_row _ _ _ _ _ _ hbx).trans rfl
      clear hbx
      have p0_ := H3.out.p0
      have c2_ := H3.out.c2
      have z2_ := H3.out.free 2
      go_wp2_with fail
      (try simp only [Exit.inBlock, Exit.then])
      first
        | refine bodyPost_end (results_none rfl _ _ _) rfl ?_
        | refine bodyPost_ret (results_none rfl _ _ _) rfl ?_
      exact ⟨⟨_, rfl⟩, H.out.back HBW.out H3.out⟩
    · have hno : ¬ (c.state = 3 ∨ (5 ≤ c.state ∧ c.state ≤ 10)) := (by rintro (h | h); exact h3 h; exact h5 h)
      rw [if_neg hno, if_neg hno]
      have hd5 : decide (5 ≤ c.state ∧ c.state ≤ 10) = false := decide_eq_false h5
      have e3 : (c.state == 3) = false := by simpa using h3
      by_cases h4 : c.state = 4
      · rw [if_pos h4, if_pos h4]
        have HS := Lib.hid h4
        clear h3 h5 h4
        have k0_ : W.cell? ⟨q, 0, none⟩ = some (.int .i64 p.kind) := (cell_of_row _ _ _ _ _ _ HBX.out).trans rfl
        have k1_ : W.cell? ⟨q, 1, none⟩ = some (.int .i64 p.sq) := (cell_of_row _ _ _ _ _ _ HBX.out).trans rfl
        have k2_ : W.cell? ⟨q, 2, none⟩ = some (.int .u32 p.n) := (cell_of_row _ _ _ _ _ _ HBX.out).trans rfl
        have k6_ : W.cell? ⟨q, 6, none⟩ = some (.bool p.self) := (cell_of_row _ _ _ _ _ _ HBX.out).trans rfl
        have k7_ : W.cell? ⟨q, 7, none⟩ = some (.string p.data) := (cell_of_row _ _ _ _ _ _ HBX.out).trans rfl
        have p0_ := H0.out.p0
        have c2_ := H0.out.c2
        have z2_ := H0.out.free 2
        rw [hW, hq] at k0_ k1_ k2_ k6_ k7_
        rw [hW] at p0_ c2_ z2_
        simp only [encP] at k0_ k1_ k2_ k6_ k7_ p0_ c2_ z2_
        show Calls Tryd.prog _ #[_, .agg #[.int .i64 p.kind, .int .i64 p.sq, .int .u32 p.n, .int .u32 p.ps, .int .u32 p.mr, .slice p.la p.ln p.lc, .bool p.self, .string p.data]] _ _
        go_enter Tryd.func85, Tryd.ntmps85
        go_wp2_with fail
        show Calls Tryd.prog _ _ (w.alloc (.cells (encP p) 74)) _
        rw [← hW, ← hq]
        clear hW hq
        clear k0_ k1_ k2_ k6_ k7_ p0_ c2_ z2_
        refine (send_any (Plus X q) W W g m c o 4 p.sq H0.out (HL.out.more (by decide))).mono ?_; rintro e w1 ⟨⟨v1, rfl⟩, h1⟩
        have H1 := Lib.hid h1
        clear h1
        have hbx := H1.out.boxed HBX.out HGQ.out
        have k0_ : w1.cell? ⟨q, 0, none⟩ = some (.int .i64 p.kind) := (cell_of_row _ _ _ _ _ _ hbx).trans rfl
        have k1_ : w1.cell? ⟨q, 1, none⟩ = some (.int .i64 p.sq) := (cell_of_row _ _ _ _ _ _ hbx).trans rfl
        have k2_ : w1.cell? ⟨q, 2, none⟩ = some (.int .u32 p.n) := (cell_of_row _ _ _ _ _ _ hbx).trans rfl
        have k6_ : w1.cell? ⟨q, 6, none⟩ = some (.bool p.self) := (cell_of_row _ _ _ _ _ _ hbx).trans rfl
        have k7_ : w1.cell? ⟨q, 7, none⟩ = some (.string p.data) := (cell_of_row _ _ _ _ _ _ hbx).trans rfl
        clear hbx
        have p0_ := H1.out.p0
        have c2_ := H1.out.c2
        have z2_ := H1.out.free 2
        go_wp2_with fail
        refine (within_any (Plus X q) W w1 g m c _ 5 10 H1.out).mono ?_; rintro e w' ⟨rfl, hww⟩
        obtain rfl : w1 = w' := hww.symm
        rw [hd5]
        rw [HS.out] at c2_
        go_wp2_with fail
        clear k0_ k1_ k2_ k6_ k7_ p0_ c2_ z2_
        refine (left_any (Plus X q) W w1 g m c _ H1.out ((HL.out.put _ (by decide : 900 + 1 ≤ 901)).more (by decide))).mono ?_; rintro e w2 ⟨⟨v2, rfl⟩, h2⟩
        have H2 := Lib.hid h2
        clear h2
        have hbx := H2.out.boxed HBX.out HGQ.out
        have k0_ : w2.cell? ⟨q, 0, none⟩ = some (.int .i64 p.kind) := (cell_of_row _ _ _ _ _ _ hbx).trans rfl
        have k1_ : w2.cell? ⟨q, 1, none⟩ = some (.int .i64 p.sq) := (cell_of_row _ _ _ _ _ _ hbx).trans rfl
        have k2_ : w2.cell? ⟨q, 2, none⟩ = some (.int .u32 p.n) := (cell_of_row _ _ _ _ _ _ hbx).trans rfl
        have k6_ : w2.cell? ⟨q, 6, none⟩ = some (.bool p.self) := (cell_of_row _ _ _ _ _ _ hbx).trans rfl
        have k7_ : w2.cell? ⟨q, 7, none⟩ = some (.string p.data) := (cell_of_row _ _ _ _ _ _ hbx).trans rfl
        clear hbx
        have p0_ := H2.out.p0
        have c2_ := H2.out.c2
        have z2_ := H2.out.free 2
        go_wp2_with fail
        (try simp only [Exit.inBlock, Exit.then])
        first
          | refine bodyPost_end (results_none rfl _ _ _) rfl ?_
          | refine bodyPost_ret (results_none rfl _ _ _) rfl ?_
        exact ⟨⟨_, rfl⟩, H.out.back HBW.out H2.out⟩
      · rw [if_neg h4, if_neg h4]
        have e4 : (c.state == 4) = false := by simpa using h4
        clear h3 h5 h4
        have k0_ : W.cell? ⟨q, 0, none⟩ = some (.int .i64 p.kind) := (cell_of_row _ _ _ _ _ _ HBX.out).trans rfl
        have k1_ : W.cell? ⟨q, 1, none⟩ = some (.int .i64 p.sq) := (cell_of_row _ _ _ _ _ _ HBX.out).trans rfl
        have k2_ : W.cell? ⟨q, 2, none⟩ = some (.int .u32 p.n) := (cell_of_row _ _ _ _ _ _ HBX.out).trans rfl
        have k6_ : W.cell? ⟨q, 6, none⟩ = some (.bool p.self) := (cell_of_row _ _ _ _ _ _ HBX.out).trans rfl
        have k7_ : W.cell? ⟨q, 7, none⟩ = some (.string p.data) := (cell_of_row _ _ _ _ _ _ HBX.out).trans rfl
        have p0_ := H0.out.p0
        have c2_ := H0.out.c2
        have z2_ := H0.out.free 2
        rw [hW, hq] at k0_ k1_ k2_ k6_ k7_
        rw [hW] at p0_ c2_ z2_
        simp only [encP] at k0_ k1_ k2_ k6_ k7_ p0_ c2_ z2_
        show Calls Tryd.prog _ #[_, .agg #[.int .i64 p.kind, .int .i64 p.sq, .int .u32 p.n, .int .u32 p.ps, .int .u32 p.mr, .slice p.la p.ln p.lc, .bool p.self, .string p.data]] _ _
        go_enter Tryd.func85, Tryd.ntmps85
        go_wp2_with fail
        show Calls Tryd.prog _ _ (w.alloc (.cells (encP p) 74)) _
        rw [← hW, ← hq]
        clear hW hq
        clear k0_ k1_ k2_ k6_ k7_ p0_ c2_ z2_
        refine (send_any (Plus X q) W W g m c o 4 p.sq H0.out (HL.out.more (by decide))).mono ?_; rintro e w1 ⟨⟨v1, rfl⟩, h1⟩
        have H1 := Lib.hid h1
        clear h1
        have hbx := H1.out.boxed HBX.out HGQ.out
        have k0_ : w1.cell? ⟨q, 0, none⟩ = some (.int .i64 p.kind) := (cell_of_row _ _ _ _ _ _ hbx).trans rfl
        have k1_ : w1.cell? ⟨q, 1, none⟩ = some (.int .i64 p.sq) := (cell_of_row _ _ _ _ _ _ hbx).trans rfl
        have k2_ : w1.cell? ⟨q, 2, none⟩ = some (.int .u32 p.n) := (cell_of_row _ _ _ _ _ _ hbx).trans rfl
        have k6_ : w1.cell? ⟨q, 6, none⟩ = some (.bool p.self) := (cell_of_row _ _ _ _ _ _ hbx).trans rfl
        have k7_ : w1.cell? ⟨q, 7, none⟩ = some (.string p.data) := (cell_of_row _ _ _ _ _ _ hbx).trans rfl
        clear hbx
        have p0_ := H1.out.p0
        have c2_ := H1.out.c2
        have z2_ := H1.out.free 2
        go_wp2_with fail
        refine (within_any (Plus X q) W w1 g m c _ 5 10 H1.out).mono ?_; rintro e w' ⟨rfl, hww⟩
        obtain rfl : w1 = w' := hww.symm
        rw [hd5]
        go_wp2_with fail
        (try simp only [Exit.inBlock, Exit.then])
        first
          | refine bodyPost_end (results_none rfl _ _ _) rfl ?_
          | refine bodyPost_ret (results_none rfl _ _ _) rfl ?_
        exact ⟨⟨_, rfl⟩, H.out.back HBW.out H1.out⟩
end
end Go.Proofs.YtkphompjahcjiaaDoor.Conn
