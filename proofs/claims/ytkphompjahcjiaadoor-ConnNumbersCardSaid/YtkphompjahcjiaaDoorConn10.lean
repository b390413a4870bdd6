/-
  A connection: what it hears of beginnings, and of answers.
-/
import Derived.Test.YtkphompjahcjiaaDoorConn9
import Derived.StillTailTactics
namespace Go.Proofs.YtkphompjahcjiaaDoor.Conn
open Go.RowKit

def sigK (k : Int) : S := ⟨k, noD, false, 0, 0⟩
def sigD (k : Int) (d : ByteArray) : S := ⟨k, d, false, 0, 0⟩
def hearERC (c : C) : C := if c.state = 7 then toC c 8 else if c.state = 8 then c else if c.state = 10 then toC c 9 else c
def hearERO (c : C) (o : O) (p : P) : O :=
  if c.state = 7 then stopO (tellO (sendO c o 15 p.sq) (sigK 7)) else if c.state = 8 then sendO c o 15 p.sq else if c.state = 10 then tellO o (sigK 7) else o
def hearBGNC (c : C) : C := if c.state = 2 then toC c 10 else toC c 3
def hearBGNO (c : C) (o : O) (p : P) : O :=
  if c.state = 2 then readyO c (tellO (sendO c o 2 p.sq) (sigK 2)) else if c.state = 1 then tellO o (sigD 1 p.data) else if c.state = 4 then tellO (stopO (tellO o (sigK 4))) (sigD 1 p.data) else tellO (stopO (releasedO o false noD)) (sigD 1 p.data)
def msC (c : C) (n : Int) : C := { c with ms := n }
def hearAnswerC (c : C) (p : P) : C :=
  if p.kind = 2 ∧ c.state = 2 then toC (msC c p.n) 10 else if p.kind = 7 ∧ c.state = 2 then toC c 1 else if (p.kind = 7 ∨ p.kind = 4) ∧ c.state = 4 then toC c 1
  else if p.kind = 6 ∧ c.state = 5 then toC (msC c p.n) 10 else if p.kind = 15 ∧ c.state = 7 then toC (msC c p.n) 8 else c
def hearAnswerO (c : C) (o : O) (p : P) : O :=
  if p.kind = 2 ∧ c.state = 2 then readyO (msC c p.n) (tellO o (sigK 2)) else if p.kind = 7 ∧ c.state = 2 then stopO (releasedO o false p.data) else if (p.kind = 7 ∨ p.kind = 4) ∧ c.state = 4 then stopO (tellO o (sigK 4))
  else if p.kind = 6 ∧ c.state = 5 then readyO (msC c p.n) (tellO o (sigK 6)) else if p.kind = 15 ∧ c.state = 7 then stopO (tellO o (sigK 7)) else o

section
variable (X : Nat → Prop) (w0 w : World) (g m : Nat) (c : C) (o : O) (p : P)
set_option maxRecDepth 100000 in
set_option maxHeartbeats 4000000 in
theorem hearER_any (h : Make X w0 w g m c o) (hl : Few o 900) :
    Calls Tryd.prog 94 #[.pointer (some ⟨m, 0, none⟩), .agg (encP p)] w fun e w' => (∃ v, e = .returned v) ∧ Make X w0 w' g m (hearERC c) (hearERO c o p) := by
  obtain ⟨W, hW⟩ : ∃ W, W = w.alloc (.cells (encP p) 74) := ⟨_, rfl⟩
  obtain ⟨q, hq⟩ : ∃ q, q = w.heap.size := ⟨_, rfl⟩
  have HBW : Hid (Below w.heap.size w W) := Lib.hid (by rw [hW]; exact (Below.refl _ _).alloc (Nat.le_refl _) _)
  have H := Lib.hid h
  have HL := Lib.hid hl
  have H0 : Hid (Make (Plus X q) W W g m c o) := Lib.hid (by rw [hW, hq]; exact h.held _)
  have HGQ : Hid (q ≠ g) := Lib.hid (by rw [hq]; have := h.glt; omega)
  have HBX : Hid (W.heap[q]? = some (.cells (encP p) 74 (0, 0))) := Lib.hid (by rw [hW, hq]; exact heap_alloc_new w _)
  clear h hl
  by_cases s7 : c.state = 7
  · have hC : hearERC c = toC c 8 := by unfold hearERC; rw [if_pos (by omega)]
    rw [hC]
    clear hC
    have hO : hearERO c o p = stopO (tellO (sendO c o 15 p.sq) (sigK 7)) := by unfold hearERO; rw [if_pos (by omega)]
    rw [hO]
    clear hO
    have ss7 : (c.state == 7) = true := by simp; omega
    clear s7
    have k0_ : W.cell? ⟨q, 0, none⟩ = some (.int .i64 p.kind) := (cell_of_row _ _ _ _ _ _ HBX.out).trans rfl
    have k1_ : W.cell? ⟨q, 1, none⟩ = some (.int .i64 p.sq) := (cell_of_row _ _ _ _ _ _ HBX.out).trans rfl
    have k2_ : W.cell? ⟨q, 2, none⟩ = some (.int .u32 p.n) := (cell_of_row _ _ _ _ _ _ HBX.out).trans rfl
    have k6_ : W.cell? ⟨q, 6, none⟩ = some (.bool p.self) := (cell_of_row _ _ _ _ _ _ HBX.out).trans rfl
    have k7_ : W.cell? ⟨q, 7, none⟩ = some (.string p.data) := (cell_of_row _ _ _ _ _ _ HBX.out).trans rfl
    have p0_ := H0.out.p0
    have c2_ := H0.out.c2
    have z2_ := H0.out.free 2
    rw [hW, hq] at k0_ k1_ k2_ k6_ k7_
    rw [hW] at p0_ c2_ z2_
    simp only [encP] at k0_ k1_ k2_ k6_ k7_ p0_ c2_ z2_
    show Calls Tryd.prog _ #[_, .agg #[.int .i64 p.kind, .int .i64 p.sq, .int .u32 p.n, .int .u32 p.ps, .int .u32 p.mr, .slice p.la p.ln p.lc, .bool p.self, .string p.data]] _ _
    go_enter Tryd.func94, Tryd.ntmps94
    go_wp2_with fail
    show Calls Tryd.prog _ _ (w.alloc (.cells (encP p) 74)) _
    rw [← hW, ← hq]
    clear hW hq
    clear k0_ k1_ k2_ k6_ k7_ p0_ c2_ z2_
    refine (send_any (Plus X q) W W g m c o 15 p.sq H0.out (HL.out.more (by decide))).mono ?_; rintro e w1 ⟨⟨v1, rfl⟩, h1⟩
    have H1 := Lib.hid h1
    clear h1
    have hbx := H1.out.boxed HBX.out HGQ.out
    have k0_ : w1.cell? ⟨q, 0, none⟩ = some (.int .i64 p.kind) := (cell_of_row _ _ _ _ _ _ hbx).trans rfl
    have k1_ : w1.cell? ⟨q, 1, none⟩ = some (.int .i64 p.sq) := (cell_of_row _ _ _ _ _ _ hbx).trans rfl
    have k2_ : w1.cell? ⟨q, 2, none⟩ = some (.int .u32 p.n) := (cell_of_row _ _ _ _ _ _ hbx).trans rfl
    have k6_ : w1.cell? ⟨q, 6, none⟩ = some (.bool p.self) := (cell_of_row _ _ _ _ _ _ hbx).trans rfl
    have k7_ : w1.cell? ⟨q, 7, none⟩ = some (.string p.data) := (cell_of_row _ _ _ _ _ _ hbx).trans rfl
    clear hbx
    have p0_ := H1.out.p0
    have c2_ := H1.out.c2
    have z2_ := H1.out.free 2
    go_wp2_with fail
    clear k0_ k1_ k2_ k6_ k7_ p0_ c2_ z2_
    refine (tell_any (Plus X q) W w1 g m c _ (sigK 7) H1.out (by have := HL.out.1; show o.sigs.length ≤ 999; omega)).mono ?_; rintro e w2 ⟨⟨v2, rfl⟩, h2⟩
    have H2 := Lib.hid h2
    clear h2
    have hbx := H2.out.boxed HBX.out HGQ.out
    have k0_ : w2.cell? ⟨q, 0, none⟩ = some (.int .i64 p.kind) := (cell_of_row _ _ _ _ _ _ hbx).trans rfl
    have k1_ : w2.cell? ⟨q, 1, none⟩ = some (.int .i64 p.sq) := (cell_of_row _ _ _ _ _ _ hbx).trans rfl
    have k2_ : w2.cell? ⟨q, 2, none⟩ = some (.int .u32 p.n) := (cell_of_row _ _ _ _ _ _ hbx).trans rfl
    have k6_ : w2.cell? ⟨q, 6, none⟩ = some (.bool p.self) := (cell_of_row _ _ _ _ _ _ hbx).trans rfl
    have k7_ : w2.cell? ⟨q, 7, none⟩ = some (.string p.data) := (cell_of_row _ _ _ _ _ _ hbx).trans rfl
    clear hbx
    have p0_ := H2.out.p0
    have c2_ := H2.out.c2
    have z2_ := H2.out.free 2
    go_wp2_with fail
    clear k0_ k1_ k2_ k6_ k7_ p0_ c2_ z2_
    refine (stop_any (Plus X q) W w2 g m c _ 8 H2.out).mono ?_; rintro e w3 ⟨⟨v3, rfl⟩, h3⟩
    have H3 := Lib.hid h3
    clear h3
    have hbx := H3.out.boxed HBX.out HGQ.out
    have k0_ : w3.cell? ⟨q, 0, none⟩ = some (.int .i64 p.kind) := (cell_of_row _ _ _ _ _ _ hbx).trans rfl
    have k1_ : w3.cell? ⟨q, 1, none⟩ = some (.int .i64 p.sq) := (cell_of_row _ _ _ _ _ _ hbx).trans rfl
    have k2_ : w3.cell? ⟨q, 2, none⟩ = some (.int .u32 p.n) := (cell_of_row _ _ _ _ _ _ hbx).trans rfl
    have k6_ : w3.cell? ⟨q, 6, none⟩ = some (.bool p.self) := (cell_of_row _ _ _ _ _ _ hbx).trans rfl
    have k7_ : w3.cell? ⟨q, 7, none⟩ = some (.string p.data) := (cell_of_row _ _ _ _ _ _ hbx).trans rfl
    clear hbx
    have p0_ := H3.out.p0
    have c2_ := H3.out.c2
    have z2_ := H3.out.free 2
    go_wp2_with fail
    (try simp only [Exit.inBlock, Exit.then])
    first
      | refine bodyPost_end (results_none rfl _ _ _) rfl ?_
      | refine bodyPost_ret (results_none rfl _ _ _) rfl ?_
    exact ⟨⟨_, rfl⟩, H.out.back HBW.out H3.out⟩
  · by_cases s8 : c.state = 8
    · have hC : hearERC c = c := by unfold hearERC; rw [if_neg (by omega), if_pos (by omega)]
      rw [hC]
      clear hC
      have hO : hearERO c o p = sendO c o 15 p.sq := by unfold hearERO; rw [if_neg (by omega), if_pos (by omega)]
      rw [hO]
      clear hO
      have ss7 : (c.state == 7) = false := by simp; omega
      have ss8 : (c.state == 8) = true := by simp; omega
      clear s7 s8
      have k0_ : W.cell? ⟨q, 0, none⟩ = some (.int .i64 p.kind) := (cell_of_row _ _ _ _ _ _ HBX.out).trans rfl
      have k1_ : W.cell? ⟨q, 1, none⟩ = some (.int .i64 p.sq) := (cell_of_row _ _ _ _ _ _ HBX.out).trans rfl
      have k2_ : W.cell? ⟨q, 2, none⟩ = some (.int .u32 p.n) := (cell_of_row _ _ _ _ _ _ HBX.out).trans rfl
      have k6_ : W.cell? ⟨q, 6, none⟩ = some (.bool p.self) := (cell_of_row _ _ _ _ _ _ HBX.out).trans rfl
      have k7_ : W.cell? ⟨q, 7, none⟩ = some (.string p.data) := (cell_of_row _ _ _ _ _ _ HBX.out).trans rfl
      have p0_ := H0.out.p0
      have c2_ := H0.out.c2
      have z2_ := H0.out.free 2
      rw [hW, hq] at k0_ k1_ k2_ k6_ k7_
      rw [hW] at p0_ c2_ z2_
      simp only [encP] at k0_ k1_ k2_ k6_ k7_ p0_ c2_ z2_
      show Calls Tryd.prog _ #[_, .agg #[.int .i64 p.kind, .int .i64 p.sq, .int .u32 p.n, .int .u32 p.ps, .int .u32 p.mr, .slice p.la p.ln p.lc, .bool p.self, .string p.data]] _ _
      go_enter Tryd.func94, Tryd.ntmps94
      go_wp2_with fail
      show Calls Tryd.prog _ _ (w.alloc (.cells (encP p) 74)) _
      rw [← hW, ← hq]
      clear hW hq
      clear k0_ k1_ k2_ k6_ k7_ p0_ c2_ z2_
      refine (send_any (Plus X q) W W g m c o 15 p.sq H0.out (HL.out.more (by decide))).mono ?_; rintro e w1 ⟨⟨v1, rfl⟩, h1⟩
      have H1 := Lib.hid h1
      clear h1
      have hbx := H1.out.boxed HBX.out HGQ.out
      have k0_ : w1.cell? ⟨q, 0, none⟩ = some (.int .i64 p.kind) := (cell_of_row _ _ _ _ _ _ hbx).trans rfl
      have k1_ : w1.cell? ⟨q, 1, none⟩ = some (.int .i64 p.sq) := (cell_of_row _ _ _ _ _ _ hbx).trans rfl
      have k2_ : w1.cell? ⟨q, 2, none⟩ = some (.int .u32 p.n) := (cell_of_row _ _ _ _ _ _ hbx).trans rfl
      have k6_ : w1.cell? ⟨q, 6, none⟩ = some (.bool p.self) := (cell_of_row _ _ _ _ _ _ hbx).trans rfl
      have k7_ : w1.cell? ⟨q, 7, none⟩ = some (.string p.data) := (cell_of_row _ _ _ _ _ _ hbx).trans rfl
      clear hbx
      have p0_ := H1.out.p0
      have c2_ := H1.out.c2
      have z2_ := H1.out.free 2
      go_wp2_with fail
      (try simp only [Exit.inBlock, Exit.then])
      first
        | refine bodyPost_end (results_none rfl _ _ _) rfl ?_
        | refine bodyPost_ret (results_none rfl _ _ _) rfl ?_
      exact ⟨⟨_, rfl⟩, H.out.back HBW.out H1.out⟩
    · by_cases s10 : c.state = 10
      · have hC : hearERC c = toC c 9 := by unfold hearERC; rw [if_neg (by omega), if_neg (by omega), if_pos (by omega)]
        rw [hC]
        clear hC
        have hO : hearERO c o p = tellO o (sigK 7) := by unfold hearERO; rw [if_neg (by omega), if_neg (by omega), if_pos (by omega)]
        rw [hO]
        clear hO
        have ss7 : (c.state == 7) = false := by simp; omega
        have ss8 : (c.state == 8) = false := by simp; omega
        have ss10 : (c.state == 10) = true := by simp; omega
        clear s7 s8 s10
        have k0_ : W.cell? ⟨q, 0, none⟩ = some (.int .i64 p.kind) := (cell_of_row _ _ _ _ _ _ HBX.out).trans rfl
        have k1_ : W.cell? ⟨q, 1, none⟩ = some (.int .i64 p.sq) := (cell_of_row _ _ _ _ _ _ HBX.out).trans rfl
        have k2_ : W.cell? ⟨q, 2, none⟩ = some (.int .u32 p.n) := (cell_of_row _ _ _ _ _ _ HBX.out).trans rfl
        have k6_ : W.cell? ⟨q, 6, none⟩ = some (.bool p.self) := (cell_of_row _ _ _ _ _ _ HBX.out).trans rfl
        have k7_ : W.cell? ⟨q, 7, none⟩ = some (.string p.data) := (cell_of_row _ _ _ _ _ _ HBX.out).trans rfl
        have p0_ := H0.out.p0
        have c2_ := H0.out.c2
        have z2_ := H0.out.free 2
        rw [hW, hq] at k0_ k1_ k2_ k6_ k7_
        rw [hW] at p0_ c2_ z2_
        simp only [encP] at k0_ k1_ k2_ k6_ k7_ p0_ c2_ z2_
        show Calls Tryd.prog _ #[_, .agg #[.int .i64 p.kind, .int .i64 p.sq, .int .u32 p.n, .int .u32 p.ps, .int .u32 p.mr, .slice p.la p.ln p.lc, .bool p.self, .string p.data]] _ _
        go_enter Tryd.func94, Tryd.ntmps94
        go_wp2_with fail
        show Calls Tryd.prog _ _ (w.alloc (.cells (encP p) 74)) _
        rw [← hW, ← hq]
        clear hW hq
        clear k0_ k1_ k2_ k6_ k7_ p0_ c2_ z2_
        refine (tell_any (Plus X q) W W g m c o (sigK 7) H0.out (by have := HL.out.1; show o.sigs.length ≤ 999; omega)).mono ?_; rintro e w1 ⟨⟨v1, rfl⟩, h1⟩
        have H1 := Lib.hid h1
        clear h1
        have hbx := H1.out.boxed HBX.out HGQ.out
        have k0_ : w1.cell? ⟨q, 0, none⟩ = some (.int .i64 p.kind) := (cell_of_row _ _ _ _ _ _ hbx).trans rfl
        have k1_ : w1.cell? ⟨q, 1, none⟩ = some (.int .i64 p.sq) := (cell_of_row _ _ _ _ _ _ hbx).trans rfl
        have k2_ : w1.cell? ⟨q, 2, none⟩ = some (.int .u32 p.n) := (cell_of_row _ _ _ _ _ _ hbx).trans rfl
        have k6_ : w1.cell? ⟨q, 6, none⟩ = some (.bool p.self) := (cell_of_row _ _ _ _ _ _ hbx).trans rfl
        have k7_ : w1.cell? ⟨q, 7, none⟩ = some (.string p.data) := (cell_of_row _ _ _ _ _ _ hbx).trans rfl
        clear hbx
        have p0_ := H1.out.p0
        have c2_ := H1.out.c2
        have z2_ := H1.out.free 2
        go_wp2_with fail
        (try simp only [Exit.inBlock, Exit.then])
        first
          | refine bodyPost_end (results_none rfl _ _ _) rfl ?_
          | refine bodyPost_ret (results_none rfl _ _ _) rfl ?_
        exact ⟨⟨_, rfl⟩, H.out.back HBW.out (H1.out.setC 2 (.int .i64 9) (toC c 9) rfl)⟩
      · have hC : hearERC c = c := by unfold hearERC; rw [if_neg (by omega), if_neg (by omega), if_neg (by omega)]
        rw [hC]
        clear hC
        have hO : hearERO c o p = o := by unfold hearERO; rw [if_neg (by omega), if_neg (by omega), if_neg (by omega)]
        rw [hO]
        clear hO
        have ss7 : (c.state == 7) = false := by simp; omega
        have ss8 : (c.state == 8) = false := by simp; omega
        have ss10 : (c.state == 10) = false := by simp; omega
        clear s7 s8 s10
        have k0_ : W.cell? ⟨q, 0, none⟩ = some (.int .i64 p.kind) := (cell_of_row _ _ _ _ _ _ HBX.out).trans rfl
        have k1_ : W.cell? ⟨q, 1, none⟩ = some (.int .i64 p.sq) := (cell_of_row _ _ _ _ _ _ HBX.out).trans rfl
        have k2_ : W.cell? ⟨q, 2, none⟩ = some (.int .u32 p.n) := (cell_of_row _ _ _ _ _ _ HBX.out).trans rfl
        have k6_ : W.cell? ⟨q, 6, none⟩ = some (.bool p.self) := (cell_of_row _ _ _ _ _ _ HBX.out).trans rfl
        have k7_ : W.cell? ⟨q, 7, none⟩ = some (.string p.data) := (cell_of_row _ _ _ _ _ _ HBX.out).trans rfl
        have p0_ := H0.out.p0
        have c2_ := H0.out.c2
        have z2_ := H0.out.free 2
        rw [hW, hq] at k0_ k1_ k2_ k6_ k7_
        rw [hW] at p0_ c2_ z2_
        simp only [encP] at k0_ k1_ k2_ k6_ k7_ p0_ c2_ z2_
        show Calls Tryd.prog _ #[_, .agg #[.int .i64 p.kind, .int .i64 p.sq, .int .u32 p.n, .int .u32 p.ps, .int .u32 p.mr, .slice p.la p.ln p.lc, .bool p.self, .string p.data]] _ _
        go_enter Tryd.func94, Tryd.ntmps94
        go_wp2_with fail
        (try simp only [Exit.inBlock, Exit.then])
        first
          | refine bodyPost_end (results_none rfl _ _ _) rfl ?_
          | refine bodyPost_ret (results_none rfl _ _ _) rfl ?_
        exact ⟨⟨_, rfl⟩, H.out.alloc _⟩
set_option maxRecDepth 100000 in
set_option maxHeartbeats 4000000 in
theorem hearBGN_any (h : Make X w0 w g m c o) (hl : Few o 900) :
    Calls Tryd.prog 92 #[.pointer (some ⟨m, 0, none⟩), .agg (encP p)] w fun e w' => (∃ v, e = .returned v) ∧ Make X w0 w' g m (hearBGNC c) (hearBGNO c o p) := by
  obtain ⟨W, hW⟩ : ∃ W, W = w.alloc (.cells (encP p) 74) := ⟨_, rfl⟩
  obtain ⟨q, hq⟩ : ∃ q, q = w.heap.size := ⟨_, rfl⟩
  have HBW : Hid (Below w.heap.size w W) := Lib.hid (by rw [hW]; exact (Below.refl _ _).alloc (Nat.le_refl _) _)
  have H := Lib.hid h
  have HL := Lib.hid hl
  have H0 : Hid (Make (Plus X q) W W g m c o) := Lib.hid (by rw [hW, hq]; exact h.held _)
  have HGQ : Hid (q ≠ g) := Lib.hid (by rw [hq]; have := h.glt; omega)
  have HBX : Hid (W.heap[q]? = some (.cells (encP p) 74 (0, 0))) := Lib.hid (by rw [hW, hq]; exact heap_alloc_new w _)
  clear h hl
  by_cases s2 : c.state = 2
  · have hC : hearBGNC c = toC c 10 := by unfold hearBGNC; rw [if_pos (by omega)]
    rw [hC]
    clear hC
    have hO : hearBGNO c o p = readyO c (tellO (sendO c o 2 p.sq) (sigK 2)) := by unfold hearBGNO; rw [if_pos (by omega)]
    rw [hO]
    clear hO
    have ss2 : (c.state == 2) = true := by simp; omega
    clear s2
    have k0_ : W.cell? ⟨q, 0, none⟩ = some (.int .i64 p.kind) := (cell_of_row _ _ _ _ _ _ HBX.out).trans rfl
    have k1_ : W.cell? ⟨q, 1, none⟩ = some (.int .i64 p.sq) := (cell_of_row _ _ _ _ _ _ HBX.out).trans rfl
    have k2_ : W.cell? ⟨q, 2, none⟩ = some (.int .u32 p.n) := (cell_of_row _ _ _ _ _ _ HBX.out).trans rfl
    have k6_ : W.cell? ⟨q, 6, none⟩ = some (.bool p.self) := (cell_of_row _ _ _ _ _ _ HBX.out).trans rfl
    have k7_ : W.cell? ⟨q, 7, none⟩ = some (.string p.data) := (cell_of_row _ _ _ _ _ _ HBX.out).trans rfl
    have p0_ := H0.out.p0
    have c2_ := H0.out.c2
    have z2_ := H0.out.free 2
    rw [hW, hq] at k0_ k1_ k2_ k6_ k7_
    rw [hW] at p0_ c2_ z2_
    simp only [encP] at k0_ k1_ k2_ k6_ k7_ p0_ c2_ z2_
    show Calls Tryd.prog _ #[_, .agg #[.int .i64 p.kind, .int .i64 p.sq, .int .u32 p.n, .int .u32 p.ps, .int .u32 p.mr, .slice p.la p.ln p.lc, .bool p.self, .string p.data]] _ _
    go_enter Tryd.func92, Tryd.ntmps92
    go_wp2_with fail
    show Calls Tryd.prog _ _ (w.alloc (.cells (encP p) 74)) _
    rw [← hW, ← hq]
    clear hW hq
    clear k0_ k1_ k2_ k6_ k7_ p0_ c2_ z2_
    refine (send_any (Plus X q) W W g m c o 2 p.sq H0.out (HL.out.more (by decide))).mono ?_; rintro e w1 ⟨⟨v1, rfl⟩, h1⟩
    have H1 := Lib.hid h1
    clear h1
    have hbx := H1.out.boxed HBX.out HGQ.out
    have k0_ : w1.cell? ⟨q, 0, none⟩ = some (.int .i64 p.kind) := (cell_of_row _ _ _ _ _ _ hbx).trans rfl
    have k1_ : w1.cell? ⟨q, 1, none⟩ = some (.int .i64 p.sq) := (cell_of_row _ _ _ _ _ _ hbx).trans rfl
    have k2_ : w1.cell? ⟨q, 2, none⟩ = some (.int .u32 p.n) := (cell_of_row _ _ _ _ _ _ hbx).trans rfl
    have k6_ : w1.cell? ⟨q, 6, none⟩ = some (.bool p.self) := (cell_of_row _ _ _ _ _ _ hbx).trans rfl
    have k7_ : w1.cell? ⟨q, 7, none⟩ = some (.string p.data) := (cell_of_row _ _ _ _ _ _ hbx).trans rfl
    clear hbx
    have p0_ := H1.out.p0
    have c2_ := H1.out.c2
    have z2_ := H1.out.free 2
    go_wp2_with fail
    clear k0_ k1_ k2_ k6_ k7_ p0_ c2_ z2_
    refine (tell_any (Plus X q) W w1 g m c _ (sigK 2) H1.out (by have := HL.out.1; show o.sigs.length ≤ 999; omega)).mono ?_; rintro e w2 ⟨⟨v2, rfl⟩, h2⟩
    have H2 := Lib.hid h2
    clear h2
    have hbx := H2.out.boxed HBX.out HGQ.out
    have k0_ : w2.cell? ⟨q, 0, none⟩ = some (.int .i64 p.kind) := (cell_of_row _ _ _ _ _ _ hbx).trans rfl
    have k1_ : w2.cell? ⟨q, 1, none⟩ = some (.int .i64 p.sq) := (cell_of_row _ _ _ _ _ _ hbx).trans rfl
    have k2_ : w2.cell? ⟨q, 2, none⟩ = some (.int .u32 p.n) := (cell_of_row _ _ _ _ _ _ hbx).trans rfl
    have k6_ : w2.cell? ⟨q, 6, none⟩ = some (.bool p.self) := (cell_of_row _ _ _ _ _ _ hbx).trans rfl
    have k7_ : w2.cell? ⟨q, 7, none⟩ = some (.string p.data) := (cell_of_row _ _ _ _ _ _ hbx).trans rfl
    clear hbx
    have p0_ := H2.out.p0
    have c2_ := H2.out.c2
    have z2_ := H2.out.free 2
    go_wp2_with fail
    clear k0_ k1_ k2_ k6_ k7_ p0_ c2_ z2_
    refine (ready_any (Plus X q) W w2 g m c _ H2.out).mono ?_; rintro e w3 ⟨⟨v3, rfl⟩, h3⟩
    have H3 := Lib.hid h3
    clear h3
    have hbx := H3.out.boxed HBX.out HGQ.out
    have k0_ : w3.cell? ⟨q, 0, none⟩ = some (.int .i64 p.kind) := (cell_of_row _ _ _ _ _ _ hbx).trans rfl
    have k1_ : w3.cell? ⟨q, 1, none⟩ = some (.int .i64 p.sq) := (cell_of_row _ _ _ _ _ _ hbx).trans rfl
    have k2_ : w3.cell? ⟨q, 2, none⟩ = some (.int .u32 p.n) := (cell_of_row _ _ _ _ _ _ hbx).trans rfl
    have k6_ : w3.cell? ⟨q, 6, none⟩ = some (.bool p.self) := (cell_of_row _ _ _ _ _ _ hbx).trans rfl
    have k7_ : w3.cell? ⟨q, 7, none⟩ = some (.string p.data) := (cell_of_row _ _ _ _ _ _ hbx).trans rfl
    clear hbx
    have p0_ := H3.out.p0
    have c2_ := H3.out.c2
    have z2_ := H3.out.free 2
    go_wp2_with fail
    (try simp only [Exit.inBlock, Exit.then])
    first
      | refine bodyPost_end (results_none rfl _ _ _) rfl ?_
      | refine bodyPost_ret (results_none rfl _ _ _) rfl ?_
    exact ⟨⟨_, rfl⟩, H.out.back HBW.out H3.out⟩
  · have hC : hearBGNC c = toC c 3 := if_neg s2
    rw [hC]
    clear hC
    by_cases s1 : c.state = 1
    · have hO : hearBGNO c o p = tellO o (sigD 1 p.data) := by unfold hearBGNO; rw [if_neg (by omega), if_pos (by omega)]
      rw [hO]
      clear hO
      have ss2 : (c.state == 2) = false := by simp; omega
      have ss1 : (c.state == 1) = true := by simp; omega
      clear s1 s2
      have hg1 : g ≠ w.heap.size := by rw [← hq]; exact HGQ.out.symm
      have hg2 : w.heap.size ≠ g := hg1.symm
      have k0_ : W.cell? ⟨q, 0, none⟩ = some (.int .i64 p.kind) := (cell_of_row _ _ _ _ _ _ HBX.out).trans rfl
      have k1_ : W.cell? ⟨q, 1, none⟩ = some (.int .i64 p.sq) := (cell_of_row _ _ _ _ _ _ HBX.out).trans rfl
      have k2_ : W.cell? ⟨q, 2, none⟩ = some (.int .u32 p.n) := (cell_of_row _ _ _ _ _ _ HBX.out).trans rfl
      have k6_ : W.cell? ⟨q, 6, none⟩ = some (.bool p.self) := (cell_of_row _ _ _ _ _ _ HBX.out).trans rfl
      have k7_ : W.cell? ⟨q, 7, none⟩ = some (.string p.data) := (cell_of_row _ _ _ _ _ _ HBX.out).trans rfl
      have p0_ := H0.out.p0
      have c2_ := H0.out.c2
      have z2_ := H0.out.free 2
      rw [hW, hq] at k0_ k1_ k2_ k6_ k7_
      rw [hW] at p0_ c2_ z2_
      simp only [encP] at k0_ k1_ k2_ k6_ k7_ p0_ c2_ z2_
      show Calls Tryd.prog _ #[_, .agg #[.int .i64 p.kind, .int .i64 p.sq, .int .u32 p.n, .int .u32 p.ps, .int .u32 p.mr, .slice p.la p.ln p.lc, .bool p.self, .string p.data]] _ _
      go_enter Tryd.func92, Tryd.ntmps92
      go_wp2_with fail
      show Calls Tryd.prog _ _ ((w.alloc (.cells (encP p) 74)).setCell ⟨g, 2, none⟩ (.int .i64 3)) _
      rw [← hW, ← hq]
      clear hW hq hg1 hg2
      clear k0_ k1_ k2_ k6_ k7_ p0_ c2_ z2_
      have HS1 := Lib.hid (H0.out.setC 2 (.int .i64 3) (toC c 3) rfl)
      refine (tell_any (Plus X q) W _ g m (toC c 3) o (sigD 1 p.data) HS1.out (by have := HL.out.1; show o.sigs.length ≤ 999; omega)).mono ?_; rintro e w1 ⟨⟨v1, rfl⟩, h1⟩
      have H1 := Lib.hid h1
      clear h1
      go_wp2_with fail
      (try simp only [Exit.inBlock, Exit.then])
      first
        | refine bodyPost_end (results_none rfl _ _ _) rfl ?_
        | refine bodyPost_ret (results_none rfl _ _ _) rfl ?_
      exact ⟨⟨_, rfl⟩, H.out.back HBW.out H1.out⟩
    · by_cases s4 : c.state = 4
      · have hO : hearBGNO c o p = tellO (stopO (tellO o (sigK 4))) (sigD 1 p.data) := by unfold hearBGNO; rw [if_neg (by omega), if_neg (by omega), if_pos (by omega)]
        rw [hO]
        clear hO
        have ss2 : (c.state == 2) = false := by simp; omega
        have ss1 : (c.state == 1) = false := by simp; omega
        have ss4 : (c.state == 4) = true := by simp; omega
        clear s1 s2 s4
        have k0_ : W.cell? ⟨q, 0, none⟩ = some (.int .i64 p.kind) := (cell_of_row _ _ _ _ _ _ HBX.out).trans rfl
        have k1_ : W.cell? ⟨q, 1, none⟩ = some (.int .i64 p.sq) := (cell_of_row _ _ _ _ _ _ HBX.out).trans rfl
        have k2_ : W.cell? ⟨q, 2, none⟩ = some (.int .u32 p.n) := (cell_of_row _ _ _ _ _ _ HBX.out).trans rfl
        have k6_ : W.cell? ⟨q, 6, none⟩ = some (.bool p.self) := (cell_of_row _ _ _ _ _ _ HBX.out).trans rfl
        have k7_ : W.cell? ⟨q, 7, none⟩ = some (.string p.data) := (cell_of_row _ _ _ _ _ _ HBX.out).trans rfl
        have p0_ := H0.out.p0
        have c2_ := H0.out.c2
        have z2_ := H0.out.free 2
        rw [hW, hq] at k0_ k1_ k2_ k6_ k7_
        rw [hW] at p0_ c2_ z2_
        simp only [encP] at k0_ k1_ k2_ k6_ k7_ p0_ c2_ z2_
        show Calls Tryd.prog _ #[_, .agg #[.int .i64 p.kind, .int .i64 p.sq, .int .u32 p.n, .int .u32 p.ps, .int .u32 p.mr, .slice p.la p.ln p.lc, .bool p.self, .string p.data]] _ _
        go_enter Tryd.func92, Tryd.ntmps92
        go_wp2_with fail
        show Calls Tryd.prog _ _ (w.alloc (.cells (encP p) 74)) _
        rw [← hW, ← hq]
        clear hW hq
        clear k0_ k1_ k2_ k6_ k7_ p0_ c2_ z2_
        refine (tell_any (Plus X q) W W g m c o (sigK 4) H0.out (by have := HL.out.1; show o.sigs.length ≤ 999; omega)).mono ?_; rintro e w1 ⟨⟨v1, rfl⟩, h1⟩
        have H1 := Lib.hid h1
        clear h1
        have hbx := H1.out.boxed HBX.out HGQ.out
        have k0_ : w1.cell? ⟨q, 0, none⟩ = some (.int .i64 p.kind) := (cell_of_row _ _ _ _ _ _ hbx).trans rfl
        have k1_ : w1.cell? ⟨q, 1, none⟩ = some (.int .i64 p.sq) := (cell_of_row _ _ _ _ _ _ hbx).trans rfl
        have k2_ : w1.cell? ⟨q, 2, none⟩ = some (.int .u32 p.n) := (cell_of_row _ _ _ _ _ _ hbx).trans rfl
        have k6_ : w1.cell? ⟨q, 6, none⟩ = some (.bool p.self) := (cell_of_row _ _ _ _ _ _ hbx).trans rfl
        have k7_ : w1.cell? ⟨q, 7, none⟩ = some (.string p.data) := (cell_of_row _ _ _ _ _ _ hbx).trans rfl
        clear hbx
        have p0_ := H1.out.p0
        have c2_ := H1.out.c2
        have z2_ := H1.out.free 2
        go_wp2_with fail
        clear k0_ k1_ k2_ k6_ k7_ p0_ c2_ z2_
        refine (stop_any (Plus X q) W w1 g m c _ 3 H1.out).mono ?_; rintro e w2 ⟨⟨v2, rfl⟩, h2⟩
        have H2 := Lib.hid h2
        clear h2
        have hbx := H2.out.boxed HBX.out HGQ.out
        have k0_ : w2.cell? ⟨q, 0, none⟩ = some (.int .i64 p.kind) := (cell_of_row _ _ _ _ _ _ hbx).trans rfl
        have k1_ : w2.cell? ⟨q, 1, none⟩ = some (.int .i64 p.sq) := (cell_of_row _ _ _ _ _ _ hbx).trans rfl
        have k2_ : w2.cell? ⟨q, 2, none⟩ = some (.int .u32 p.n) := (cell_of_row _ _ _ _ _ _ hbx).trans rfl
        have k6_ : w2.cell? ⟨q, 6, none⟩ = some (.bool p.self) := (cell_of_row _ _ _ _ _ _ hbx).trans rfl
        have k7_ : w2.cell? ⟨q, 7, none⟩ = some (.string p.data) := (cell_of_row _ _ _ _ _ _ hbx).trans rfl
        clear hbx
        have p0_ := H2.out.p0
        have c2_ := H2.out.c2
        have z2_ := H2.out.free 2
        go_wp2_with fail
        clear k0_ k1_ k2_ k6_ k7_ p0_ c2_ z2_
        refine (tell_any (Plus X q) W w2 g m (toC c 3) _ (sigD 1 p.data) H2.out (by have := HL.out.1; show (o.sigs ++ [_]).length ≤ 999; simp; omega)).mono ?_; rintro e w3 ⟨⟨v3, rfl⟩, h3⟩
        have H3 := Lib.hid h3
        clear h3
        have hbx := H3.out.boxed HBX.out HGQ.out
        have k0_ : w3.cell? ⟨q, 0, none⟩ = some (.int .i64 p.kind) := (cell_of_row _ _ _ _ _ _ hbx).trans rfl
        have k1_ : w3.cell? ⟨q, 1, none⟩ = some (.int .i64 p.sq) := (cell_of_row _ _ _ _ _ _ hbx).trans rfl
        have k2_ : w3.cell? ⟨q, 2, none⟩ = some (.int .u32 p.n) := (cell_of_row _ _ _ _ _ _ hbx).trans rfl
        have k6_ : w3.cell? ⟨q, 6, none⟩ = some (.bool p.self) := (cell_of_row _ _ _ _ _ _ hbx).trans rfl
        have k7_ : w3.cell? ⟨q, 7, none⟩ = some (.string p.data) := (cell_of_row _ _ _ _ _ _ hbx).trans rfl
        clear hbx
        have p0_ := H3.out.p0
        have c2_ := H3.out.c2
        have z2_ := H3.out.free 2
        go_wp2_with fail
        (try simp only [Exit.inBlock, Exit.then])
        first
          | refine bodyPost_end (results_none rfl _ _ _) rfl ?_
          | refine bodyPost_ret (results_none rfl _ _ _) rfl ?_
        exact ⟨⟨_, rfl⟩, H.out.back HBW.out H3.out⟩
      · have hO : hearBGNO c o p = tellO (stopO (releasedO o false noD)) (sigD 1 p.data) := by unfold hearBGNO; rw [if_neg (by omega), if_neg (by omega), if_neg (by omega)]
        rw [hO]
        clear hO
        have ss2 : (c.state == 2) = false := by simp; omega
        have ss1 : (c.state == 1) = false := by simp; omega
        have ss4 : (c.state == 4) = false := by simp; omega
        clear s1 s2 s4
        have k0_ : W.cell? ⟨q, 0, none⟩ = some (.int .i64 p.kind) := (cell_of_row _ _ _ _ _ _ HBX.out).trans rfl
        have k1_ : W.cell? ⟨q, 1, none⟩ = some (.int .i64 p.sq) := (cell_of_row _ _ _ _ _ _ HBX.out).trans rfl
        have k2_ : W.cell? ⟨q, 2, none⟩ = some (.int .u32 p.n) := (cell_of_row _ _ _ _ _ _ HBX.out).trans rfl
        have k6_ : W.cell? ⟨q, 6, none⟩ = some (.bool p.self) := (cell_of_row _ _ _ _ _ _ HBX.out).trans rfl
        have k7_ : W.cell? ⟨q, 7, none⟩ = some (.string p.data) := (cell_of_row _ _ _ _ _ _ HBX.out).trans rfl
        have p0_ := H0.out.p0
        have c2_ := H0.out.c2
        have z2_ := H0.out.free 2
        rw [hW, hq] at k0_ k1_ k2_ k6_ k7_
        rw [hW] at p0_ c2_ z2_
        simp only [encP] at k0_ k1_ k2_ k6_ k7_ p0_ c2_ z2_
        show Calls Tryd.prog _ #[_, .agg #[.int .i64 p.kind, .int .i64 p.sq, .int .u32 p.n, .int .u32 p.ps, .int .u32 p.mr, .slice p.la p.ln p.lc, .bool p.self, .string p.data]] _ _
        go_enter Tryd.func92, Tryd.ntmps92
        go_wp2_with fail
        show Calls Tryd.prog _ _ (w.alloc (.cells (encP p) 74)) _
        rw [← hW, ← hq]
        clear hW hq
        clear k0_ k1_ k2_ k6_ k7_ p0_ c2_ z2_
        refine (released_any (Plus X q) W W g m c o false noD H0.out (HL.out.more (by decide))).mono ?_; rintro e w1 ⟨⟨v1, rfl⟩, h1⟩
        have H1 := Lib.hid h1
        clear h1
        have hbx := H1.out.boxed HBX.out HGQ.out
        have k0_ : w1.cell? ⟨q, 0, none⟩ = some (.int .i64 p.kind) := (cell_of_row _ _ _ _ _ _ hbx).trans rfl
        have k1_ : w1.cell? ⟨q, 1, none⟩ = some (.int .i64 p.sq) := (cell_of_row _ _ _ _ _ _ hbx).trans rfl
        have k2_ : w1.cell? ⟨q, 2, none⟩ = some (.int .u32 p.n) := (cell_of_row _ _ _ _ _ _ hbx).trans rfl
        have k6_ : w1.cell? ⟨q, 6, none⟩ = some (.bool p.self) := (cell_of_row _ _ _ _ _ _ hbx).trans rfl
        have k7_ : w1.cell? ⟨q, 7, none⟩ = some (.string p.data) := (cell_of_row _ _ _ _ _ _ hbx).trans rfl
        clear hbx
        have p0_ := H1.out.p0
        have c2_ := H1.out.c2
        have z2_ := H1.out.free 2
        go_wp2_with fail
        clear k0_ k1_ k2_ k6_ k7_ p0_ c2_ z2_
        refine (stop_any (Plus X q) W w1 g m c _ 3 H1.out).mono ?_; rintro e w2 ⟨⟨v2, rfl⟩, h2⟩
        have H2 := Lib.hid h2
        clear h2
        have hbx := H2.out.boxed HBX.out HGQ.out
        have k0_ : w2.cell? ⟨q, 0, none⟩ = some (.int .i64 p.kind) := (cell_of_row _ _ _ _ _ _ hbx).trans rfl
        have k1_ : w2.cell? ⟨q, 1, none⟩ = some (.int .i64 p.sq) := (cell_of_row _ _ _ _ _ _ hbx).trans rfl
        have k2_ : w2.cell? ⟨q, 2, none⟩ = some (.int .u32 p.n) := (cell_of_row _ _ _ _ _ _ hbx).trans rfl
        have k6_ : w2.cell? ⟨q, 6, none⟩ = some (.bool p.self) := (cell_of_row _ _ _ _ _ _ hbx).trans rfl
        have k7_ : w2.cell? ⟨q, 7, none⟩ = some (.string p.data) := (cell_of_row _ _ _ _ _ _ hbx).trans rfl
        clear hbx
        have p0_ := H2.out.p0
        have c2_ := H2.out.c2
        have z2_ := H2.out.free 2
        go_wp2_with fail
        clear k0_ k1_ k2_ k6_ k7_ p0_ c2_ z2_
        refine (tell_any (Plus X q) W w2 g m (toC c 3) _ (sigD 1 p.data) H2.out (by have := HL.out.1; show (o.sigs ++ [_]).length ≤ 999; simp; omega)).mono ?_; rintro e w3 ⟨⟨v3, rfl⟩, h3⟩
        have H3 := Lib.hid h3
        clear h3
        have hbx := H3.out.boxed HBX.out HGQ.out
        have k0_ : w3.cell? ⟨q, 0, none⟩ = some (.int .i64 p.kind) := (cell_of_row _ _ _ _ _ _ hbx).trans rfl
        have k1_ : w3.cell? ⟨q, 1, none⟩ = some (.int .i64 p.sq) := (cell_of_row _ _ _ _ _ _ hbx).trans rfl
        have k2_ : w3.cell? ⟨q, 2, none⟩ = some (.int .u32 p.n) := (cell_of_row _ _ _ _ _ _ hbx).trans rfl
        have k6_ : w3.cell? ⟨q, 6, none⟩ = some (.bool p.self) := (cell_of_row _ _ _ _ _ _ hbx).trans rfl
        have k7_ : w3.cell? ⟨q, 7, none⟩ = some (.string p.data) := (cell_of_row _ _ _ _ _ _ hbx).trans rfl
        clear hbx
        have p0_ := H3.out.p0
        have c2_ := H3.out.c2
        have z2_ := H3.out.free 2
        go_wp2_with fail
        (try simp only [Exit.inBlock, Exit.then])
        first
          | refine bodyPost_end (results_none rfl _ _ _) rfl ?_
          | refine bodyPost_ret (results_none rfl _ _ _) rfl ?_
        exact ⟨⟨_, rfl⟩, H.out.back HBW.out H3.out⟩
end
end Go.Proofs.YtkphompjahcjiaaDoor.Conn
