/-
  A connection: a unit, by the rules.
-/
import Derived.Test.YtkphompjahcjiaaDoorConn12
import Derived.Test.YtkphompjahcjiaaDoorRules5L
import Derived.Test.YtkphompjahcjiaaDoorQuietTail
import Derived.StillTailTactics
import Derived.BigQuiet
import Derived.Deep.RegionHeld3
namespace Go.Proofs.YtkphompjahcjiaaDoor.Conn
open Go.RowKit

/-- the letters' table lies as it did -/
theorem Make.tabs {X : Nat → Prop} {w0 w : World} {g m : Nat} {c : C} {o : O} (h : Make X w0 w g m c o) (hT : Rules.Tabs w0) (hX : X 1) (hg : 1 ≠ g) : Rules.Tabs w := by
  have hb := h.only.block _ hX hg
  refine ⟨Nat.lt_of_lt_of_le hT.lt0 h.only.size, fun i hi => ?_⟩
  rw [← hT.letters i hi]
  unfold World.cell?
  simp [hb]
def recvC (c : C) (p : P) : C := if Rules.ofI c.state p.kind = 1 then handleC c p else if Rules.ofI c.state p.kind = 4 then toC c 1 else c
def recvO (c : C) (o : O) (p : P) : O :=
  if Rules.ofI c.state p.kind = 1 then handleO c o p else if Rules.ofI c.state p.kind = 2 then reportO o (Rules.letterI p.kind) else if Rules.ofI c.state p.kind = 3 then endO c (reportO o (Rules.letterI p.kind))
  else if Rules.ofI c.state p.kind = 4 then stopO (releasedO (reportO o (Rules.letterI p.kind)) true noD) else o

section
variable (X : Nat → Prop) (w0 w : World) (g m : Nat) (c : C) (o : O) (p : P)
set_option maxRecDepth 100000 in
set_option maxHeartbeats 4000000 in
theorem receive_any (hT : Rules.Tabs w0) (hXT : X 1) (hGL : 1 ≠ g) (hwf : (Lit.int .i64 c.state).wf = true) (h : Make X w0 w g m c o) (hl : Few o 900) :
    Calls Tryd.prog 50 #[.pointer (some ⟨m, 0, none⟩), .agg (encP p)] w fun e w' => (∃ v, e = .returned v) ∧ Make X w0 w' g m (recvC c p) (recvO c o p) := by
  have HT := Lib.hid hT
  have HXT := Lib.hid hXT
  have HGL := Lib.hid hGL
  have HWF := Lib.hid hwf
  clear hT hXT hGL hwf
  have hTw := h.tabs HT.out HXT.out HGL.out
  obtain ⟨W, hW⟩ : ∃ W, W = w.alloc (.cells (encP p) 74) := ⟨_, rfl⟩
  obtain ⟨q, hq⟩ : ∃ q, q = w.heap.size := ⟨_, rfl⟩
  have HBW : Hid (Below w.heap.size w W) := Lib.hid (by rw [hW]; exact (Below.refl _ _).alloc (Nat.le_refl _) _)
  have H := Lib.hid h
  have HL := Lib.hid hl
  have H0 : Hid (Make (Plus X q) W W g m c o) := Lib.hid (by rw [hW, hq]; exact h.held _)
  have HGQ : Hid (q ≠ g) := Lib.hid (by rw [hq]; have := h.glt; omega)
  have HBX : Hid (W.heap[q]? = some (.cells (encP p) 74 (0, 0))) := Lib.hid (by rw [hW, hq]; exact heap_alloc_new w _)
  clear h hl
  have HTW : Hid (Rules.Tabs W) := Lib.hid (hTw.below HBW.out)
  clear hTw
  obtain ⟨v, hv⟩ : ∃ v, Rules.ofI c.state p.kind = v := ⟨_, rfl⟩
  have HV := Lib.hid hv
  unfold recvC recvO
  rw [hv]
  clear hv
  by_cases h1 : v = 1
  · rw [if_pos h1, if_pos h1]
    have vv1 : (v == 1) = true := by simp; omega
    have vv2 : (v == 2) = false := by simp; omega
    have vv3 : (v == 3) = false := by simp; omega
    have vv4 : (v == 4) = false := by simp; omega
    clear h1
    show Calls Tryd.prog _ #[_, .agg #[.int .i64 p.kind, .int .i64 p.sq, .int .u32 p.n, .int .u32 p.ps, .int .u32 p.mr, .slice p.la p.ln p.lc, .bool p.self, .string p.data]] _ _
    go_enter Tryd.func50, Tryd.ntmps50
    go_wp2_with fail
    show Code.wp _ _ _ _ (w.alloc (.cells (encP p) 74))
    rw [← hW, ← hq]
    clear hW hq
    have k0_ : W.cell? ⟨q, 0, none⟩ = some (.int .i64 p.kind) := (cell_of_row _ _ _ _ _ _ HBX.out).trans rfl
    have k1_ : W.cell? ⟨q, 1, none⟩ = some (.int .i64 p.sq) := (cell_of_row _ _ _ _ _ _ HBX.out).trans rfl
    have k2_ : W.cell? ⟨q, 2, none⟩ = some (.int .u32 p.n) := (cell_of_row _ _ _ _ _ _ HBX.out).trans rfl
    have k3_ : W.cell? ⟨q, 3, none⟩ = some (.int .u32 p.ps) := (cell_of_row _ _ _ _ _ _ HBX.out).trans rfl
    have k4_ : W.cell? ⟨q, 4, none⟩ = some (.int .u32 p.mr) := (cell_of_row _ _ _ _ _ _ HBX.out).trans rfl
    have k5_ : W.cell? ⟨q, 5, none⟩ = some (.slice p.la p.ln p.lc) := (cell_of_row _ _ _ _ _ _ HBX.out).trans rfl
    have k6_ : W.cell? ⟨q, 6, none⟩ = some (.bool p.self) := (cell_of_row _ _ _ _ _ _ HBX.out).trans rfl
    have k7_ : W.cell? ⟨q, 7, none⟩ = some (.string p.data) := (cell_of_row _ _ _ _ _ _ HBX.out).trans rfl
    have p0_ := H0.out.p0
    have c2_ := H0.out.c2
    refine QT.region_quiet_tail 9 (by kernel_rfl) (by decide) (by kernel_rfl) ?_
    simp only [List.take_succ_cons, List.take_zero, List.drop_succ_cons, List.drop_zero]
    repeat (go_big_quiet_step (fail))
    refine wpQuiet_nil ?_
    intro _ hw'
    obtain ⟨nq, rfl⟩ := hw'
    go_wp2_with fail
    clear p0_ c2_
    clear k0_ k1_ k2_ k3_ k4_ k5_ k6_ k7_
    refine (Rules.of_any c.state p.kind HWF.out _).mono ?_; rintro e w1 ⟨rfl, hb1⟩
    rw [HV.out]
    have H1 := Lib.hid ((H0.out.drewN nq).below hb1)
    clear hb1
    have hbx := H1.out.boxed HBX.out HGQ.out
    have k0_ : w1.cell? ⟨q, 0, none⟩ = some (.int .i64 p.kind) := (cell_of_row _ _ _ _ _ _ hbx).trans rfl
    have k1_ : w1.cell? ⟨q, 1, none⟩ = some (.int .i64 p.sq) := (cell_of_row _ _ _ _ _ _ hbx).trans rfl
    have k2_ : w1.cell? ⟨q, 2, none⟩ = some (.int .u32 p.n) := (cell_of_row _ _ _ _ _ _ hbx).trans rfl
    have k3_ : w1.cell? ⟨q, 3, none⟩ = some (.int .u32 p.ps) := (cell_of_row _ _ _ _ _ _ hbx).trans rfl
    have k4_ : w1.cell? ⟨q, 4, none⟩ = some (.int .u32 p.mr) := (cell_of_row _ _ _ _ _ _ hbx).trans rfl
    have k5_ : w1.cell? ⟨q, 5, none⟩ = some (.slice p.la p.ln p.lc) := (cell_of_row _ _ _ _ _ _ hbx).trans rfl
    have k6_ : w1.cell? ⟨q, 6, none⟩ = some (.bool p.self) := (cell_of_row _ _ _ _ _ _ hbx).trans rfl
    have k7_ : w1.cell? ⟨q, 7, none⟩ = some (.string p.data) := (cell_of_row _ _ _ _ _ _ hbx).trans rfl
    clear hbx
    go_wp2_with fail
    refine (handle_any (Plus X q) W w1 g m c o p H1.out HL.out).mono ?_; rintro e w2 ⟨⟨v2, rfl⟩, h2⟩
    have H2 := Lib.hid h2
    clear h2
    go_wp2_with fail
    (try simp only [Exit.inBlock, Exit.then])
    first
      | refine bodyPost_end (results_none rfl _ _ _) rfl ?_
      | refine bodyPost_ret (results_none rfl _ _ _) rfl ?_
    exact ⟨⟨_, rfl⟩, H.out.back HBW.out H2.out⟩
  rw [if_neg h1, if_neg h1]
  by_cases h2 : v = 2
  · rw [if_pos h2, if_neg (by omega)]
    have vv1 : (v == 1) = false := by simp; omega
    have vv2 : (v == 2) = true := by simp; omega
    have vv3 : (v == 3) = false := by simp; omega
    have vv4 : (v == 4) = false := by simp; omega
    clear h1 h2
    show Calls Tryd.prog _ #[_, .agg #[.int .i64 p.kind, .int .i64 p.sq, .int .u32 p.n, .int .u32 p.ps, .int .u32 p.mr, .slice p.la p.ln p.lc, .bool p.self, .string p.data]] _ _
    go_enter Tryd.func50, Tryd.ntmps50
    go_wp2_with fail
    show Code.wp _ _ _ _ (w.alloc (.cells (encP p) 74))
    rw [← hW, ← hq]
    clear hW hq
    have k0_ : W.cell? ⟨q, 0, none⟩ = some (.int .i64 p.kind) := (cell_of_row _ _ _ _ _ _ HBX.out).trans rfl
    have k1_ : W.cell? ⟨q, 1, none⟩ = some (.int .i64 p.sq) := (cell_of_row _ _ _ _ _ _ HBX.out).trans rfl
    have k2_ : W.cell? ⟨q, 2, none⟩ = some (.int .u32 p.n) := (cell_of_row _ _ _ _ _ _ HBX.out).trans rfl
    have k3_ : W.cell? ⟨q, 3, none⟩ = some (.int .u32 p.ps) := (cell_of_row _ _ _ _ _ _ HBX.out).trans rfl
    have k4_ : W.cell? ⟨q, 4, none⟩ = some (.int .u32 p.mr) := (cell_of_row _ _ _ _ _ _ HBX.out).trans rfl
    have k5_ : W.cell? ⟨q, 5, none⟩ = some (.slice p.la p.ln p.lc) := (cell_of_row _ _ _ _ _ _ HBX.out).trans rfl
    have k6_ : W.cell? ⟨q, 6, none⟩ = some (.bool p.self) := (cell_of_row _ _ _ _ _ _ HBX.out).trans rfl
    have k7_ : W.cell? ⟨q, 7, none⟩ = some (.string p.data) := (cell_of_row _ _ _ _ _ _ HBX.out).trans rfl
    have p0_ := H0.out.p0
    have c2_ := H0.out.c2
    refine QT.region_quiet_tail 9 (by kernel_rfl) (by decide) (by kernel_rfl) ?_
    simp only [List.take_succ_cons, List.take_zero, List.drop_succ_cons, List.drop_zero]
    repeat (go_big_quiet_step (fail))
    refine wpQuiet_nil ?_
    intro _ hw'
    obtain ⟨nq, rfl⟩ := hw'
    go_wp2_with fail
    clear p0_ c2_
    clear k0_ k1_ k2_ k3_ k4_ k5_ k6_ k7_
    refine (Rules.of_any c.state p.kind HWF.out _).mono ?_; rintro e w1 ⟨rfl, hb1⟩
    rw [HV.out]
    have H1 := Lib.hid ((H0.out.drewN nq).below hb1)
    clear hb1
    have hbx := H1.out.boxed HBX.out HGQ.out
    have k0_ : w1.cell? ⟨q, 0, none⟩ = some (.int .i64 p.kind) := (cell_of_row _ _ _ _ _ _ hbx).trans rfl
    have k1_ : w1.cell? ⟨q, 1, none⟩ = some (.int .i64 p.sq) := (cell_of_row _ _ _ _ _ _ hbx).trans rfl
    have k2_ : w1.cell? ⟨q, 2, none⟩ = some (.int .u32 p.n) := (cell_of_row _ _ _ _ _ _ hbx).trans rfl
    have k3_ : w1.cell? ⟨q, 3, none⟩ = some (.int .u32 p.ps) := (cell_of_row _ _ _ _ _ _ hbx).trans rfl
    have k4_ : w1.cell? ⟨q, 4, none⟩ = some (.int .u32 p.mr) := (cell_of_row _ _ _ _ _ _ hbx).trans rfl
    have k5_ : w1.cell? ⟨q, 5, none⟩ = some (.slice p.la p.ln p.lc) := (cell_of_row _ _ _ _ _ _ hbx).trans rfl
    have k6_ : w1.cell? ⟨q, 6, none⟩ = some (.bool p.self) := (cell_of_row _ _ _ _ _ _ hbx).trans rfl
    have k7_ : w1.cell? ⟨q, 7, none⟩ = some (.string p.data) := (cell_of_row _ _ _ _ _ _ hbx).trans rfl
    clear hbx
    go_wp2_with fail
    refine (Rules.letter_any p.kind _ (H1.out.tabs HTW.out (.inl HXT.out) HGL.out)).mono ?_; rintro e w' ⟨rfl, hww⟩
    obtain rfl : w1 = w' := hww
    clear k0_ k1_ k2_ k3_ k4_ k5_ k6_ k7_
    go_wp2_with fail
    refine (report_any (Plus X q) W w1 g m c o (Rules.letterI p.kind) H1.out (HL.out.more (by decide))).mono ?_; rintro e w2 ⟨⟨v2, rfl⟩, h2⟩
    have H2 := Lib.hid h2
    clear h2
    go_wp2_with fail
    (try simp only [Exit.inBlock, Exit.then])
    first
      | refine bodyPost_end (results_none rfl _ _ _) rfl ?_
      | refine bodyPost_ret (results_none rfl _ _ _) rfl ?_
    exact ⟨⟨_, rfl⟩, H.out.back HBW.out H2.out⟩
  rw [if_neg h2]
  by_cases h3 : v = 3
  · rw [if_pos h3, if_neg (by omega)]
    have vv1 : (v == 1) = false := by simp; omega
    have vv2 : (v == 2) = false := by simp; omega
    have vv3 : (v == 3) = true := by simp; omega
    have vv4 : (v == 4) = false := by simp; omega
    clear h1 h2 h3
    show Calls Tryd.prog _ #[_, .agg #[.int .i64 p.kind, .int .i64 p.sq, .int .u32 p.n, .int .u32 p.ps, .int .u32 p.mr, .slice p.la p.ln p.lc, .bool p.self, .string p.data]] _ _
    go_enter Tryd.func50, Tryd.ntmps50
    go_wp2_with fail
    show Code.wp _ _ _ _ (w.alloc (.cells (encP p) 74))
    rw [← hW, ← hq]
    clear hW hq
    have k0_ : W.cell? ⟨q, 0, none⟩ = some (.int .i64 p.kind) := (cell_of_row _ _ _ _ _ _ HBX.out).trans rfl
    have k1_ : W.cell? ⟨q, 1, none⟩ = some (.int .i64 p.sq) := (cell_of_row _ _ _ _ _ _ HBX.out).trans rfl
    have k2_ : W.cell? ⟨q, 2, none⟩ = some (.int .u32 p.n) := (cell_of_row _ _ _ _ _ _ HBX.out).trans rfl
    have k3_ : W.cell? ⟨q, 3, none⟩ = some (.int .u32 p.ps) := (cell_of_row _ _ _ _ _ _ HBX.out).trans rfl
    have k4_ : W.cell? ⟨q, 4, none⟩ = some (.int .u32 p.mr) := (cell_of_row _ _ _ _ _ _ HBX.out).trans rfl
    have k5_ : W.cell? ⟨q, 5, none⟩ = some (.slice p.la p.ln p.lc) := (cell_of_row _ _ _ _ _ _ HBX.out).trans rfl
    have k6_ : W.cell? ⟨q, 6, none⟩ = some (.bool p.self) := (cell_of_row _ _ _ _ _ _ HBX.out).trans rfl
    have k7_ : W.cell? ⟨q, 7, none⟩ = some (.string p.data) := (cell_of_row _ _ _ _ _ _ HBX.out).trans rfl
    have p0_ := H0.out.p0
    have c2_ := H0.out.c2
    refine QT.region_quiet_tail 9 (by kernel_rfl) (by decide) (by kernel_rfl) ?_
    simp only [List.take_succ_cons, List.take_zero, List.drop_succ_cons, List.drop_zero]
    repeat (go_big_quiet_step (fail))
    refine wpQuiet_nil ?_
    intro _ hw'
    obtain ⟨nq, rfl⟩ := hw'
    go_wp2_with fail
    clear p0_ c2_
    clear k0_ k1_ k2_ k3_ k4_ k5_ k6_ k7_
    refine (Rules.of_any c.state p.kind HWF.out _).mono ?_; rintro e w1 ⟨rfl, hb1⟩
    rw [HV.out]
    have H1 := Lib.hid ((H0.out.drewN nq).below hb1)
    clear hb1
    have hbx := H1.out.boxed HBX.out HGQ.out
    have k0_ : w1.cell? ⟨q, 0, none⟩ = some (.int .i64 p.kind) := (cell_of_row _ _ _ _ _ _ hbx).trans rfl
    have k1_ : w1.cell? ⟨q, 1, none⟩ = some (.int .i64 p.sq) := (cell_of_row _ _ _ _ _ _ hbx).trans rfl
    have k2_ : w1.cell? ⟨q, 2, none⟩ = some (.int .u32 p.n) := (cell_of_row _ _ _ _ _ _ hbx).trans rfl
    have k3_ : w1.cell? ⟨q, 3, none⟩ = some (.int .u32 p.ps) := (cell_of_row _ _ _ _ _ _ hbx).trans rfl
    have k4_ : w1.cell? ⟨q, 4, none⟩ = some (.int .u32 p.mr) := (cell_of_row _ _ _ _ _ _ hbx).trans rfl
    have k5_ : w1.cell? ⟨q, 5, none⟩ = some (.slice p.la p.ln p.lc) := (cell_of_row _ _ _ _ _ _ hbx).trans rfl
    have k6_ : w1.cell? ⟨q, 6, none⟩ = some (.bool p.self) := (cell_of_row _ _ _ _ _ _ hbx).trans rfl
    have k7_ : w1.cell? ⟨q, 7, none⟩ = some (.string p.data) := (cell_of_row _ _ _ _ _ _ hbx).trans rfl
    clear hbx
    go_wp2_with fail
    refine (Rules.letter_any p.kind _ (H1.out.tabs HTW.out (.inl HXT.out) HGL.out)).mono ?_; rintro e w' ⟨rfl, hww⟩
    obtain rfl : w1 = w' := hww
    clear k0_ k1_ k2_ k3_ k4_ k5_ k6_ k7_
    go_wp2_with fail
    refine (report_any (Plus X q) W w1 g m c o (Rules.letterI p.kind) H1.out (HL.out.more (by decide))).mono ?_; rintro e w2 ⟨⟨v2, rfl⟩, h2⟩
    have H2 := Lib.hid h2
    clear h2
    go_wp2_with fail
    refine (end_any (Plus X q) W w2 g m c _ H2.out (by have := HL.out.1; have := HL.out.2; exact ⟨by show (o.sigs ++ [_]).length ≤ 990; simp; omega, by show o.units.length ≤ 990; omega⟩)).mono ?_; rintro e w3 ⟨⟨v3, rfl⟩, h3⟩
    have H3 := Lib.hid h3
    clear h3
    go_wp2_with fail
    (try simp only [Exit.inBlock, Exit.then])
    first
      | refine bodyPost_end (results_none rfl _ _ _) rfl ?_
      | refine bodyPost_ret (results_none rfl _ _ _) rfl ?_
    exact ⟨⟨_, rfl⟩, H.out.back HBW.out H3.out⟩
  rw [if_neg h3]
  by_cases h4 : v = 4
  · rw [if_pos h4, if_pos h4]
    have vv1 : (v == 1) = false := by simp; omega
    have vv2 : (v == 2) = false := by simp; omega
    have vv3 : (v == 3) = false := by simp; omega
    have vv4 : (v == 4) = true := by simp; omega
    clear h1 h2 h3 h4
    show Calls Tryd.prog _ #[_, .agg #[.int .i64 p.kind, .int .i64 p.sq, .int .u32 p.n, .int .u32 p.ps, .int .u32 p.mr, .slice p.la p.ln p.lc, .bool p.self, .string p.data]] _ _
    go_enter Tryd.func50, Tryd.ntmps50
    go_wp2_with fail
    show Code.wp _ _ _ _ (w.alloc (.cells (encP p) 74))
    rw [← hW, ← hq]
    clear hW hq
    have k0_ : W.cell? ⟨q, 0, none⟩ = some (.int .i64 p.kind) := (cell_of_row _ _ _ _ _ _ HBX.out).trans rfl
    have k1_ : W.cell? ⟨q, 1, none⟩ = some (.int .i64 p.sq) := (cell_of_row _ _ _ _ _ _ HBX.out).trans rfl
    have k2_ : W.cell? ⟨q, 2, none⟩ = some (.int .u32 p.n) := (cell_of_row _ _ _ _ _ _ HBX.out).trans rfl
    have k3_ : W.cell? ⟨q, 3, none⟩ = some (.int .u32 p.ps) := (cell_of_row _ _ _ _ _ _ HBX.out).trans rfl
    have k4_ : W.cell? ⟨q, 4, none⟩ = some (.int .u32 p.mr) := (cell_of_row _ _ _ _ _ _ HBX.out).trans rfl
    have k5_ : W.cell? ⟨q, 5, none⟩ = some (.slice p.la p.ln p.lc) := (cell_of_row _ _ _ _ _ _ HBX.out).trans rfl
    have k6_ : W.cell? ⟨q, 6, none⟩ = some (.bool p.self) := (cell_of_row _ _ _ _ _ _ HBX.out).trans rfl
    have k7_ : W.cell? ⟨q, 7, none⟩ = some (.string p.data) := (cell_of_row _ _ _ _ _ _ HBX.out).trans rfl
    have p0_ := H0.out.p0
    have c2_ := H0.out.c2
    refine QT.region_quiet_tail 9 (by kernel_rfl) (by decide) (by kernel_rfl) ?_
    simp only [List.take_succ_cons, List.take_zero, List.drop_succ_cons, List.drop_zero]
    repeat (go_big_quiet_step (fail))
    refine wpQuiet_nil ?_
    intro _ hw'
    obtain ⟨nq, rfl⟩ := hw'
    go_wp2_with fail
    clear p0_ c2_
    clear k0_ k1_ k2_ k3_ k4_ k5_ k6_ k7_
    refine (Rules.of_any c.state p.kind HWF.out _).mono ?_; rintro e w1 ⟨rfl, hb1⟩
    rw [HV.out]
    have H1 := Lib.hid ((H0.out.drewN nq).below hb1)
    clear hb1
    have hbx := H1.out.boxed HBX.out HGQ.out
    have k0_ : w1.cell? ⟨q, 0, none⟩ = some (.int .i64 p.kind) := (cell_of_row _ _ _ _ _ _ hbx).trans rfl
    have k1_ : w1.cell? ⟨q, 1, none⟩ = some (.int .i64 p.sq) := (cell_of_row _ _ _ _ _ _ hbx).trans rfl
    have k2_ : w1.cell? ⟨q, 2, none⟩ = some (.int .u32 p.n) := (cell_of_row _ _ _ _ _ _ hbx).trans rfl
    have k3_ : w1.cell? ⟨q, 3, none⟩ = some (.int .u32 p.ps) := (cell_of_row _ _ _ _ _ _ hbx).trans rfl
    have k4_ : w1.cell? ⟨q, 4, none⟩ = some (.int .u32 p.mr) := (cell_of_row _ _ _ _ _ _ hbx).trans rfl
    have k5_ : w1.cell? ⟨q, 5, none⟩ = some (.slice p.la p.ln p.lc) := (cell_of_row _ _ _ _ _ _ hbx).trans rfl
    have k6_ : w1.cell? ⟨q, 6, none⟩ = some (.bool p.self) := (cell_of_row _ _ _ _ _ _ hbx).trans rfl
    have k7_ : w1.cell? ⟨q, 7, none⟩ = some (.string p.data) := (cell_of_row _ _ _ _ _ _ hbx).trans rfl
    clear hbx
    go_wp2_with fail
    refine (Rules.letter_any p.kind _ (H1.out.tabs HTW.out (.inl HXT.out) HGL.out)).mono ?_; rintro e w' ⟨rfl, hww⟩
    obtain rfl : w1 = w' := hww
    clear k0_ k1_ k2_ k3_ k4_ k5_ k6_ k7_
    go_wp2_with fail
    refine (report_any (Plus X q) W w1 g m c o (Rules.letterI p.kind) H1.out (HL.out.more (by decide))).mono ?_; rintro e w2 ⟨⟨v2, rfl⟩, h2⟩
    have H2 := Lib.hid h2
    clear h2
    go_wp2_with fail
    refine (released_any (Plus X q) W w2 g m c _ true noD H2.out (by have := HL.out.1; have := HL.out.2; exact ⟨by show (o.sigs ++ [_]).length ≤ 990; simp; omega, by show o.units.length ≤ 990; omega⟩)).mono ?_; rintro e w3 ⟨⟨v3, rfl⟩, h3⟩
    have H3 := Lib.hid h3
    clear h3
    go_wp2_with fail
    refine (stop_any (Plus X q) W w3 g m c _ 1 H3.out).mono ?_; rintro e w4 ⟨⟨v4, rfl⟩, h4⟩
    have H4 := Lib.hid h4
    clear h4
    go_wp2_with fail
    (try simp only [Exit.inBlock, Exit.then])
    first
      | refine bodyPost_end (results_none rfl _ _ _) rfl ?_
      | refine bodyPost_ret (results_none rfl _ _ _) rfl ?_
    exact ⟨⟨_, rfl⟩, H.out.back HBW.out H4.out⟩
  rw [if_neg h4, if_neg h4]
  have vv1 : (v == 1) = false := by simp; omega
  have vv2 : (v == 2) = false := by simp; omega
  have vv3 : (v == 3) = false := by simp; omega
  have vv4 : (v == 4) = false := by simp; omega
  clear h1 h2 h3 h4
  show Calls Tryd.prog _ #[_, .agg #[.int .i64 p.kind, .int .i64 p.sq, .int .u32 p.n, .int .u32 p.ps, .int .u32 p.mr, .slice p.la p.ln p.lc, .bool p.self, .string p.data]] _ _
  go_enter Tryd.func50, Tryd.ntmps50
  go_wp2_with fail
  show Code.wp _ _ _ _ (w.alloc (.cells (encP p) 74))
  rw [← hW, ← hq]
  clear hW hq
  have k0_ : W.cell? ⟨q, 0, none⟩ = some (.int .i64 p.kind) := (cell_of_row _ _ _ _ _ _ HBX.out).trans rfl
  have k1_ : W.cell? ⟨q, 1, none⟩ = some (.int .i64 p.sq) := (cell_of_row _ _ _ _ _ _ HBX.out).trans rfl
  have k2_ : W.cell? ⟨q, 2, none⟩ = some (.int .u32 p.n) := (cell_of_row _ _ _ _ _ _ HBX.out).trans rfl
  have k3_ : W.cell? ⟨q, 3, none⟩ = some (.int .u32 p.ps) := (cell_of_row _ _ _ _ _ _ HBX.out).trans rfl
  have k4_ : W.cell? ⟨q, 4, none⟩ = some (.int .u32 p.mr) := (cell_of_row _ _ _ _ _ _ HBX.out).trans rfl
  have k5_ : W.cell? ⟨q, 5, none⟩ = some (.slice p.la p.ln p.lc) := (cell_of_row _ _ _ _ _ _ HBX.out).trans rfl
  have k6_ : W.cell? ⟨q, 6, none⟩ = some (.bool p.self) := (cell_of_row _ _ _ _ _ _ HBX.out).trans rfl
  have k7_ : W.cell? ⟨q, 7, none⟩ = some (.string p.data) := (cell_of_row _ _ _ _ _ _ HBX.out).trans rfl
  have p0_ := H0.out.p0
  have c2_ := H0.out.c2
  refine QT.region_quiet_tail 9 (by kernel_rfl) (by decide) (by kernel_rfl) ?_
  simp only [List.take_succ_cons, List.take_zero, List.drop_succ_cons, List.drop_zero]
  repeat (go_big_quiet_step (fail))
  refine wpQuiet_nil ?_
  intro _ hw'
  obtain ⟨nq, rfl⟩ := hw'
  go_wp2_with fail
  clear p0_ c2_
  clear k0_ k1_ k2_ k3_ k4_ k5_ k6_ k7_
  refine (Rules.of_any c.state p.kind HWF.out _).mono ?_; rintro e w1 ⟨rfl, hb1⟩
  rw [HV.out]
  have H1 := Lib.hid ((H0.out.drewN nq).below hb1)
  clear hb1
  have hbx := H1.out.boxed HBX.out HGQ.out
  have k0_ : w1.cell? ⟨q, 0, none⟩ = some (.int .i64 p.kind) := (cell_of_row _ _ _ _ _ _ hbx).trans rfl
  have k1_ : w1.cell? ⟨q, 1, none⟩ = some (.int .i64 p.sq) := (cell_of_row _ _ _ _ _ _ hbx).trans rfl
  have k2_ : w1.cell? ⟨q, 2, none⟩ = some (.int .u32 p.n) := (cell_of_row _ _ _ _ _ _ hbx).trans rfl
  have k3_ : w1.cell? ⟨q, 3, none⟩ = some (.int .u32 p.ps) := (cell_of_row _ _ _ _ _ _ hbx).trans rfl
  have k4_ : w1.cell? ⟨q, 4, none⟩ = some (.int .u32 p.mr) := (cell_of_row _ _ _ _ _ _ hbx).trans rfl
  have k5_ : w1.cell? ⟨q, 5, none⟩ = some (.slice p.la p.ln p.lc) := (cell_of_row _ _ _ _ _ _ hbx).trans rfl
  have k6_ : w1.cell? ⟨q, 6, none⟩ = some (.bool p.self) := (cell_of_row _ _ _ _ _ _ hbx).trans rfl
  have k7_ : w1.cell? ⟨q, 7, none⟩ = some (.string p.data) := (cell_of_row _ _ _ _ _ _ hbx).trans rfl
  clear hbx
  clear k0_ k1_ k2_ k3_ k4_ k5_ k6_ k7_
  go_wp2_with fail
  (try simp only [Exit.inBlock, Exit.then])
  first
    | refine bodyPost_end (results_none rfl _ _ _) rfl ?_
    | refine bodyPost_ret (results_none rfl _ _ _) rfl ?_
  exact ⟨⟨_, rfl⟩, H.out.back HBW.out H1.out⟩
end
end Go.Proofs.YtkphompjahcjiaaDoor.Conn
