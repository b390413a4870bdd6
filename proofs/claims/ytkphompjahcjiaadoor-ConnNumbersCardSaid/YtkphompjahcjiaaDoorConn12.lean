/-
  A connection: a unit, by its kind.
-/
import Derived.Test.YtkphompjahcjiaaDoorConn11
import Derived.StillTailTactics
import Derived.BigQuiet
import Derived.Deep.RegionHeld3
namespace Go.Proofs.YtkphompjahcjiaaDoor.Conn
open Go.RowKit

def hearNewC (c : C) (p : P) : C := if p.kind = 1 then hearBGNC c else if p.kind = 5 then hearRSC c else if p.kind = 9 then hearERC c else c
def hearNewO (c : C) (o : O) (p : P) : O := if p.kind = 1 then hearBGNO c o p else if p.kind = 5 then hearRSO c o p else if p.kind = 9 then hearERO c o p else o
def peerC (c : C) (p : P) : C := { c with peer := p.sq, ms := p.n }
def isNew (p : P) : Prop := p.kind = 1 ∨ p.kind = 5 ∨ p.kind = 9
def isAns (p : P) : Prop := p.kind = 2 ∨ p.kind = 6 ∨ p.kind = 15 ∨ p.kind = 7 ∨ p.kind = 4
instance (p : P) : Decidable (isNew p) := inferInstanceAs (Decidable (_ ∨ _ ∨ _))
instance (p : P) : Decidable (isAns p) := inferInstanceAs (Decidable (_ ∨ _ ∨ _ ∨ _ ∨ _))
def handleC (c : C) (p : P) : C := if isNew p then (if p.sq = c.peer then c else hearNewC (peerC c p) p) else if p.kind = 3 then hearEndC c else if isAns p then (if p.sq = c.sq then hearAnswerC c p else c) else c
def handleO (c : C) (o : O) (p : P) : O :=
  if isNew p then (if p.sq = c.peer then hearOldO c o p else hearNewO (peerC c p) o p) else if p.kind = 3 then hearEndO c o p else if isAns p then (if p.sq = c.sq then hearAnswerO c o p else o) else o

section
variable (X : Nat → Prop) (w0 w : World) (g m : Nat) (c : C) (o : O) (p : P)
set_option maxRecDepth 100000 in
set_option maxHeartbeats 4000000 in
theorem hearNew_any (h : Make X w0 w g m c o) (hl : Few o 900) :
    Calls Tryd.prog 84 #[.pointer (some ⟨m, 0, none⟩), .agg (encP p)] w fun e w' => (∃ v, e = .returned v) ∧ Make X w0 w' g m (hearNewC c p) (hearNewO c o p) := by
  obtain ⟨W, hW⟩ : ∃ W, W = w.alloc (.cells (encP p) 74) := ⟨_, rfl⟩
  obtain ⟨q, hq⟩ : ∃ q, q = w.heap.size := ⟨_, rfl⟩
  have HBW : Hid (Below w.heap.size w W) := Lib.hid (by rw [hW]; exact (Below.refl _ _).alloc (Nat.le_refl _) _)
  have H := Lib.hid h
  have HL := Lib.hid hl
  have H0 : Hid (Make (Plus X q) W W g m c o) := Lib.hid (by rw [hW, hq]; exact h.held _)
  have HGQ : Hid (q ≠ g) := Lib.hid (by rw [hq]; have := h.glt; omega)
  have HBX : Hid (W.heap[q]? = some (.cells (encP p) 74 (0, 0))) := Lib.hid (by rw [hW, hq]; exact heap_alloc_new w _)
  clear h hl
  by_cases k1 : p.kind = 1
  · have hC : hearNewC c p = hearBGNC c := by unfold hearNewC; rw [if_pos (by omega)]
    rw [hC]
    clear hC
    have hO : hearNewO c o p = hearBGNO c o p := by unfold hearNewO; rw [if_pos (by omega)]
    rw [hO]
    clear hO
    have kk1 : (p.kind == 1) = true := by simp; omega
    have kk5 : (p.kind == 5) = false := by simp; omega
    have kk9 : (p.kind == 9) = false := by simp; omega
    clear k1
    show Calls Tryd.prog _ #[_, .agg #[.int .i64 p.kind, .int .i64 p.sq, .int .u32 p.n, .int .u32 p.ps, .int .u32 p.mr, .slice p.la p.ln p.lc, .bool p.self, .string p.data]] _ _
    go_enter Tryd.func84, Tryd.ntmps84
    go_wp2_with fail
    show Calls Tryd.prog _ _ (w.alloc (.cells (encP p) 74)) _
    rw [← hW, ← hq]
    clear hW hq
    refine (hearBGN_any (Plus X q) W _ g m c o p H0.out HL.out).mono ?_; rintro e w1 ⟨⟨v1, rfl⟩, h1⟩
    have H1 := Lib.hid h1
    clear h1
    go_wp2_with fail
    (try simp only [Exit.inBlock, Exit.then])
    first
      | refine bodyPost_end (results_none rfl _ _ _) rfl ?_
      | refine bodyPost_ret (results_none rfl _ _ _) rfl ?_
    exact ⟨⟨_, rfl⟩, H.out.back HBW.out H1.out⟩
  by_cases k5 : p.kind = 5
  · have hC : hearNewC c p = hearRSC c := by unfold hearNewC; rw [if_neg (by omega), if_pos (by omega)]
    rw [hC]
    clear hC
    have hO : hearNewO c o p = hearRSO c o p := by unfold hearNewO; rw [if_neg (by omega), if_pos (by omega)]
    rw [hO]
    clear hO
    have kk1 : (p.kind == 1) = false := by simp; omega
    have kk5 : (p.kind == 5) = true := by simp; omega
    have kk9 : (p.kind == 9) = false := by simp; omega
    clear k1 k5
    show Calls Tryd.prog _ #[_, .agg #[.int .i64 p.kind, .int .i64 p.sq, .int .u32 p.n, .int .u32 p.ps, .int .u32 p.mr, .slice p.la p.ln p.lc, .bool p.self, .string p.data]] _ _
    go_enter Tryd.func84, Tryd.ntmps84
    go_wp2_with fail
    show Calls Tryd.prog _ _ (w.alloc (.cells (encP p) 74)) _
    rw [← hW, ← hq]
    clear hW hq
    refine (hearRS_any (Plus X q) W _ g m c o p H0.out HL.out).mono ?_; rintro e w1 ⟨⟨v1, rfl⟩, h1⟩
    have H1 := Lib.hid h1
    clear h1
    go_wp2_with fail
    (try simp only [Exit.inBlock, Exit.then])
    first
      | refine bodyPost_end (results_none rfl _ _ _) rfl ?_
      | refine bodyPost_ret (results_none rfl _ _ _) rfl ?_
    exact ⟨⟨_, rfl⟩, H.out.back HBW.out H1.out⟩
  by_cases k9 : p.kind = 9
  · have hC : hearNewC c p = hearERC c := by unfold hearNewC; rw [if_neg (by omega), if_neg (by omega), if_pos (by omega)]
    rw [hC]
    clear hC
    have hO : hearNewO c o p = hearERO c o p := by unfold hearNewO; rw [if_neg (by omega), if_neg (by omega), if_pos (by omega)]
    rw [hO]
    clear hO
    have kk1 : (p.kind == 1) = false := by simp; omega
    have kk5 : (p.kind == 5) = false := by simp; omega
    have kk9 : (p.kind == 9) = true := by simp; omega
    clear k1 k5 k9
    show Calls Tryd.prog _ #[_, .agg #[.int .i64 p.kind, .int .i64 p.sq, .int .u32 p.n, .int .u32 p.ps, .int .u32 p.mr, .slice p.la p.ln p.lc, .bool p.self, .string p.data]] _ _
    go_enter Tryd.func84, Tryd.ntmps84
    go_wp2_with fail
    show Calls Tryd.prog _ _ (w.alloc (.cells (encP p) 74)) _
    rw [← hW, ← hq]
    clear hW hq
    refine (hearER_any (Plus X q) W _ g m c o p H0.out HL.out).mono ?_; rintro e w1 ⟨⟨v1, rfl⟩, h1⟩
    have H1 := Lib.hid h1
    clear h1
    go_wp2_with fail
    (try simp only [Exit.inBlock, Exit.then])
    first
      | refine bodyPost_end (results_none rfl _ _ _) rfl ?_
      | refine bodyPost_ret (results_none rfl _ _ _) rfl ?_
    exact ⟨⟨_, rfl⟩, H.out.back HBW.out H1.out⟩
  have hC : hearNewC c p = c := by unfold hearNewC; rw [if_neg (by omega), if_neg (by omega), if_neg (by omega)]
  rw [hC]
  clear hC
  have hO : hearNewO c o p = o := by unfold hearNewO; rw [if_neg (by omega), if_neg (by omega), if_neg (by omega)]
  rw [hO]
  clear hO
  have kk1 : (p.kind == 1) = false := by simp; omega
  have kk5 : (p.kind == 5) = false := by simp; omega
  have kk9 : (p.kind == 9) = false := by simp; omega
  clear k1 k5 k9
  show Calls Tryd.prog _ #[_, .agg #[.int .i64 p.kind, .int .i64 p.sq, .int .u32 p.n, .int .u32 p.ps, .int .u32 p.mr, .slice p.la p.ln p.lc, .bool p.self, .string p.data]] _ _
  go_enter Tryd.func84, Tryd.ntmps84
  go_wp2_with fail
  (try simp only [Exit.inBlock, Exit.then])
  first
    | refine bodyPost_end (results_none rfl _ _ _) rfl ?_
    | refine bodyPost_ret (results_none rfl _ _ _) rfl ?_
  exact ⟨⟨_, rfl⟩, H.out.alloc _⟩
set_option maxRecDepth 100000 in
set_option maxHeartbeats 4000000 in
theorem handle_any (h : Make X w0 w g m c o) (hl : Few o 900) :
    Calls Tryd.prog 75 #[.pointer (some ⟨m, 0, none⟩), .agg (encP p)] w fun e w' => (∃ v, e = .returned v) ∧ Make X w0 w' g m (handleC c p) (handleO c o p) := by
  obtain ⟨W, hW⟩ : ∃ W, W = w.alloc (.cells (encP p) 74) := ⟨_, rfl⟩
  obtain ⟨q, hq⟩ : ∃ q, q = w.heap.size := ⟨_, rfl⟩
  have HBW : Hid (Below w.heap.size w W) := Lib.hid (by rw [hW]; exact (Below.refl _ _).alloc (Nat.le_refl _) _)
  have H := Lib.hid h
  have HL := Lib.hid hl
  have H0 : Hid (Make (Plus X q) W W g m c o) := Lib.hid (by rw [hW, hq]; exact h.held _)
  have HGQ : Hid (q ≠ g) := Lib.hid (by rw [hq]; have := h.glt; omega)
  have HBX : Hid (W.heap[q]? = some (.cells (encP p) 74 (0, 0))) := Lib.hid (by rw [hW, hq]; exact heap_alloc_new w _)
  clear h hl
  by_cases hn : isNew p
  · by_cases he : p.sq = c.peer
    · have hC : handleC c p = c := by unfold handleC; rw [if_pos hn, if_pos he]
      have hO : handleO c o p = hearOldO c o p := by unfold handleO; rw [if_pos hn, if_pos he]
      rw [hC, hO]
      clear hC hO
      have hq1 : (p.sq == c.peer) = true := by simp [he]
      unfold isNew at hn
      rcases hn with k | k | k
      · have kk1 : (p.kind == 1) = true := by simp; omega
        have kk5 : (p.kind == 5) = false := by simp; omega
        have kk9 : (p.kind == 9) = false := by simp; omega
        clear k
        clear he
        show Calls Tryd.prog _ #[_, .agg #[.int .i64 p.kind, .int .i64 p.sq, .int .u32 p.n, .int .u32 p.ps, .int .u32 p.mr, .slice p.la p.ln p.lc, .bool p.self, .string p.data]] _ _
        go_enter Tryd.func75, Tryd.ntmps75
        go_wp2_with fail
        show Code.wp _ _ _ _ (w.alloc (.cells (encP p) 74))
        rw [← hW, ← hq]
        clear hW hq
        have k0_ : W.cell? ⟨q, 0, none⟩ = some (.int .i64 p.kind) := (cell_of_row _ _ _ _ _ _ HBX.out).trans rfl
        have k1_ : W.cell? ⟨q, 1, none⟩ = some (.int .i64 p.sq) := (cell_of_row _ _ _ _ _ _ HBX.out).trans rfl
        have k2_ : W.cell? ⟨q, 2, none⟩ = some (.int .u32 p.n) := (cell_of_row _ _ _ _ _ _ HBX.out).trans rfl
        have k3_ : W.cell? ⟨q, 3, none⟩ = some (.int .u32 p.ps) := (cell_of_row _ _ _ _ _ _ HBX.out).trans rfl
        have k4_ : W.cell? ⟨q, 4, none⟩ = some (.int .u32 p.mr) := (cell_of_row _ _ _ _ _ _ HBX.out).trans rfl
        have k5_ : W.cell? ⟨q, 5, none⟩ = some (.slice p.la p.ln p.lc) := (cell_of_row _ _ _ _ _ _ HBX.out).trans rfl
        have k6_ : W.cell? ⟨q, 6, none⟩ = some (.bool p.self) := (cell_of_row _ _ _ _ _ _ HBX.out).trans rfl
        have k7_ : W.cell? ⟨q, 7, none⟩ = some (.string p.data) := (cell_of_row _ _ _ _ _ _ HBX.out).trans rfl
        have p0_ := H0.out.p0
        have c4_ := H0.out.c4
        go_quiet (fail)
        have H0q := Lib.hid (H0.out.drewN nq)
        go_wp2_with fail
        refine (hearOld_any (Plus X q) W _ g m c o p H0q.out HL.out).mono ?_; rintro e w1 ⟨⟨v1, rfl⟩, h1⟩
        have H1 := Lib.hid h1
        clear h1
        go_wp2_with fail
        (try simp only [Exit.inBlock, Exit.then])
        first
          | refine bodyPost_end (results_none rfl _ _ _) rfl ?_
          | refine bodyPost_ret (results_none rfl _ _ _) rfl ?_
        exact ⟨⟨_, rfl⟩, H.out.back HBW.out H1.out⟩
      · have kk1 : (p.kind == 1) = false := by simp; omega
        have kk5 : (p.kind == 5) = true := by simp; omega
        have kk9 : (p.kind == 9) = false := by simp; omega
        clear k
        clear he
        show Calls Tryd.prog _ #[_, .agg #[.int .i64 p.kind, .int .i64 p.sq, .int .u32 p.n, .int .u32 p.ps, .int .u32 p.mr, .slice p.la p.ln p.lc, .bool p.self, .string p.data]] _ _
        go_enter Tryd.func75, Tryd.ntmps75
        go_wp2_with fail
        show Code.wp _ _ _ _ (w.alloc (.cells (encP p) 74))
        rw [← hW, ← hq]
        clear hW hq
        have k0_ : W.cell? ⟨q, 0, none⟩ = some (.int .i64 p.kind) := (cell_of_row _ _ _ _ _ _ HBX.out).trans rfl
        have k1_ : W.cell? ⟨q, 1, none⟩ = some (.int .i64 p.sq) := (cell_of_row _ _ _ _ _ _ HBX.out).trans rfl
        have k2_ : W.cell? ⟨q, 2, none⟩ = some (.int .u32 p.n) := (cell_of_row _ _ _ _ _ _ HBX.out).trans rfl
        have k3_ : W.cell? ⟨q, 3, none⟩ = some (.int .u32 p.ps) := (cell_of_row _ _ _ _ _ _ HBX.out).trans rfl
        have k4_ : W.cell? ⟨q, 4, none⟩ = some (.int .u32 p.mr) := (cell_of_row _ _ _ _ _ _ HBX.out).trans rfl
        have k5_ : W.cell? ⟨q, 5, none⟩ = some (.slice p.la p.ln p.lc) := (cell_of_row _ _ _ _ _ _ HBX.out).trans rfl
        have k6_ : W.cell? ⟨q, 6, none⟩ = some (.bool p.self) := (cell_of_row _ _ _ _ _ _ HBX.out).trans rfl
        have k7_ : W.cell? ⟨q, 7, none⟩ = some (.string p.data) := (cell_of_row _ _ _ _ _ _ HBX.out).trans rfl
        have p0_ := H0.out.p0
        have c4_ := H0.out.c4
        go_quiet (fail)
        have H0q := Lib.hid (H0.out.drewN nq)
        go_wp2_with fail
        refine (hearOld_any (Plus X q) W _ g m c o p H0q.out HL.out).mono ?_; rintro e w1 ⟨⟨v1, rfl⟩, h1⟩
        have H1 := Lib.hid h1
        clear h1
        go_wp2_with fail
        (try simp only [Exit.inBlock, Exit.then])
        first
          | refine bodyPost_end (results_none rfl _ _ _) rfl ?_
          | refine bodyPost_ret (results_none rfl _ _ _) rfl ?_
        exact ⟨⟨_, rfl⟩, H.out.back HBW.out H1.out⟩
      · have kk1 : (p.kind == 1) = false := by simp; omega
        have kk5 : (p.kind == 5) = false := by simp; omega
        have kk9 : (p.kind == 9) = true := by simp; omega
        clear k
        clear he
        show Calls Tryd.prog _ #[_, .agg #[.int .i64 p.kind, .int .i64 p.sq, .int .u32 p.n, .int .u32 p.ps, .int .u32 p.mr, .slice p.la p.ln p.lc, .bool p.self, .string p.data]] _ _
        go_enter Tryd.func75, Tryd.ntmps75
        go_wp2_with fail
        show Code.wp _ _ _ _ (w.alloc (.cells (encP p) 74))
        rw [← hW, ← hq]
        clear hW hq
        have k0_ : W.cell? ⟨q, 0, none⟩ = some (.int .i64 p.kind) := (cell_of_row _ _ _ _ _ _ HBX.out).trans rfl
        have k1_ : W.cell? ⟨q, 1, none⟩ = some (.int .i64 p.sq) := (cell_of_row _ _ _ _ _ _ HBX.out).trans rfl
        have k2_ : W.cell? ⟨q, 2, none⟩ = some (.int .u32 p.n) := (cell_of_row _ _ _ _ _ _ HBX.out).trans rfl
        have k3_ : W.cell? ⟨q, 3, none⟩ = some (.int .u32 p.ps) := (cell_of_row _ _ _ _ _ _ HBX.out).trans rfl
        have k4_ : W.cell? ⟨q, 4, none⟩ = some (.int .u32 p.mr) := (cell_of_row _ _ _ _ _ _ HBX.out).trans rfl
        have k5_ : W.cell? ⟨q, 5, none⟩ = some (.slice p.la p.ln p.lc) := (cell_of_row _ _ _ _ _ _ HBX.out).trans rfl
        have k6_ : W.cell? ⟨q, 6, none⟩ = some (.bool p.self) := (cell_of_row _ _ _ _ _ _ HBX.out).trans rfl
        have k7_ : W.cell? ⟨q, 7, none⟩ = some (.string p.data) := (cell_of_row _ _ _ _ _ _ HBX.out).trans rfl
        have p0_ := H0.out.p0
        have c4_ := H0.out.c4
        go_quiet (fail)
        have H0q := Lib.hid (H0.out.drewN nq)
        go_wp2_with fail
        refine (hearOld_any (Plus X q) W _ g m c o p H0q.out HL.out).mono ?_; rintro e w1 ⟨⟨v1, rfl⟩, h1⟩
        have H1 := Lib.hid h1
        clear h1
        go_wp2_with fail
        (try simp only [Exit.inBlock, Exit.then])
        first
          | refine bodyPost_end (results_none rfl _ _ _) rfl ?_
          | refine bodyPost_ret (results_none rfl _ _ _) rfl ?_
        exact ⟨⟨_, rfl⟩, H.out.back HBW.out H1.out⟩
    · have hC : handleC c p = hearNewC (peerC c p) p := by unfold handleC; rw [if_pos hn, if_neg he]
      have hO : handleO c o p = hearNewO (peerC c p) o p := by unfold handleO; rw [if_pos hn, if_neg he]
      rw [hC, hO]
      clear hC hO
      have hq1 : (p.sq == c.peer) = false := by simpa using he
      unfold isNew at hn
      rcases hn with k | k | k
      · have kk1 : (p.kind == 1) = true := by simp; omega
        have kk5 : (p.kind == 5) = false := by simp; omega
        have kk9 : (p.kind == 9) = false := by simp; omega
        clear k
        clear he
        show Calls Tryd.prog _ #[_, .agg #[.int .i64 p.kind, .int .i64 p.sq, .int .u32 p.n, .int .u32 p.ps, .int .u32 p.mr, .slice p.la p.ln p.lc, .bool p.self, .string p.data]] _ _
        go_enter Tryd.func75, Tryd.ntmps75
        go_wp2_with fail
        show Code.wp _ _ _ _ (w.alloc (.cells (encP p) 74))
        rw [← hW, ← hq]
        clear hW hq
        have k0_ : W.cell? ⟨q, 0, none⟩ = some (.int .i64 p.kind) := (cell_of_row _ _ _ _ _ _ HBX.out).trans rfl
        have k1_ : W.cell? ⟨q, 1, none⟩ = some (.int .i64 p.sq) := (cell_of_row _ _ _ _ _ _ HBX.out).trans rfl
        have k2_ : W.cell? ⟨q, 2, none⟩ = some (.int .u32 p.n) := (cell_of_row _ _ _ _ _ _ HBX.out).trans rfl
        have k3_ : W.cell? ⟨q, 3, none⟩ = some (.int .u32 p.ps) := (cell_of_row _ _ _ _ _ _ HBX.out).trans rfl
        have k4_ : W.cell? ⟨q, 4, none⟩ = some (.int .u32 p.mr) := (cell_of_row _ _ _ _ _ _ HBX.out).trans rfl
        have k5_ : W.cell? ⟨q, 5, none⟩ = some (.slice p.la p.ln p.lc) := (cell_of_row _ _ _ _ _ _ HBX.out).trans rfl
        have k6_ : W.cell? ⟨q, 6, none⟩ = some (.bool p.self) := (cell_of_row _ _ _ _ _ _ HBX.out).trans rfl
        have k7_ : W.cell? ⟨q, 7, none⟩ = some (.string p.data) := (cell_of_row _ _ _ _ _ _ HBX.out).trans rfl
        have p0_ := H0.out.p0
        have c4_ := H0.out.c4
        go_quiet (fail)
        have H0q := Lib.hid (H0.out.drewN nq)
        go_wp2_with fail
        clear p0_ c4_
        clear k0_ k1_ k2_ k3_ k4_ k5_ k6_ k7_
        generalize W.drewN nq = W2 at *
        have hbx := H0q.out.boxed HBX.out HGQ.out
        have k0_ : W2.cell? ⟨q, 0, none⟩ = some (.int .i64 p.kind) := (cell_of_row _ _ _ _ _ _ hbx).trans rfl
        have k1_ : W2.cell? ⟨q, 1, none⟩ = some (.int .i64 p.sq) := (cell_of_row _ _ _ _ _ _ hbx).trans rfl
        have k2_ : W2.cell? ⟨q, 2, none⟩ = some (.int .u32 p.n) := (cell_of_row _ _ _ _ _ _ hbx).trans rfl
        have k3_ : W2.cell? ⟨q, 3, none⟩ = some (.int .u32 p.ps) := (cell_of_row _ _ _ _ _ _ hbx).trans rfl
        have k4_ : W2.cell? ⟨q, 4, none⟩ = some (.int .u32 p.mr) := (cell_of_row _ _ _ _ _ _ hbx).trans rfl
        have k5_ : W2.cell? ⟨q, 5, none⟩ = some (.slice p.la p.ln p.lc) := (cell_of_row _ _ _ _ _ _ hbx).trans rfl
        have k6_ : W2.cell? ⟨q, 6, none⟩ = some (.bool p.self) := (cell_of_row _ _ _ _ _ _ hbx).trans rfl
        have k7_ : W2.cell? ⟨q, 7, none⟩ = some (.string p.data) := (cell_of_row _ _ _ _ _ _ hbx).trans rfl
        clear hbx
        have p0_ := H0q.out.p0
        have c4_ := H0q.out.c4
        have c5_ := H0q.out.c5
        have z4_ := H0q.out.free 4
        have z5_ := H0q.out.free 5
        have hne := H0q.out.ne
        have hne2 := H0q.out.ne'
        have hgq := HGQ.out
        have hgq2 := HGQ.out.symm
        go_region_held3 (fun w' => w'.cell? ⟨m, 0, none⟩ = some (.pointer (some ⟨g, 0, none⟩)) ∧ w'.cell? ⟨q, 1, none⟩ = some (.int .i64 p.sq) ∧ w'.cell? ⟨q, 2, none⟩ = some (.int .u32 p.n))
          (first | (with_reducible assumption) | exact ⟨p0_, k1_, k2_⟩ | go_keep)
          (fail)
        have HS1 : Hid (Make (Plus X q) W ((W2.setCell ⟨g, 4, none⟩ (.int .i64 p.sq)).setCell ⟨g, 5, none⟩ (.int .u32 p.n)).drew g m (peerC c p) o) := Lib.hid (((H0q.out.setC 4 (.int .i64 p.sq) { c with peer := p.sq } rfl).setC 5 (.int .u32 p.n) (peerC c p) rfl).drewN 1)
        generalize ((W2.setCell ⟨g, 4, none⟩ (.int .i64 p.sq)).setCell ⟨g, 5, none⟩ (.int .u32 p.n)).drew = W3 at *
        clear p0_ c4_ c5_ z4_ z5_ hne hne2 hgq hgq2
        clear k0_ k1_ k2_ k3_ k4_ k5_ k6_ k7_
        have hbx := HS1.out.boxed HBX.out HGQ.out
        have k0_ : W3.cell? ⟨q, 0, none⟩ = some (.int .i64 p.kind) := (cell_of_row _ _ _ _ _ _ hbx).trans rfl
        have k1_ : W3.cell? ⟨q, 1, none⟩ = some (.int .i64 p.sq) := (cell_of_row _ _ _ _ _ _ hbx).trans rfl
        have k2_ : W3.cell? ⟨q, 2, none⟩ = some (.int .u32 p.n) := (cell_of_row _ _ _ _ _ _ hbx).trans rfl
        have k3_ : W3.cell? ⟨q, 3, none⟩ = some (.int .u32 p.ps) := (cell_of_row _ _ _ _ _ _ hbx).trans rfl
        have k4_ : W3.cell? ⟨q, 4, none⟩ = some (.int .u32 p.mr) := (cell_of_row _ _ _ _ _ _ hbx).trans rfl
        have k5_ : W3.cell? ⟨q, 5, none⟩ = some (.slice p.la p.ln p.lc) := (cell_of_row _ _ _ _ _ _ hbx).trans rfl
        have k6_ : W3.cell? ⟨q, 6, none⟩ = some (.bool p.self) := (cell_of_row _ _ _ _ _ _ hbx).trans rfl
        have k7_ : W3.cell? ⟨q, 7, none⟩ = some (.string p.data) := (cell_of_row _ _ _ _ _ _ hbx).trans rfl
        clear hbx
        go_wp2_with fail
        refine (hearNew_any (Plus X q) W W3 g m (peerC c p) o p HS1.out HL.out).mono ?_; rintro e w1 ⟨⟨v1, rfl⟩, h1⟩
        have H1 := Lib.hid h1
        clear h1
        go_wp2_with fail
        (try simp only [Exit.inBlock, Exit.then])
        first
          | refine bodyPost_end (results_none rfl _ _ _) rfl ?_
          | refine bodyPost_ret (results_none rfl _ _ _) rfl ?_
        exact ⟨⟨_, rfl⟩, H.out.back HBW.out H1.out⟩
      · have kk1 : (p.kind == 1) = false := by simp; omega
        have kk5 : (p.kind == 5) = true := by simp; omega
        have kk9 : (p.kind == 9) = false := by simp; omega
        clear k
        clear he
        show Calls Tryd.prog _ #[_, .agg #[.int .i64 p.kind, .int .i64 p.sq, .int .u32 p.n, .int .u32 p.ps, .int .u32 p.mr, .slice p.la p.ln p.lc, .bool p.self, .string p.data]] _ _
        go_enter Tryd.func75, Tryd.ntmps75
        go_wp2_with fail
        show Code.wp _ _ _ _ (w.alloc (.cells (encP p) 74))
        rw [← hW, ← hq]
        clear hW hq
        have k0_ : W.cell? ⟨q, 0, none⟩ = some (.int .i64 p.kind) := (cell_of_row _ _ _ _ _ _ HBX.out).trans rfl
        have k1_ : W.cell? ⟨q, 1, none⟩ = some (.int .i64 p.sq) := (cell_of_row _ _ _ _ _ _ HBX.out).trans rfl
        have k2_ : W.cell? ⟨q, 2, none⟩ = some (.int .u32 p.n) := (cell_of_row _ _ _ _ _ _ HBX.out).trans rfl
        have k3_ : W.cell? ⟨q, 3, none⟩ = some (.int .u32 p.ps) := (cell_of_row _ _ _ _ _ _ HBX.out).trans rfl
        have k4_ : W.cell? ⟨q, 4, none⟩ = some (.int .u32 p.mr) := (cell_of_row _ _ _ _ _ _ HBX.out).trans rfl
        have k5_ : W.cell? ⟨q, 5, none⟩ = some (.slice p.la p.ln p.lc) := (cell_of_row _ _ _ _ _ _ HBX.out).trans rfl
        have k6_ : W.cell? ⟨q, 6, none⟩ = some (.bool p.self) := (cell_of_row _ _ _ _ _ _ HBX.out).trans rfl
        have k7_ : W.cell? ⟨q, 7, none⟩ = some (.string p.data) := (cell_of_row _ _ _ _ _ _ HBX.out).trans rfl
        have p0_ := H0.out.p0
        have c4_ := H0.out.c4
        go_quiet (fail)
        have H0q := Lib.hid (H0.out.drewN nq)
        go_wp2_with fail
        clear p0_ c4_
        clear k0_ k1_ k2_ k3_ k4_ k5_ k6_ k7_
        generalize W.drewN nq = W2 at *
        have hbx := H0q.out.boxed HBX.out HGQ.out
        have k0_ : W2.cell? ⟨q, 0, none⟩ = some (.int .i64 p.kind) := (cell_of_row _ _ _ _ _ _ hbx).trans rfl
        have k1_ : W2.cell? ⟨q, 1, none⟩ = some (.int .i64 p.sq) := (cell_of_row _ _ _ _ _ _ hbx).trans rfl
        have k2_ : W2.cell? ⟨q, 2, none⟩ = some (.int .u32 p.n) := (cell_of_row _ _ _ _ _ _ hbx).trans rfl
        have k3_ : W2.cell? ⟨q, 3, none⟩ = some (.int .u32 p.ps) := (cell_of_row _ _ _ _ _ _ hbx).trans rfl
        have k4_ : W2.cell? ⟨q, 4, none⟩ = some (.int .u32 p.mr) := (cell_of_row _ _ _ _ _ _ hbx).trans rfl
        have k5_ : W2.cell? ⟨q, 5, none⟩ = some (.slice p.la p.ln p.lc) := (cell_of_row _ _ _ _ _ _ hbx).trans rfl
        have k6_ : W2.cell? ⟨q, 6, none⟩ = some (.bool p.self) := (cell_of_row _ _ _ _ _ _ hbx).trans rfl
        have k7_ : W2.cell? ⟨q, 7, none⟩ = some (.string p.data) := (cell_of_row _ _ _ _ _ _ hbx).trans rfl
        clear hbx
        have p0_ := H0q.out.p0
        have c4_ := H0q.out.c4
        have c5_ := H0q.out.c5
        have z4_ := H0q.out.free 4
        have z5_ := H0q.out.free 5
        have hne := H0q.out.ne
        have hne2 := H0q.out.ne'
        have hgq := HGQ.out
        have hgq2 := HGQ.out.symm
        go_region_held3 (fun w' => w'.cell? ⟨m, 0, none⟩ = some (.pointer (some ⟨g, 0, none⟩)) ∧ w'.cell? ⟨q, 1, none⟩ = some (.int .i64 p.sq) ∧ w'.cell? ⟨q, 2, none⟩ = some (.int .u32 p.n))
          (first | (with_reducible assumption) | exact ⟨p0_, k1_, k2_⟩ | go_keep)
          (fail)
        have HS1 : Hid (Make (Plus X q) W ((W2.setCell ⟨g, 4, none⟩ (.int .i64 p.sq)).setCell ⟨g, 5, none⟩ (.int .u32 p.n)).drew g m (peerC c p) o) := Lib.hid (((H0q.out.setC 4 (.int .i64 p.sq) { c with peer := p.sq } rfl).setC 5 (.int .u32 p.n) (peerC c p) rfl).drewN 1)
        generalize ((W2.setCell ⟨g, 4, none⟩ (.int .i64 p.sq)).setCell ⟨g, 5, none⟩ (.int .u32 p.n)).drew = W3 at *
        clear p0_ c4_ c5_ z4_ z5_ hne hne2 hgq hgq2
        clear k0_ k1_ k2_ k3_ k4_ k5_ k6_ k7_
        have hbx := HS1.out.boxed HBX.out HGQ.out
        have k0_ : W3.cell? ⟨q, 0, none⟩ = some (.int .i64 p.kind) := (cell_of_row _ _ _ _ _ _ hbx).trans rfl
        have k1_ : W3.cell? ⟨q, 1, none⟩ = some (.int .i64 p.sq) := (cell_of_row _ _ _ _ _ _ hbx).trans rfl
        have k2_ : W3.cell? ⟨q, 2, none⟩ = some (.int .u32 p.n) := (cell_of_row _ _ _ _ _ _ hbx).trans rfl
        have k3_ : W3.cell? ⟨q, 3, none⟩ = some (.int .u32 p.ps) := (cell_of_row _ _ _ _ _ _ hbx).trans rfl
        have k4_ : W3.cell? ⟨q, 4, none⟩ = some (.int .u32 p.mr) := (cell_of_row _ _ _ _ _ _ hbx).trans rfl
        have k5_ : W3.cell? ⟨q, 5, none⟩ = some (.slice p.la p.ln p.lc) := (cell_of_row _ _ _ _ _ _ hbx).trans rfl
        have k6_ : W3.cell? ⟨q, 6, none⟩ = some (.bool p.self) := (cell_of_row _ _ _ _ _ _ hbx).trans rfl
        have k7_ : W3.cell? ⟨q, 7, none⟩ = some (.string p.data) := (cell_of_row _ _ _ _ _ _ hbx).trans rfl
        clear hbx
        go_wp2_with fail
        refine (hearNew_any (Plus X q) W W3 g m (peerC c p) o p HS1.out HL.out).mono ?_; rintro e w1 ⟨⟨v1, rfl⟩, h1⟩
        have H1 := Lib.hid h1
        clear h1
        go_wp2_with fail
        (try simp only [Exit.inBlock, Exit.then])
        first
          | refine bodyPost_end (results_none rfl _ _ _) rfl ?_
          | refine bodyPost_ret (results_none rfl _ _ _) rfl ?_
        exact ⟨⟨_, rfl⟩, H.out.back HBW.out H1.out⟩
      · have kk1 : (p.kind == 1) = false := by simp; omega
        have kk5 : (p.kind == 5) = false := by simp; omega
        have kk9 : (p.kind == 9) = true := by simp; omega
        clear k
        clear he
        show Calls Tryd.prog _ #[_, .agg #[.int .i64 p.kind, .int .i64 p.sq, .int .u32 p.n, .int .u32 p.ps, .int .u32 p.mr, .slice p.la p.ln p.lc, .bool p.self, .string p.data]] _ _
        go_enter Tryd.func75, Tryd.ntmps75
        go_wp2_with fail
        show Code.wp _ _ _ _ (w.alloc (.cells (encP p) 74))
        rw [← hW, ← hq]
        clear hW hq
        have k0_ : W.cell? ⟨q, 0, none⟩ = some (.int .i64 p.kind) := (cell_of_row _ _ _ _ _ _ HBX.out).trans rfl
        have k1_ : W.cell? ⟨q, 1, none⟩ = some (.int .i64 p.sq) := (cell_of_row _ _ _ _ _ _ HBX.out).trans rfl
        have k2_ : W.cell? ⟨q, 2, none⟩ = some (.int .u32 p.n) := (cell_of_row _ _ _ _ _ _ HBX.out).trans rfl
        have k3_ : W.cell? ⟨q, 3, none⟩ = some (.int .u32 p.ps) := (cell_of_row _ _ _ _ _ _ HBX.out).trans rfl
        have k4_ : W.cell? ⟨q, 4, none⟩ = some (.int .u32 p.mr) := (cell_of_row _ _ _ _ _ _ HBX.out).trans rfl
        have k5_ : W.cell? ⟨q, 5, none⟩ = some (.slice p.la p.ln p.lc) := (cell_of_row _ _ _ _ _ _ HBX.out).trans rfl
        have k6_ : W.cell? ⟨q, 6, none⟩ = some (.bool p.self) := (cell_of_row _ _ _ _ _ _ HBX.out).trans rfl
        have k7_ : W.cell? ⟨q, 7, none⟩ = some (.string p.data) := (cell_of_row _ _ _ _ _ _ HBX.out).trans rfl
        have p0_ := H0.out.p0
        have c4_ := H0.out.c4
        go_quiet (fail)
        have H0q := Lib.hid (H0.out.drewN nq)
        go_wp2_with fail
        clear p0_ c4_
        clear k0_ k1_ k2_ k3_ k4_ k5_ k6_ k7_
        generalize W.drewN nq = W2 at *
        have hbx := H0q.out.boxed HBX.out HGQ.out
        have k0_ : W2.cell? ⟨q, 0, none⟩ = some (.int .i64 p.kind) := (cell_of_row _ _ _ _ _ _ hbx).trans rfl
        have k1_ : W2.cell? ⟨q, 1, none⟩ = some (.int .i64 p.sq) := (cell_of_row _ _ _ _ _ _ hbx).trans rfl
        have k2_ : W2.cell? ⟨q, 2, none⟩ = some (.int .u32 p.n) := (cell_of_row _ _ _ _ _ _ hbx).trans rfl
        have k3_ : W2.cell? ⟨q, 3, none⟩ = some (.int .u32 p.ps) := (cell_of_row _ _ _ _ _ _ hbx).trans rfl
        have k4_ : W2.cell? ⟨q, 4, none⟩ = some (.int .u32 p.mr) := (cell_of_row _ _ _ _ _ _ hbx).trans rfl
        have k5_ : W2.cell? ⟨q, 5, none⟩ = some (.slice p.la p.ln p.lc) := (cell_of_row _ _ _ _ _ _ hbx).trans rfl
        have k6_ : W2.cell? ⟨q, 6, none⟩ = some (.bool p.self) := (cell_of_row _ _ _ _ _ _ hbx).trans rfl
        have k7_ : W2.cell? ⟨q, 7, none⟩ = some (.string p.data) := (cell_of_row _ _ _ _ _ _ hbx).trans rfl
        clear hbx
        have p0_ := H0q.out.p0
        have c4_ := H0q.out.c4
        have c5_ := H0q.out.c5
        have z4_ := H0q.out.free 4
        have z5_ := H0q.out.free 5
        have hne := H0q.out.ne
        have hne2 := H0q.out.ne'
        have hgq := HGQ.out
        have hgq2 := HGQ.out.symm
        go_region_held3 (fun w' => w'.cell? ⟨m, 0, none⟩ = some (.pointer (some ⟨g, 0, none⟩)) ∧ w'.cell? ⟨q, 1, none⟩ = some (.int .i64 p.sq) ∧ w'.cell? ⟨q, 2, none⟩ = some (.int .u32 p.n))
          (first | (with_reducible assumption) | exact ⟨p0_, k1_, k2_⟩ | go_keep)
          (fail)
        have HS1 : Hid (Make (Plus X q) W ((W2.setCell ⟨g, 4, none⟩ (.int .i64 p.sq)).setCell ⟨g, 5, none⟩ (.int .u32 p.n)).drew g m (peerC c p) o) := Lib.hid (((H0q.out.setC 4 (.int .i64 p.sq) { c with peer := p.sq } rfl).setC 5 (.int .u32 p.n) (peerC c p) rfl).drewN 1)
        generalize ((W2.setCell ⟨g, 4, none⟩ (.int .i64 p.sq)).setCell ⟨g, 5, none⟩ (.int .u32 p.n)).drew = W3 at *
        clear p0_ c4_ c5_ z4_ z5_ hne hne2 hgq hgq2
        clear k0_ k1_ k2_ k3_ k4_ k5_ k6_ k7_
        have hbx := HS1.out.boxed HBX.out HGQ.out
        have k0_ : W3.cell? ⟨q, 0, none⟩ = some (.int .i64 p.kind) := (cell_of_row _ _ _ _ _ _ hbx).trans rfl
        have k1_ : W3.cell? ⟨q, 1, none⟩ = some (.int .i64 p.sq) := (cell_of_row _ _ _ _ _ _ hbx).trans rfl
        have k2_ : W3.cell? ⟨q, 2, none⟩ = some (.int .u32 p.n) := (cell_of_row _ _ _ _ _ _ hbx).trans rfl
        have k3_ : W3.cell? ⟨q, 3, none⟩ = some (.int .u32 p.ps) := (cell_of_row _ _ _ _ _ _ hbx).trans rfl
        have k4_ : W3.cell? ⟨q, 4, none⟩ = some (.int .u32 p.mr) := (cell_of_row _ _ _ _ _ _ hbx).trans rfl
        have k5_ : W3.cell? ⟨q, 5, none⟩ = some (.slice p.la p.ln p.lc) := (cell_of_row _ _ _ _ _ _ hbx).trans rfl
        have k6_ : W3.cell? ⟨q, 6, none⟩ = some (.bool p.self) := (cell_of_row _ _ _ _ _ _ hbx).trans rfl
        have k7_ : W3.cell? ⟨q, 7, none⟩ = some (.string p.data) := (cell_of_row _ _ _ _ _ _ hbx).trans rfl
        clear hbx
        go_wp2_with fail
        refine (hearNew_any (Plus X q) W W3 g m (peerC c p) o p HS1.out HL.out).mono ?_; rintro e w1 ⟨⟨v1, rfl⟩, h1⟩
        have H1 := Lib.hid h1
        clear h1
        go_wp2_with fail
        (try simp only [Exit.inBlock, Exit.then])
        first
          | refine bodyPost_end (results_none rfl _ _ _) rfl ?_
          | refine bodyPost_ret (results_none rfl _ _ _) rfl ?_
        exact ⟨⟨_, rfl⟩, H.out.back HBW.out H1.out⟩
  · by_cases k3 : p.kind = 3
    · have hC : handleC c p = hearEndC c := by unfold handleC; rw [if_neg hn, if_pos k3]
      have hO : handleO c o p = hearEndO c o p := by unfold handleO; rw [if_neg hn, if_pos k3]
      rw [hC, hO]
      clear hC hO
      have kk1 : (p.kind == 1) = false := by simp; omega
      have kk5 : (p.kind == 5) = false := by simp; omega
      have kk9 : (p.kind == 9) = false := by simp; omega
      have kk3 : (p.kind == 3) = true := by simp; omega
      clear hn k3
      show Calls Tryd.prog _ #[_, .agg #[.int .i64 p.kind, .int .i64 p.sq, .int .u32 p.n, .int .u32 p.ps, .int .u32 p.mr, .slice p.la p.ln p.lc, .bool p.self, .string p.data]] _ _
      go_enter Tryd.func75, Tryd.ntmps75
      go_wp2_with fail
      show Calls Tryd.prog _ _ (w.alloc (.cells (encP p) 74)) _
      rw [← hW, ← hq]
      clear hW hq
      refine (hearEnd_any (Plus X q) W W g m c o p H0.out HL.out).mono ?_; rintro e w1 ⟨⟨v1, rfl⟩, h1⟩
      have H1 := Lib.hid h1
      clear h1
      go_wp2_with fail
      (try simp only [Exit.inBlock, Exit.then])
      first
        | refine bodyPost_end (results_none rfl _ _ _) rfl ?_
        | refine bodyPost_ret (results_none rfl _ _ _) rfl ?_
      exact ⟨⟨_, rfl⟩, H.out.back HBW.out H1.out⟩
    · by_cases ha : isAns p
      · by_cases he : p.sq = c.sq
        · have hC : handleC c p = hearAnswerC c p := by unfold handleC; rw [if_neg hn, if_neg k3, if_pos ha, if_pos he]
          have hO : handleO c o p = hearAnswerO c o p := by unfold handleO; rw [if_neg hn, if_neg k3, if_pos ha, if_pos he]
          rw [hC, hO]
          clear hC hO
          have hq1 : (p.sq == c.sq) = true := by simp [he]
          unfold isAns at ha
          unfold isNew at hn
          rcases ha with k | k | k | k | k
          · have kk1 : (p.kind == 1) = false := by simp; omega
            have kk5 : (p.kind == 5) = false := by simp; omega
            have kk9 : (p.kind == 9) = false := by simp; omega
            have kk3 : (p.kind == 3) = false := by simp; omega
            have kk2 : (p.kind == 2) = true := by simp; omega
            have kk6 : (p.kind == 6) = false := by simp; omega
            have kk15 : (p.kind == 15) = false := by simp; omega
            have kk7 : (p.kind == 7) = false := by simp; omega
            have kk4 : (p.kind == 4) = false := by simp; omega
            clear k hn
            clear he k3
            show Calls Tryd.prog _ #[_, .agg #[.int .i64 p.kind, .int .i64 p.sq, .int .u32 p.n, .int .u32 p.ps, .int .u32 p.mr, .slice p.la p.ln p.lc, .bool p.self, .string p.data]] _ _
            go_enter Tryd.func75, Tryd.ntmps75
            go_wp2_with fail
            show Code.wp _ _ _ _ (w.alloc (.cells (encP p) 74))
            rw [← hW, ← hq]
            clear hW hq
            have k0_ : W.cell? ⟨q, 0, none⟩ = some (.int .i64 p.kind) := (cell_of_row _ _ _ _ _ _ HBX.out).trans rfl
            have k1_ : W.cell? ⟨q, 1, none⟩ = some (.int .i64 p.sq) := (cell_of_row _ _ _ _ _ _ HBX.out).trans rfl
            have k2_ : W.cell? ⟨q, 2, none⟩ = some (.int .u32 p.n) := (cell_of_row _ _ _ _ _ _ HBX.out).trans rfl
            have k3_ : W.cell? ⟨q, 3, none⟩ = some (.int .u32 p.ps) := (cell_of_row _ _ _ _ _ _ HBX.out).trans rfl
            have k4_ : W.cell? ⟨q, 4, none⟩ = some (.int .u32 p.mr) := (cell_of_row _ _ _ _ _ _ HBX.out).trans rfl
            have k5_ : W.cell? ⟨q, 5, none⟩ = some (.slice p.la p.ln p.lc) := (cell_of_row _ _ _ _ _ _ HBX.out).trans rfl
            have k6_ : W.cell? ⟨q, 6, none⟩ = some (.bool p.self) := (cell_of_row _ _ _ _ _ _ HBX.out).trans rfl
            have k7_ : W.cell? ⟨q, 7, none⟩ = some (.string p.data) := (cell_of_row _ _ _ _ _ _ HBX.out).trans rfl
            have p0_ := H0.out.p0
            have c3_ := H0.out.c3
            go_quiet (fail)
            have H0q := Lib.hid (H0.out.drewN nq)
            go_wp2_with fail
            refine (hearAnswer_any (Plus X q) W _ g m c o p H0q.out HL.out).mono ?_; rintro e w1 ⟨⟨v1, rfl⟩, h1⟩
            have H1 := Lib.hid h1
            clear h1
            go_wp2_with fail
            (try simp only [Exit.inBlock, Exit.then])
            first
              | refine bodyPost_end (results_none rfl _ _ _) rfl ?_
              | refine bodyPost_ret (results_none rfl _ _ _) rfl ?_
            exact ⟨⟨_, rfl⟩, H.out.back HBW.out H1.out⟩
          · have kk1 : (p.kind == 1) = false := by simp; omega
            have kk5 : (p.kind == 5) = false := by simp; omega
            have kk9 : (p.kind == 9) = false := by simp; omega
            have kk3 : (p.kind == 3) = false := by simp; omega
            have kk2 : (p.kind == 2) = false := by simp; omega
            have kk6 : (p.kind == 6) = true := by simp; omega
            have kk15 : (p.kind == 15) = false := by simp; omega
            have kk7 : (p.kind == 7) = false := by simp; omega
            have kk4 : (p.kind == 4) = false := by simp; omega
            clear k hn
            clear he k3
            show Calls Tryd.prog _ #[_, .agg #[.int .i64 p.kind, .int .i64 p.sq, .int .u32 p.n, .int .u32 p.ps, .int .u32 p.mr, .slice p.la p.ln p.lc, .bool p.self, .string p.data]] _ _
            go_enter Tryd.func75, Tryd.ntmps75
            go_wp2_with fail
            show Code.wp _ _ _ _ (w.alloc (.cells (encP p) 74))
            rw [← hW, ← hq]
            clear hW hq
            have k0_ : W.cell? ⟨q, 0, none⟩ = some (.int .i64 p.kind) := (cell_of_row _ _ _ _ _ _ HBX.out).trans rfl
            have k1_ : W.cell? ⟨q, 1, none⟩ = some (.int .i64 p.sq) := (cell_of_row _ _ _ _ _ _ HBX.out).trans rfl
            have k2_ : W.cell? ⟨q, 2, none⟩ = some (.int .u32 p.n) := (cell_of_row _ _ _ _ _ _ HBX.out).trans rfl
            have k3_ : W.cell? ⟨q, 3, none⟩ = some (.int .u32 p.ps) := (cell_of_row _ _ _ _ _ _ HBX.out).trans rfl
            have k4_ : W.cell? ⟨q, 4, none⟩ = some (.int .u32 p.mr) := (cell_of_row _ _ _ _ _ _ HBX.out).trans rfl
            have k5_ : W.cell? ⟨q, 5, none⟩ = some (.slice p.la p.ln p.lc) := (cell_of_row _ _ _ _ _ _ HBX.out).trans rfl
            have k6_ : W.cell? ⟨q, 6, none⟩ = some (.bool p.self) := (cell_of_row _ _ _ _ _ _ HBX.out).trans rfl
            have k7_ : W.cell? ⟨q, 7, none⟩ = some (.string p.data) := (cell_of_row _ _ _ _ _ _ HBX.out).trans rfl
            have p0_ := H0.out.p0
            have c3_ := H0.out.c3
            go_quiet (fail)
            have H0q := Lib.hid (H0.out.drewN nq)
            go_wp2_with fail
            refine (hearAnswer_any (Plus X q) W _ g m c o p H0q.out HL.out).mono ?_; rintro e w1 ⟨⟨v1, rfl⟩, h1⟩
            have H1 := Lib.hid h1
            clear h1
            go_wp2_with fail
            (try simp only [Exit.inBlock, Exit.then])
            first
              | refine bodyPost_end (results_none rfl _ _ _) rfl ?_
              | refine bodyPost_ret (results_none rfl _ _ _) rfl ?_
            exact ⟨⟨_, rfl⟩, H.out.back HBW.out H1.out⟩
          · have kk1 : (p.kind == 1) = false := by simp; omega
            have kk5 : (p.kind == 5) = false := by simp; omega
            have kk9 : (p.kind == 9) = false := by simp; omega
            have kk3 : (p.kind == 3) = false := by simp; omega
            have kk2 : (p.kind == 2) = false := by simp; omega
            have kk6 : (p.kind == 6) = false := by simp; omega
            have kk15 : (p.kind == 15) = true := by simp; omega
            have kk7 : (p.kind == 7) = false := by simp; omega
            have kk4 : (p.kind == 4) = false := by simp; omega
            clear k hn
            clear he k3
            show Calls Tryd.prog _ #[_, .agg #[.int .i64 p.kind, .int .i64 p.sq, .int .u32 p.n, .int .u32 p.ps, .int .u32 p.mr, .slice p.la p.ln p.lc, .bool p.self, .string p.data]] _ _
            go_enter Tryd.func75, Tryd.ntmps75
            go_wp2_with fail
            show Code.wp _ _ _ _ (w.alloc (.cells (encP p) 74))
            rw [← hW, ← hq]
            clear hW hq
            have k0_ : W.cell? ⟨q, 0, none⟩ = some (.int .i64 p.kind) := (cell_of_row _ _ _ _ _ _ HBX.out).trans rfl
            have k1_ : W.cell? ⟨q, 1, none⟩ = some (.int .i64 p.sq) := (cell_of_row _ _ _ _ _ _ HBX.out).trans rfl
            have k2_ : W.cell? ⟨q, 2, none⟩ = some (.int .u32 p.n) := (cell_of_row _ _ _ _ _ _ HBX.out).trans rfl
            have k3_ : W.cell? ⟨q, 3, none⟩ = some (.int .u32 p.ps) := (cell_of_row _ _ _ _ _ _ HBX.out).trans rfl
            have k4_ : W.cell? ⟨q, 4, none⟩ = some (.int .u32 p.mr) := (cell_of_row _ _ _ _ _ _ HBX.out).trans rfl
            have k5_ : W.cell? ⟨q, 5, none⟩ = some (.slice p.la p.ln p.lc) := (cell_of_row _ _ _ _ _ _ HBX.out).trans rfl
            have k6_ : W.cell? ⟨q, 6, none⟩ = some (.bool p.self) := (cell_of_row _ _ _ _ _ _ HBX.out).trans rfl
            have k7_ : W.cell? ⟨q, 7, none⟩ = some (.string p.data) := (cell_of_row _ _ _ _ _ _ HBX.out).trans rfl
            have p0_ := H0.out.p0
            have c3_ := H0.out.c3
            go_quiet (fail)
            have H0q := Lib.hid (H0.out.drewN nq)
            go_wp2_with fail
            refine (hearAnswer_any (Plus X q) W _ g m c o p H0q.out HL.out).mono ?_; rintro e w1 ⟨⟨v1, rfl⟩, h1⟩
            have H1 := Lib.hid h1
            clear h1
            go_wp2_with fail
            (try simp only [Exit.inBlock, Exit.then])
            first
              | refine bodyPost_end (results_none rfl _ _ _) rfl ?_
              | refine bodyPost_ret (results_none rfl _ _ _) rfl ?_
            exact ⟨⟨_, rfl⟩, H.out.back HBW.out H1.out⟩
          · have kk1 : (p.kind == 1) = false := by simp; omega
            have kk5 : (p.kind == 5) = false := by simp; omega
            have kk9 : (p.kind == 9) = false := by simp; omega
            have kk3 : (p.kind == 3) = false := by simp; omega
            have kk2 : (p.kind == 2) = false := by simp; omega
            have kk6 : (p.kind == 6) = false := by simp; omega
            have kk15 : (p.kind == 15) = false := by simp; omega
            have kk7 : (p.kind == 7) = true := by simp; omega
            have kk4 : (p.kind == 4) = false := by simp; omega
            clear k hn
            clear he k3
            show Calls Tryd.prog _ #[_, .agg #[.int .i64 p.kind, .int .i64 p.sq, .int .u32 p.n, .int .u32 p.ps, .int .u32 p.mr, .slice p.la p.ln p.lc, .bool p.self, .string p.data]] _ _
            go_enter Tryd.func75, Tryd.ntmps75
            go_wp2_with fail
            show Code.wp _ _ _ _ (w.alloc (.cells (encP p) 74))
            rw [← hW, ← hq]
            clear hW hq
            have k0_ : W.cell? ⟨q, 0, none⟩ = some (.int .i64 p.kind) := (cell_of_row _ _ _ _ _ _ HBX.out).trans rfl
            have k1_ : W.cell? ⟨q, 1, none⟩ = some (.int .i64 p.sq) := (cell_of_row _ _ _ _ _ _ HBX.out).trans rfl
            have k2_ : W.cell? ⟨q, 2, none⟩ = some (.int .u32 p.n) := (cell_of_row _ _ _ _ _ _ HBX.out).trans rfl
            have k3_ : W.cell? ⟨q, 3, none⟩ = some (.int .u32 p.ps) := (cell_of_row _ _ _ _ _ _ HBX.out).trans rfl
            have k4_ : W.cell? ⟨q, 4, none⟩ = some (.int .u32 p.mr) := (cell_of_row _ _ _ _ _ _ HBX.out).trans rfl
            have k5_ : W.cell? ⟨q, 5, none⟩ = some (.slice p.la p.ln p.lc) := (cell_of_row _ _ _ _ _ _ HBX.out).trans rfl
            have k6_ : W.cell? ⟨q, 6, none⟩ = some (.bool p.self) := (cell_of_row _ _ _ _ _ _ HBX.out).trans rfl
            have k7_ : W.cell? ⟨q, 7, none⟩ = some (.string p.data) := (cell_of_row _ _ _ _ _ _ HBX.out).trans rfl
            have p0_ := H0.out.p0
            have c3_ := H0.out.c3
            go_quiet (fail)
            have H0q := Lib.hid (H0.out.drewN nq)
            go_wp2_with fail
            refine (hearAnswer_any (Plus X q) W _ g m c o p H0q.out HL.out).mono ?_; rintro e w1 ⟨⟨v1, rfl⟩, h1⟩
            have H1 := Lib.hid h1
            clear h1
            go_wp2_with fail
            (try simp only [Exit.inBlock, Exit.then])
            first
              | refine bodyPost_end (results_none rfl _ _ _) rfl ?_
              | refine bodyPost_ret (results_none rfl _ _ _) rfl ?_
            exact ⟨⟨_, rfl⟩, H.out.back HBW.out H1.out⟩
          · have kk1 : (p.kind == 1) = false := by simp; omega
            have kk5 : (p.kind == 5) = false := by simp; omega
            have kk9 : (p.kind == 9) = false := by simp; omega
            have kk3 : (p.kind == 3) = false := by simp; omega
            have kk2 : (p.kind == 2) = false := by simp; omega
            have kk6 : (p.kind == 6) = false := by simp; omega
            have kk15 : (p.kind == 15) = false := by simp; omega
            have kk7 : (p.kind == 7) = false := by simp; omega
            have kk4 : (p.kind == 4) = true := by simp; omega
            clear k hn
            clear he k3
            show Calls Tryd.prog _ #[_, .agg #[.int .i64 p.kind, .int .i64 p.sq, .int .u32 p.n, .int .u32 p.ps, .int .u32 p.mr, .slice p.la p.ln p.lc, .bool p.self, .string p.data]] _ _
            go_enter Tryd.func75, Tryd.ntmps75
            go_wp2_with fail
            show Code.wp _ _ _ _ (w.alloc (.cells (encP p) 74))
            rw [← hW, ← hq]
            clear hW hq
            have k0_ : W.cell? ⟨q, 0, none⟩ = some (.int .i64 p.kind) := (cell_of_row _ _ _ _ _ _ HBX.out).trans rfl
            have k1_ : W.cell? ⟨q, 1, none⟩ = some (.int .i64 p.sq) := (cell_of_row _ _ _ _ _ _ HBX.out).trans rfl
            have k2_ : W.cell? ⟨q, 2, none⟩ = some (.int .u32 p.n) := (cell_of_row _ _ _ _ _ _ HBX.out).trans rfl
            have k3_ : W.cell? ⟨q, 3, none⟩ = some (.int .u32 p.ps) := (cell_of_row _ _ _ _ _ _ HBX.out).trans rfl
            have k4_ : W.cell? ⟨q, 4, none⟩ = some (.int .u32 p.mr) := (cell_of_row _ _ _ _ _ _ HBX.out).trans rfl
            have k5_ : W.cell? ⟨q, 5, none⟩ = some (.slice p.la p.ln p.lc) := (cell_of_row _ _ _ _ _ _ HBX.out).trans rfl
            have k6_ : W.cell? ⟨q, 6, none⟩ = some (.bool p.self) := (cell_of_row _ _ _ _ _ _ HBX.out).trans rfl
            have k7_ : W.cell? ⟨q, 7, none⟩ = some (.string p.data) := (cell_of_row _ _ _ _ _ _ HBX.out).trans rfl
            have p0_ := H0.out.p0
            have c3_ := H0.out.c3
            go_quiet (fail)
            have H0q := Lib.hid (H0.out.drewN nq)
            go_wp2_with fail
            refine (hearAnswer_any (Plus X q) W _ g m c o p H0q.out HL.out).mono ?_; rintro e w1 ⟨⟨v1, rfl⟩, h1⟩
            have H1 := Lib.hid h1
            clear h1
            go_wp2_with fail
            (try simp only [Exit.inBlock, Exit.then])
            first
              | refine bodyPost_end (results_none rfl _ _ _) rfl ?_
              | refine bodyPost_ret (results_none rfl _ _ _) rfl ?_
            exact ⟨⟨_, rfl⟩, H.out.back HBW.out H1.out⟩
        · have hC : handleC c p = c := by unfold handleC; rw [if_neg hn, if_neg k3, if_pos ha, if_neg he]
          have hO : handleO c o p = o := by unfold handleO; rw [if_neg hn, if_neg k3, if_pos ha, if_neg he]
          rw [hC, hO]
          clear hC hO
          have hq1 : (p.sq == c.sq) = false := by simpa using he
          unfold isAns at ha
          unfold isNew at hn
          rcases ha with k | k | k | k | k
          · have kk1 : (p.kind == 1) = false := by simp; omega
            have kk5 : (p.kind == 5) = false := by simp; omega
            have kk9 : (p.kind == 9) = false := by simp; omega
            have kk3 : (p.kind == 3) = false := by simp; omega
            have kk2 : (p.kind == 2) = true := by simp; omega
            have kk6 : (p.kind == 6) = false := by simp; omega
            have kk15 : (p.kind == 15) = false := by simp; omega
            have kk7 : (p.kind == 7) = false := by simp; omega
            have kk4 : (p.kind == 4) = false := by simp; omega
            clear k hn
            clear he k3
            show Calls Tryd.prog _ #[_, .agg #[.int .i64 p.kind, .int .i64 p.sq, .int .u32 p.n, .int .u32 p.ps, .int .u32 p.mr, .slice p.la p.ln p.lc, .bool p.self, .string p.data]] _ _
            go_enter Tryd.func75, Tryd.ntmps75
            go_wp2_with fail
            show Code.wp _ _ _ _ (w.alloc (.cells (encP p) 74))
            rw [← hW, ← hq]
            clear hW hq
            have k0_ : W.cell? ⟨q, 0, none⟩ = some (.int .i64 p.kind) := (cell_of_row _ _ _ _ _ _ HBX.out).trans rfl
            have k1_ : W.cell? ⟨q, 1, none⟩ = some (.int .i64 p.sq) := (cell_of_row _ _ _ _ _ _ HBX.out).trans rfl
            have k2_ : W.cell? ⟨q, 2, none⟩ = some (.int .u32 p.n) := (cell_of_row _ _ _ _ _ _ HBX.out).trans rfl
            have k3_ : W.cell? ⟨q, 3, none⟩ = some (.int .u32 p.ps) := (cell_of_row _ _ _ _ _ _ HBX.out).trans rfl
            have k4_ : W.cell? ⟨q, 4, none⟩ = some (.int .u32 p.mr) := (cell_of_row _ _ _ _ _ _ HBX.out).trans rfl
            have k5_ : W.cell? ⟨q, 5, none⟩ = some (.slice p.la p.ln p.lc) := (cell_of_row _ _ _ _ _ _ HBX.out).trans rfl
            have k6_ : W.cell? ⟨q, 6, none⟩ = some (.bool p.self) := (cell_of_row _ _ _ _ _ _ HBX.out).trans rfl
            have k7_ : W.cell? ⟨q, 7, none⟩ = some (.string p.data) := (cell_of_row _ _ _ _ _ _ HBX.out).trans rfl
            have p0_ := H0.out.p0
            have c3_ := H0.out.c3
            go_quiet (fail)
            have H0q := Lib.hid (H0.out.drewN nq)
            go_wp2_with fail
            (try simp only [Exit.inBlock, Exit.then])
            first
              | refine bodyPost_end (results_none rfl _ _ _) rfl ?_
              | refine bodyPost_ret (results_none rfl _ _ _) rfl ?_
            exact ⟨⟨_, rfl⟩, H.out.back HBW.out H0q.out⟩
          · have kk1 : (p.kind == 1) = false := by simp; omega
            have kk5 : (p.kind == 5) = false := by simp; omega
            have kk9 : (p.kind == 9) = false := by simp; omega
            have kk3 : (p.kind == 3) = false := by simp; omega
            have kk2 : (p.kind == 2) = false := by simp; omega
            have kk6 : (p.kind == 6) = true := by simp; omega
            have kk15 : (p.kind == 15) = false := by simp; omega
            have kk7 : (p.kind == 7) = false := by simp; omega
            have kk4 : (p.kind == 4) = false := by simp; omega
            clear k hn
            clear he k3
            show Calls Tryd.prog _ #[_, .agg #[.int .i64 p.kind, .int .i64 p.sq, .int .u32 p.n, .int .u32 p.ps, .int .u32 p.mr, .slice p.la p.ln p.lc, .bool p.self, .string p.data]] _ _
            go_enter Tryd.func75, Tryd.ntmps75
            go_wp2_with fail
            show Code.wp _ _ _ _ (w.alloc (.cells (encP p) 74))
            rw [← hW, ← hq]
            clear hW hq
            have k0_ : W.cell? ⟨q, 0, none⟩ = some (.int .i64 p.kind) := (cell_of_row _ _ _ _ _ _ HBX.out).trans rfl
            have k1_ : W.cell? ⟨q, 1, none⟩ = some (.int .i64 p.sq) := (cell_of_row _ _ _ _ _ _ HBX.out).trans rfl
            have k2_ : W.cell? ⟨q, 2, none⟩ = some (.int .u32 p.n) := (cell_of_row _ _ _ _ _ _ HBX.out).trans rfl
            have k3_ : W.cell? ⟨q, 3, none⟩ = some (.int .u32 p.ps) := (cell_of_row _ _ _ _ _ _ HBX.out).trans rfl
            have k4_ : W.cell? ⟨q, 4, none⟩ = some (.int .u32 p.mr) := (cell_of_row _ _ _ _ _ _ HBX.out).trans rfl
            have k5_ : W.cell? ⟨q, 5, none⟩ = some (.slice p.la p.ln p.lc) := (cell_of_row _ _ _ _ _ _ HBX.out).trans rfl
            have k6_ : W.cell? ⟨q, 6, none⟩ = some (.bool p.self) := (cell_of_row _ _ _ _ _ _ HBX.out).trans rfl
            have k7_ : W.cell? ⟨q, 7, none⟩ = some (.string p.data) := (cell_of_row _ _ _ _ _ _ HBX.out).trans rfl
            have p0_ := H0.out.p0
            have c3_ := H0.out.c3
            go_quiet (fail)
            have H0q := Lib.hid (H0.out.drewN nq)
            go_wp2_with fail
            (try simp only [Exit.inBlock, Exit.then])
            first
              | refine bodyPost_end (results_none rfl _ _ _) rfl ?_
              | refine bodyPost_ret (results_none rfl _ _ _) rfl ?_
            exact ⟨⟨_, rfl⟩, H.out.back HBW.out H0q.out⟩
          · have kk1 : (p.kind == 1) = false := by simp; omega
            have kk5 : (p.kind == 5) = false := by simp; omega
            have kk9 : (p.kind == 9) = false := by simp; omega
            have kk3 : (p.kind == 3) = false := by simp; omega
            have kk2 : (p.kind == 2) = false := by simp; omega
            have kk6 : (p.kind == 6) = false := by simp; omega
            have kk15 : (p.kind == 15) = true := by simp; omega
            have kk7 : (p.kind == 7) = false := by simp; omega
            have kk4 : (p.kind == 4) = false := by simp; omega
            clear k hn
            clear he k3
            show Calls Tryd.prog _ #[_, .agg #[.int .i64 p.kind, .int .i64 p.sq, .int .u32 p.n, .int .u32 p.ps, .int .u32 p.mr, .slice p.la p.ln p.lc, .bool p.self, .string p.data]] _ _
            go_enter Tryd.func75, Tryd.ntmps75
            go_wp2_with fail
            show Code.wp _ _ _ _ (w.alloc (.cells (encP p) 74))
            rw [← hW, ← hq]
            clear hW hq
            have k0_ : W.cell? ⟨q, 0, none⟩ = some (.int .i64 p.kind) := (cell_of_row _ _ _ _ _ _ HBX.out).trans rfl
            have k1_ : W.cell? ⟨q, 1, none⟩ = some (.int .i64 p.sq) := (cell_of_row _ _ _ _ _ _ HBX.out).trans rfl
            have k2_ : W.cell? ⟨q, 2, none⟩ = some (.int .u32 p.n) := (cell_of_row _ _ _ _ _ _ HBX.out).trans rfl
            have k3_ : W.cell? ⟨q, 3, none⟩ = some (.int .u32 p.ps) := (cell_of_row _ _ _ _ _ _ HBX.out).trans rfl
            have k4_ : W.cell? ⟨q, 4, none⟩ = some (.int .u32 p.mr) := (cell_of_row _ _ _ _ _ _ HBX.out).trans rfl
            have k5_ : W.cell? ⟨q, 5, none⟩ = some (.slice p.la p.ln p.lc) := (cell_of_row _ _ _ _ _ _ HBX.out).trans rfl
            have k6_ : W.cell? ⟨q, 6, none⟩ = some (.bool p.self) := (cell_of_row _ _ _ _ _ _ HBX.out).trans rfl
            have k7_ : W.cell? ⟨q, 7, none⟩ = some (.string p.data) := (cell_of_row _ _ _ _ _ _ HBX.out).trans rfl
            have p0_ := H0.out.p0
            have c3_ := H0.out.c3
            go_quiet (fail)
            have H0q := Lib.hid (H0.out.drewN nq)
            go_wp2_with fail
            (try simp only [Exit.inBlock, Exit.then])
            first
              | refine bodyPost_end (results_none rfl _ _ _) rfl ?_
              | refine bodyPost_ret (results_none rfl _ _ _) rfl ?_
            exact ⟨⟨_, rfl⟩, H.out.back HBW.out H0q.out⟩
          · have kk1 : (p.kind == 1) = false := by simp; omega
            have kk5 : (p.kind == 5) = false := by simp; omega
            have kk9 : (p.kind == 9) = false := by simp; omega
            have kk3 : (p.kind == 3) = false := by simp; omega
            have kk2 : (p.kind == 2) = false := by simp; omega
            have kk6 : (p.kind == 6) = false := by simp; omega
            have kk15 : (p.kind == 15) = false := by simp; omega
            have kk7 : (p.kind == 7) = true := by simp; omega
            have kk4 : (p.kind == 4) = false := by simp; omega
            clear k hn
            clear he k3
            show Calls Tryd.prog _ #[_, .agg #[.int .i64 p.kind, .int .i64 p.sq, .int .u32 p.n, .int .u32 p.ps, .int .u32 p.mr, .slice p.la p.ln p.lc, .bool p.self, .string p.data]] _ _
            go_enter Tryd.func75, Tryd.ntmps75
            go_wp2_with fail
            show Code.wp _ _ _ _ (w.alloc (.cells (encP p) 74))
            rw [← hW, ← hq]
            clear hW hq
            have k0_ : W.cell? ⟨q, 0, none⟩ = some (.int .i64 p.kind) := (cell_of_row _ _ _ _ _ _ HBX.out).trans rfl
            have k1_ : W.cell? ⟨q, 1, none⟩ = some (.int .i64 p.sq) := (cell_of_row _ _ _ _ _ _ HBX.out).trans rfl
            have k2_ : W.cell? ⟨q, 2, none⟩ = some (.int .u32 p.n) := (cell_of_row _ _ _ _ _ _ HBX.out).trans rfl
            have k3_ : W.cell? ⟨q, 3, none⟩ = some (.int .u32 p.ps) := (cell_of_row _ _ _ _ _ _ HBX.out).trans rfl
            have k4_ : W.cell? ⟨q, 4, none⟩ = some (.int .u32 p.mr) := (cell_of_row _ _ _ _ _ _ HBX.out).trans rfl
            have k5_ : W.cell? ⟨q, 5, none⟩ = some (.slice p.la p.ln p.lc) := (cell_of_row _ _ _ _ _ _ HBX.out).trans rfl
            have k6_ : W.cell? ⟨q, 6, none⟩ = some (.bool p.self) := (cell_of_row _ _ _ _ _ _ HBX.out).trans rfl
            have k7_ : W.cell? ⟨q, 7, none⟩ = some (.string p.data) := (cell_of_row _ _ _ _ _ _ HBX.out).trans rfl
            have p0_ := H0.out.p0
            have c3_ := H0.out.c3
            go_quiet (fail)
            have H0q := Lib.hid (H0.out.drewN nq)
            go_wp2_with fail
            (try simp only [Exit.inBlock, Exit.then])
            first
              | refine bodyPost_end (results_none rfl _ _ _) rfl ?_
              | refine bodyPost_ret (results_none rfl _ _ _) rfl ?_
            exact ⟨⟨_, rfl⟩, H.out.back HBW.out H0q.out⟩
          · have kk1 : (p.kind == 1) = false := by simp; omega
            have kk5 : (p.kind == 5) = false := by simp; omega
            have kk9 : (p.kind == 9) = false := by simp; omega
            have kk3 : (p.kind == 3) = false := by simp; omega
            have kk2 : (p.kind == 2) = false := by simp; omega
            have kk6 : (p.kind == 6) = false := by simp; omega
            have kk15 : (p.kind == 15) = false := by simp; omega
            have kk7 : (p.kind == 7) = false := by simp; omega
            have kk4 : (p.kind == 4) = true := by simp; omega
            clear k hn
            clear he k3
            show Calls Tryd.prog _ #[_, .agg #[.int .i64 p.kind, .int .i64 p.sq, .int .u32 p.n, .int .u32 p.ps, .int .u32 p.mr, .slice p.la p.ln p.lc, .bool p.self, .string p.data]] _ _
            go_enter Tryd.func75, Tryd.ntmps75
            go_wp2_with fail
            show Code.wp _ _ _ _ (w.alloc (.cells (encP p) 74))
            rw [← hW, ← hq]
            clear hW hq
            have k0_ : W.cell? ⟨q, 0, none⟩ = some (.int .i64 p.kind) := (cell_of_row _ _ _ _ _ _ HBX.out).trans rfl
            have k1_ : W.cell? ⟨q, 1, none⟩ = some (.int .i64 p.sq) := (cell_of_row _ _ _ _ _ _ HBX.out).trans rfl
            have k2_ : W.cell? ⟨q, 2, none⟩ = some (.int .u32 p.n) := (cell_of_row _ _ _ _ _ _ HBX.out).trans rfl
            have k3_ : W.cell? ⟨q, 3, none⟩ = some (.int .u32 p.ps) := (cell_of_row _ _ _ _ _ _ HBX.out).trans rfl
            have k4_ : W.cell? ⟨q, 4, none⟩ = some (.int .u32 p.mr) := (cell_of_row _ _ _ _ _ _ HBX.out).trans rfl
            have k5_ : W.cell? ⟨q, 5, none⟩ = some (.slice p.la p.ln p.lc) := (cell_of_row _ _ _ _ _ _ HBX.out).trans rfl
            have k6_ : W.cell? ⟨q, 6, none⟩ = some (.bool p.self) := (cell_of_row _ _ _ _ _ _ HBX.out).trans rfl
            have k7_ : W.cell? ⟨q, 7, none⟩ = some (.string p.data) := (cell_of_row _ _ _ _ _ _ HBX.out).trans rfl
            have p0_ := H0.out.p0
            have c3_ := H0.out.c3
            go_quiet (fail)
            have H0q := Lib.hid (H0.out.drewN nq)
            go_wp2_with fail
            (try simp only [Exit.inBlock, Exit.then])
            first
              | refine bodyPost_end (results_none rfl _ _ _) rfl ?_
              | refine bodyPost_ret (results_none rfl _ _ _) rfl ?_
            exact ⟨⟨_, rfl⟩, H.out.back HBW.out H0q.out⟩
      · have hC : handleC c p = c := by unfold handleC; rw [if_neg hn, if_neg k3, if_neg ha]
        have hO : handleO c o p = o := by unfold handleO; rw [if_neg hn, if_neg k3, if_neg ha]
        rw [hC, hO]
        clear hC hO
        unfold isAns at ha
        unfold isNew at hn
        have kk1 : (p.kind == 1) = false := by simp; omega
        have kk5 : (p.kind == 5) = false := by simp; omega
        have kk9 : (p.kind == 9) = false := by simp; omega
        have kk3 : (p.kind == 3) = false := by simp; omega
        have kk2 : (p.kind == 2) = false := by simp; omega
        have kk6 : (p.kind == 6) = false := by simp; omega
        have kk15 : (p.kind == 15) = false := by simp; omega
        have kk7 : (p.kind == 7) = false := by simp; omega
        have kk4 : (p.kind == 4) = false := by simp; omega
        clear hn k3 ha
        show Calls Tryd.prog _ #[_, .agg #[.int .i64 p.kind, .int .i64 p.sq, .int .u32 p.n, .int .u32 p.ps, .int .u32 p.mr, .slice p.la p.ln p.lc, .bool p.self, .string p.data]] _ _
        go_enter Tryd.func75, Tryd.ntmps75
        go_wp2_with fail
        (try simp only [Exit.inBlock, Exit.then])
        first
          | refine bodyPost_end (results_none rfl _ _ _) rfl ?_
          | refine bodyPost_ret (results_none rfl _ _ _) rfl ?_
        exact ⟨⟨_, rfl⟩, H.out.alloc _⟩
end
end Go.Proofs.YtkphompjahcjiaaDoor.Conn
