/-
  A connection: what a call does, as it is handed over.
-/
import Derived.Test.YtkphompjahcjiaaDoorConn13
namespace Go.Proofs.YtkphompjahcjiaaDoor.Conn
open Go.RowKit

def failC (c : C) : C := if c.state = 10 then beginC c 7 noD else c
def failO (c : C) (o : O) (code : Int) : O := if c.state = 10 then askO (beginC c 7 noD) (reportO o code) else o
def silentC (c : C) : C := if c.state = 10 then toC c 1 else c
def silentO (c : C) (o : O) : O := if c.state = 10 then releasedO (endO c (reportO o 80)) true noD else o
def ccC (c : C) : C := { c with cc := c.cc + 1 }
def expC (c : C) : C := if asksK c.state = 0 then c else if c.most ≤ c.cc then giveC c else ccC c
def expO (c : C) (o : O) : O := if asksK c.state = 0 then o else if c.most ≤ c.cc then giveO c o else askO (ccC c) o
section
variable (X : Nat → Prop) (w0 w : World) (g m : Nat) (c : C) (o : O)
set_option maxRecDepth 100000 in
set_option maxHeartbeats 4000000 in
theorem fail1_any (qb : Nat) (code : Int) (hk : w.cell? ⟨qb, 0, none⟩ = some (.int .u8 code)) (hq : 0 ≤ c.sq ∧ c.sq ≤ 255) (h : Make X w0 w g m c o) (hl : Few o 900) :
    Calls Tryd.prog 38 #[.pointer (some ⟨m, 0, none⟩), .pointer (some ⟨qb, 0, none⟩)] w fun e w' => (∃ v, e = .returned v) ∧ Make X w0 w' g m (failC c) (failO c o code) := by
  have H := Lib.hid h
  have HL := Lib.hid hl
  have p0_ := h.p0
  have c2_ := h.c2
  have HQ := Lib.hid hq
  clear h hl hq
  unfold failC failO
  by_cases s : c.state = 10
  · rw [if_pos s, if_pos s]
    have e10 : (c.state == 10) = true := by simp [s]
    clear s
    go_enter Tryd.func38, Tryd.ntmps38
    go_wp2_with fail
    refine (report_any X w0 _ g m c o code H.out (HL.out.more (by decide))).mono ?_; rintro e w1 ⟨⟨v1, rfl⟩, h1⟩
    have H1 := Lib.hid h1
    clear h1
    clear p0_ c2_ hk
    go_wp2_with fail
    refine (begin_any X w0 _ g m c _ 7 noD HQ.out H1.out (by have := HL.out.1; have := HL.out.2; exact ⟨by show (o.sigs ++ [_]).length ≤ 990; simp; omega, by show o.units.length ≤ 990; omega⟩)).mono ?_; rintro e w2 ⟨⟨v2, rfl⟩, h2⟩
    have H2 := Lib.hid h2
    clear h2
    go_wp2_with fail
    (try simp only [Exit.inBlock, Exit.then])
    first
      | refine bodyPost_end (results_none rfl _ _ _) rfl ?_
      | refine bodyPost_ret (results_none rfl _ _ _) rfl ?_
    exact ⟨⟨_, rfl⟩, H2.out⟩
  · rw [if_neg s, if_neg s]
    have e10 : (c.state == 10) = false := by simpa using s
    clear s
    go_enter Tryd.func38, Tryd.ntmps38
    go_wp2_with fail
    (try simp only [Exit.inBlock, Exit.then])
    first
      | refine bodyPost_end (results_none rfl _ _ _) rfl ?_
      | refine bodyPost_ret (results_none rfl _ _ _) rfl ?_
    exact ⟨⟨_, rfl⟩, H.out⟩
set_option maxRecDepth 100000 in
set_option maxHeartbeats 4000000 in
theorem silent1_any (h : Make X w0 w g m c o) (hl : Few o 900) :
    Calls Tryd.prog 51 #[.pointer (some ⟨m, 0, none⟩)] w fun e w' => (∃ v, e = .returned v) ∧ Make X w0 w' g m (silentC c) (silentO c o) := by
  have H := Lib.hid h
  have HL := Lib.hid hl
  have p0_ := h.p0
  have c2_ := h.c2
  clear h hl
  unfold silentC silentO
  by_cases s : c.state = 10
  · rw [if_pos s, if_pos s]
    have e10 : (c.state == 10) = true := by simp [s]
    clear s
    go_enter Tryd.func51, Tryd.ntmps51
    go_wp2_with fail
    refine (report_any X w0 _ g m c o 80 H.out (HL.out.more (by decide))).mono ?_; rintro e w1 ⟨⟨v1, rfl⟩, h1⟩
    have H1 := Lib.hid h1
    clear h1
    clear p0_ c2_
    go_wp2_with fail
    refine (end_any X w0 _ g m c _ H1.out (by have := HL.out.1; have := HL.out.2; exact ⟨by show (o.sigs ++ [_]).length ≤ 990; simp; omega, by show o.units.length ≤ 990; omega⟩)).mono ?_; rintro e w2 ⟨⟨v2, rfl⟩, h2⟩
    have H2 := Lib.hid h2
    clear h2
    go_wp2_with fail
    refine (released_any X w0 _ g m c _ true noD H2.out (by have := HL.out.1; have := HL.out.2; exact ⟨by show (o.sigs ++ [_]).length ≤ 990; simp; omega, by show (o.units ++ [_]).length ≤ 990; simp; omega⟩)).mono ?_; rintro e w3 ⟨⟨v3, rfl⟩, h3⟩
    have H3 := Lib.hid h3
    clear h3
    have p0_ := H3.out.p0
    have c2_ := H3.out.c2
    have z2_ := H3.out.free 2
    have HF := Lib.hid (H3.out.setC 2 (.int .i64 1) (toC c 1) rfl)
    go_wp2_with fail
    (try simp only [Exit.inBlock, Exit.then])
    first
      | refine bodyPost_end (results_none rfl _ _ _) rfl ?_
      | refine bodyPost_ret (results_none rfl _ _ _) rfl ?_
    exact ⟨⟨_, rfl⟩, HF.out⟩
  · rw [if_neg s, if_neg s]
    have e10 : (c.state == 10) = false := by simpa using s
    clear s
    go_enter Tryd.func51, Tryd.ntmps51
    go_wp2_with fail
    (try simp only [Exit.inBlock, Exit.then])
    first
      | refine bodyPost_end (results_none rfl _ _ _) rfl ?_
      | refine bodyPost_ret (results_none rfl _ _ _) rfl ?_
    exact ⟨⟨_, rfl⟩, H.out⟩
set_option maxRecDepth 100000 in
set_option maxHeartbeats 4000000 in
theorem expire1_any (hcc : 0 ≤ c.cc ∧ c.cc ≤ 1000) (h : Make X w0 w g m c o) (hl : Few o 900) :
    Calls Tryd.prog 45 #[.pointer (some ⟨m, 0, none⟩)] w fun e w' => (∃ v, e = .returned v) ∧ Make X w0 w' g m (expC c) (expO c o) := by
  have H := Lib.hid h
  have HL := Lib.hid hl
  have p0_ := h.p0
  have c2_ := h.c2
  have c0_ := h.c0
  have c6_ := h.c6
  have z6_ := h.free 6
  have hc1 := hcc.1
  have hc2 := hcc.2
  clear h hl hcc
  unfold expC expO
  by_cases a0 : asksK c.state = 0
  · rw [if_pos a0, if_pos a0]
    have ea : (asksK c.state == 0) = true := by simp [a0]
    clear a0
    go_enter Tryd.func45, Tryd.ntmps45
    go_wp2_with fail
    refine (asks_any _ _).mono ?_; rintro e w1 ⟨rfl, rfl⟩
    go_wp2_with fail
    (try simp only [Exit.inBlock, Exit.then])
    first
      | refine bodyPost_end (results_none rfl _ _ _) rfl ?_
      | refine bodyPost_ret (results_none rfl _ _ _) rfl ?_
    exact ⟨⟨_, rfl⟩, H.out⟩
  rw [if_neg a0, if_neg a0]
  have ea : (asksK c.state == 0) = false := by simpa using a0
  clear a0
  by_cases am : c.most ≤ c.cc
  · rw [if_pos am, if_pos am]
    have em : decide (c.most ≤ c.cc) = true := decide_eq_true am
    clear am
    go_enter Tryd.func45, Tryd.ntmps45
    go_wp2_with fail
    refine (asks_any _ _).mono ?_; rintro e w1 ⟨rfl, rfl⟩
    go_wp2_with fail
    go_quiet (fail)
    have H0q := Lib.hid (H.out.drewN nq)
    clear p0_ c2_ c0_ c6_ z6_
    go_wp2_with fail
    refine (giveUp_any X w0 _ g m c o H0q.out (HL.out.more (by decide))).mono ?_; rintro e w2 ⟨⟨v2, rfl⟩, h2⟩
    have H2 := Lib.hid h2
    clear h2
    go_wp2_with fail
    (try simp only [Exit.inBlock, Exit.then])
    first
      | refine bodyPost_end (results_none rfl _ _ _) rfl ?_
      | refine bodyPost_ret (results_none rfl _ _ _) rfl ?_
    exact ⟨⟨_, rfl⟩, H2.out⟩
  · rw [if_neg am, if_neg am]
    have em : decide (c.most ≤ c.cc) = false := decide_eq_false am
    clear am
    go_enter Tryd.func45, Tryd.ntmps45
    go_wp2_with fail
    refine (asks_any _ _).mono ?_; rintro e w1 ⟨rfl, rfl⟩
    go_wp2_with fail
    go_quiet (fail)
    have H0q := Lib.hid (H.out.drewN nq)
    generalize w1.drewN nq = W2 at *
    clear p0_ c2_ c0_ c6_ z6_
    have p0_ := H0q.out.p0
    have c6_ := H0q.out.c6
    have z6_ := H0q.out.free 6
    have HS := Lib.hid (H0q.out.setC 6 (.int .i64 (c.cc + 1)) (ccC c) rfl)
    go_wp2_with fail
    clear p0_ c6_ z6_
    refine (ask_any X w0 _ g m (ccC c) o HS.out (HL.out.more (by decide))).mono ?_; rintro e w3 ⟨⟨v3, rfl⟩, h3⟩
    have H3 := Lib.hid h3
    clear h3
    go_wp2_with fail
    (try simp only [Exit.inBlock, Exit.then])
    first
      | refine bodyPost_end (results_none rfl _ _ _) rfl ?_
      | refine bodyPost_ret (results_none rfl _ _ _) rfl ?_
    exact ⟨⟨_, rfl⟩, H3.out⟩
set_option maxRecDepth 100000 in
set_option maxHeartbeats 4000000 in
theorem request1_any (qa qb : Nat) (kind : Int) (data : ByteArray) (hk : w.cell? ⟨qa, 0, none⟩ = some (.int .i64 kind)) (hd : w.cell? ⟨qb, 0, none⟩ = some (.string data)) (hq : 0 ≤ c.sq ∧ c.sq ≤ 255) (h : Make X w0 w g m c o) (hl : Few o 900) :
    Calls Tryd.prog 43 #[.pointer (some ⟨m, 0, none⟩), .pointer (some ⟨qa, 0, none⟩), .pointer (some ⟨qb, 0, none⟩)] w fun e w' => (∃ v, e = .returned v) ∧ Make X w0 w' g m (reqC c kind data) (reqO c o kind data) := by
  have H := Lib.hid h
  have HL := Lib.hid hl
  have HQ := Lib.hid hq
  clear h hl hq
  go_enter Tryd.func43, Tryd.ntmps43
  go_wp2_with fail
  refine (request_any X w0 _ g m c o kind data HQ.out H.out (HL.out.more (by decide))).mono ?_; rintro e w1 ⟨⟨v1, rfl⟩, h1⟩
  have H1 := Lib.hid h1
  clear h1
  clear hk hd
  go_wp2_with fail
  (try simp only [Exit.inBlock, Exit.then])
  first
    | refine bodyPost_end (results_none rfl _ _ _) rfl ?_
    | refine bodyPost_ret (results_none rfl _ _ _) rfl ?_
  exact ⟨⟨_, rfl⟩, H1.out⟩
set_option maxRecDepth 100000 in
set_option maxHeartbeats 4000000 in
theorem receive1_any (qb : Nat) (p : P) (hk : w.heap[qb]? = some (.cells (encP p) 74 (0, 0))) (hT : Rules.Tabs w0) (hXT : X 1) (hGL : 1 ≠ g) (hwf : (Lit.int .i64 c.state).wf = true) (h : Make X w0 w g m c o) (hl : Few o 900) :
    Calls Tryd.prog 49 #[.pointer (some ⟨m, 0, none⟩), .pointer (some ⟨qb, 0, none⟩)] w fun e w' => (∃ v, e = .returned v) ∧ Make X w0 w' g m (recvC c p) (recvO c o p) := by
  have k0_ : w.cell? ⟨qb, 0, none⟩ = some (.int .i64 p.kind) := (cell_of_row _ _ _ _ _ _ hk).trans rfl
  have k1_ : w.cell? ⟨qb, 1, none⟩ = some (.int .i64 p.sq) := (cell_of_row _ _ _ _ _ _ hk).trans rfl
  have k2_ : w.cell? ⟨qb, 2, none⟩ = some (.int .u32 p.n) := (cell_of_row _ _ _ _ _ _ hk).trans rfl
  have k3_ : w.cell? ⟨qb, 3, none⟩ = some (.int .u32 p.ps) := (cell_of_row _ _ _ _ _ _ hk).trans rfl
  have k4_ : w.cell? ⟨qb, 4, none⟩ = some (.int .u32 p.mr) := (cell_of_row _ _ _ _ _ _ hk).trans rfl
  have k5_ : w.cell? ⟨qb, 5, none⟩ = some (.slice p.la p.ln p.lc) := (cell_of_row _ _ _ _ _ _ hk).trans rfl
  have k6_ : w.cell? ⟨qb, 6, none⟩ = some (.bool p.self) := (cell_of_row _ _ _ _ _ _ hk).trans rfl
  have k7_ : w.cell? ⟨qb, 7, none⟩ = some (.string p.data) := (cell_of_row _ _ _ _ _ _ hk).trans rfl
  have H := Lib.hid h
  have HL := Lib.hid hl
  have HT := Lib.hid hT
  have HXT := Lib.hid hXT
  have HGL := Lib.hid hGL
  have HWF := Lib.hid hwf
  clear h hl hT hXT hGL hwf hk
  go_enter Tryd.func49, Tryd.ntmps49
  go_wp2_with fail
  refine (receive_any X w0 _ g m c o p HT.out HXT.out HGL.out HWF.out H.out HL.out).mono ?_; rintro e w1 ⟨⟨v1, rfl⟩, h1⟩
  have H1 := Lib.hid h1
  clear h1
  go_wp2_with fail
  (try simp only [Exit.inBlock, Exit.then])
  first
    | refine bodyPost_end (results_none rfl _ _ _) rfl ?_
    | refine bodyPost_ret (results_none rfl _ _ _) rfl ?_
  exact ⟨⟨_, rfl⟩, H1.out⟩
end
end Go.Proofs.YtkphompjahcjiaaDoor.Conn
