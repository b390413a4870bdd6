/-
  A connection: what begins, what ends.
-/
import Derived.Test.YtkphompjahcjiaaDoorConn6
import Derived.Deep.RegionHeld3
import Derived.BigQuiet
import Derived.Deep.DeepCutAuto
import Derived.Test.YtkphompjahcjiaaDoorQuietTail
import Derived.StillTailTactics
namespace Go.Proofs.YtkphompjahcjiaaDoor.Conn
open Go.RowKit

def reqC (c : C) (kind : Int) (data : ByteArray) : C :=
  if kind = 1 then beginC c 2 data else if kind = 2 then toC c 10 else if kind = 3 then leaveC c data else if kind = 4 then beginC c 5 data else if kind = 5 then toC c 10 else if kind = 6 then toC c 10 else c
def reqO (c : C) (o : O) (kind : Int) (data : ByteArray) : O :=
  if kind = 1 then askO (beginC c 2 data) o else if kind = 2 then readyO c (sendO c o 2 c.peer) else if kind = 3 then leaveO c o data else if kind = 4 then askO (beginC c 5 data) o
  else if kind = 5 then readyO c (sendO c o 6 c.peer) else if kind = 6 then readyO c (if c.state = 9 then sendO c o 15 c.peer else o) else o
section
variable (X : Nat → Prop) (w0 w : World) (g m : Nat) (c : C) (o : O)
set_option maxRecDepth 100000 in
set_option maxHeartbeats 4000000 in
theorem within_any (a b : Int) (h : Make X w0 w g m c o) :
    Calls Tryd.prog 91 #[.pointer (some ⟨m, 0, none⟩), .int .i64 a, .int .i64 b] w fun e w' => e = .returned (.bool (decide (a ≤ c.state ∧ c.state ≤ b))) ∧ w' = w := by
  have c2_ := h.c2
  have p0_ := h.p0
  clear h
  by_cases h1 : a ≤ c.state
  · by_cases h2 : c.state ≤ b
    · rw [decide_eq_true (show a ≤ c.state ∧ c.state ≤ b from ⟨h1, h2⟩)]
      go_enter Tryd.func91, Tryd.ntmps91
      go_wp2_with fail
      go_ret
      exact ⟨rfl, rfl⟩
    · rw [decide_eq_false (fun h : a ≤ c.state ∧ c.state ≤ b => h2 h.2)]
      have d2 : decide (c.state ≤ b) = false := decide_eq_false h2
      go_enter Tryd.func91, Tryd.ntmps91
      go_wp2_with fail
      go_ret
      exact ⟨rfl, rfl⟩
  · rw [decide_eq_false (fun h : a ≤ c.state ∧ c.state ≤ b => h1 h.1)]
    have d1 : decide (a ≤ c.state) = false := decide_eq_false h1
    go_enter Tryd.func91, Tryd.ntmps91
    go_wp2_with fail
    go_ret
    exact ⟨rfl, rfl⟩
set_option maxRecDepth 100000 in
set_option maxHeartbeats 4000000 in
theorem request_any (kind : Int) (data : ByteArray) (hq : 0 ≤ c.sq ∧ c.sq ≤ 255) (h : Make X w0 w g m c o) (hl : Few o 980) :
    Calls Tryd.prog 44 #[.pointer (some ⟨m, 0, none⟩), .int .i64 kind, .string data] w fun e w' => (∃ v, e = .returned v) ∧ Make X w0 w' g m (reqC c kind data) (reqO c o kind data) := by
  have H := Lib.hid h
  have HL := Lib.hid hl
  have HQ := Lib.hid hq
  have p0_ := h.p0
  have c2_ := h.c2
  have c4_ := h.c4
  clear h hl hq
  unfold reqC reqO
  by_cases h1 : kind = 1
  · subst h1
    simp only [if_true]
    go_enter Tryd.func44, Tryd.ntmps44
    go_wp2_with fail
    refine (begin_any X w0 _ g m c o 2 data HQ.out H.out (HL.out.more (by decide))).mono ?_; rintro e w1 ⟨⟨v1, rfl⟩, h1⟩
    have H1 := Lib.hid h1
    clear h1
    go_wp2_with fail
    (try simp only [Exit.inBlock, Exit.then])
    first
      | refine bodyPost_end (results_none rfl _ _ _) rfl ?_
      | refine bodyPost_ret (results_none rfl _ _ _) rfl ?_
    exact ⟨⟨_, rfl⟩, H1.out⟩
  rw [if_neg h1, if_neg h1]
  by_cases h2 : kind = 2
  · subst h2
    simp only [if_true, if_false, Int.reduceEq]
    go_enter Tryd.func44, Tryd.ntmps44
    go_wp2_with fail
    refine (send_any X w0 _ g m c o 2 c.peer H.out (HL.out.more (by decide))).mono ?_; rintro e w1 ⟨⟨v1, rfl⟩, h1⟩
    have H1 := Lib.hid h1
    clear h1
    clear p0_ c2_ c4_
    go_wp2_with fail
    refine (ready_any X w0 _ g m c _ H1.out).mono ?_; rintro e w2 ⟨⟨v2, rfl⟩, h2⟩
    have H2 := Lib.hid h2
    clear h2
    go_wp2_with fail
    (try simp only [Exit.inBlock, Exit.then])
    first
      | refine bodyPost_end (results_none rfl _ _ _) rfl ?_
      | refine bodyPost_ret (results_none rfl _ _ _) rfl ?_
    exact ⟨⟨_, rfl⟩, H2.out⟩
  rw [if_neg h2, if_neg h2]
  by_cases h3 : kind = 3
  · subst h3
    simp only [if_true, if_false, Int.reduceEq]
    go_enter Tryd.func44, Tryd.ntmps44
    go_wp2_with fail
    refine (leave_any X w0 _ g m c o data H.out (HL.out.more (by decide))).mono ?_; rintro e w1 ⟨⟨v1, rfl⟩, h1⟩
    have H1 := Lib.hid h1
    clear h1
    go_wp2_with fail
    (try simp only [Exit.inBlock, Exit.then])
    first
      | refine bodyPost_end (results_none rfl _ _ _) rfl ?_
      | refine bodyPost_ret (results_none rfl _ _ _) rfl ?_
    exact ⟨⟨_, rfl⟩, H1.out⟩
  rw [if_neg h3, if_neg h3]
  by_cases h4 : kind = 4
  · subst h4
    simp only [if_true, if_false, Int.reduceEq]
    go_enter Tryd.func44, Tryd.ntmps44
    go_wp2_with fail
    refine (begin_any X w0 _ g m c o 5 data HQ.out H.out (HL.out.more (by decide))).mono ?_; rintro e w1 ⟨⟨v1, rfl⟩, h1⟩
    have H1 := Lib.hid h1
    clear h1
    go_wp2_with fail
    (try simp only [Exit.inBlock, Exit.then])
    first
      | refine bodyPost_end (results_none rfl _ _ _) rfl ?_
      | refine bodyPost_ret (results_none rfl _ _ _) rfl ?_
    exact ⟨⟨_, rfl⟩, H1.out⟩
  rw [if_neg h4, if_neg h4]
  by_cases h5 : kind = 5
  · subst h5
    simp only [if_true, if_false, Int.reduceEq]
    go_enter Tryd.func44, Tryd.ntmps44
    go_wp2_with fail
    refine (send_any X w0 _ g m c o 6 c.peer H.out (HL.out.more (by decide))).mono ?_; rintro e w1 ⟨⟨v1, rfl⟩, h1⟩
    have H1 := Lib.hid h1
    clear h1
    clear p0_ c2_ c4_
    go_wp2_with fail
    refine (ready_any X w0 _ g m c _ H1.out).mono ?_; rintro e w2 ⟨⟨v2, rfl⟩, h2⟩
    have H2 := Lib.hid h2
    clear h2
    go_wp2_with fail
    (try simp only [Exit.inBlock, Exit.then])
    first
      | refine bodyPost_end (results_none rfl _ _ _) rfl ?_
      | refine bodyPost_ret (results_none rfl _ _ _) rfl ?_
    exact ⟨⟨_, rfl⟩, H2.out⟩
  rw [if_neg h5, if_neg h5]
  by_cases h6 : kind = 6
  · subst h6
    simp only [if_true]
    by_cases h9 : c.state = 9
    · rw [if_pos h9]
      rw [h9] at c2_
      have HS := Lib.hid h9
      clear h9
      go_enter Tryd.func44, Tryd.ntmps44
      go_wp2_with fail
      refine (send_any X w0 _ g m c o 15 c.peer H.out (HL.out.more (by decide))).mono ?_; rintro e w1 ⟨⟨v1, rfl⟩, h1⟩
      have H1 := Lib.hid h1
      clear h1
      clear p0_ c2_ c4_
      go_wp2_with fail
      refine (ready_any X w0 _ g m c _ H1.out).mono ?_; rintro e w2 ⟨⟨v2, rfl⟩, h2⟩
      have H2 := Lib.hid h2
      clear h2
      go_wp2_with fail
      (try simp only [Exit.inBlock, Exit.then])
      first
        | refine bodyPost_end (results_none rfl _ _ _) rfl ?_
        | refine bodyPost_ret (results_none rfl _ _ _) rfl ?_
      exact ⟨⟨_, rfl⟩, H2.out⟩
    · rw [if_neg h9]
      have e9 : (c.state == 9) = false := by simpa using h9
      clear h9
      go_enter Tryd.func44, Tryd.ntmps44
      go_wp2_with fail
      refine (ready_any X w0 _ g m c _ H.out).mono ?_; rintro e w1 ⟨⟨v1, rfl⟩, h1⟩
      have H1 := Lib.hid h1
      clear h1
      go_wp2_with fail
      (try simp only [Exit.inBlock, Exit.then])
      first
        | refine bodyPost_end (results_none rfl _ _ _) rfl ?_
        | refine bodyPost_ret (results_none rfl _ _ _) rfl ?_
      exact ⟨⟨_, rfl⟩, H1.out⟩
  rw [if_neg h6, if_neg h6]
  have e1 : (kind == 1) = false := by simpa using h1
  have e2 : (kind == 2) = false := by simpa using h2
  have e3 : (kind == 3) = false := by simpa using h3
  have e4 : (kind == 4) = false := by simpa using h4
  have e5 : (kind == 5) = false := by simpa using h5
  have e6 : (kind == 6) = false := by simpa using h6
  clear h1 h2 h3 h4 h5 h6
  go_enter Tryd.func44, Tryd.ntmps44
  go_wp2_with fail
  (try simp only [Exit.inBlock, Exit.then])
  first
    | refine bodyPost_end (results_none rfl _ _ _) rfl ?_
    | refine bodyPost_ret (results_none rfl _ _ _) rfl ?_
  exact ⟨⟨_, rfl⟩, H.out⟩
end
end Go.Proofs.YtkphompjahcjiaaDoor.Conn
