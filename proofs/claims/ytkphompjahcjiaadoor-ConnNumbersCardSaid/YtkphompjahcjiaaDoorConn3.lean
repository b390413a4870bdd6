/-
  A connection: the small steps of a call in the making.
-/
import Derived.Test.YtkphompjahcjiaaDoorConn2
namespace Go.Proofs.YtkphompjahcjiaaDoor.Conn
open Go.RowKit

def noD : ByteArray := ⟨#[]⟩
def tellO (o : O) (s : S) : O := { o with sigs := o.sigs ++ [s] }
def putO (o : O) (u : U) : O := { o with units := o.units ++ [u] }
def reportO (o : O) (code : Int) : O := tellO o ⟨12, noD, false, code, 0⟩
def releasedO (o : O) (self : Bool) (data : ByteArray) : O := tellO o ⟨3, data, self, 0, 0⟩
def grantC (c : C) (kind : Int) : Int := if kind = 1 ∨ kind = 2 ∨ kind = 5 ∨ kind = 6 ∨ kind = 9 ∨ kind = 15 then c.credit else 0
def sendO (c : C) (o : O) (kind sq : Int) : O := putO o ⟨kind, sq, grantC c kind, false, noD⟩
def endO (c : C) (o : O) : O := putO o ⟨3, c.sq, 0, true, noD⟩
def toC (c : C) (state : Int) : C := { c with state := state }
def stopO (o : O) : O := { o with timer := 2 }
def readyO (c : C) (o : O) : O := { stopO o with begins := true, ms := c.ms }
def asksK (s : Int) : Int := if s = 2 then 1 else if s = 4 then 3 else if s = 5 then 5 else if s = 7 then 9 else 0
def askO (c : C) (o : O) : O := { putO o ⟨asksK c.state, c.sq, grantC c (asksK c.state), false, c.data⟩ with timer := 1 }
def beginC (c : C) (state : Int) (data : ByteArray) : C := { c with sq := (c.sq + 1) % 256, state := state, cc := 1, data := data }
def Few (o : O) (N : Nat) : Prop := o.sigs.length ≤ N ∧ o.units.length ≤ N
theorem Few.more {o : O} {N N' : Nat} (h : Few o N) (hn : N ≤ N') : Few o N' := ⟨Nat.le_trans h.1 hn, Nat.le_trans h.2 hn⟩
theorem Few.tell {o : O} {N N' : Nat} (h : Few o N) (s : S) (hn : N + 1 ≤ N') : Few (tellO o s) N' := ⟨by unfold tellO; simp; have := h.1; omega, by unfold tellO; have := h.2; show o.units.length ≤ _; omega⟩
theorem Few.put {o : O} {N N' : Nat} (h : Few o N) (u : U) (hn : N + 1 ≤ N') : Few (putO o u) N' := ⟨by unfold putO; have := h.1; show o.sigs.length ≤ _; omega, by unfold putO; simp; have := h.2; omega⟩
theorem Make.ne {X : Nat → Prop} {w0 w : World} {g m : Nat} {c : C} {o : O} (h : Make X w0 w g m c o) : g ≠ m := h.gm
theorem Make.ne' {X : Nat → Prop} {w0 w : World} {g m : Nat} {c : C} {o : O} (h : Make X w0 w g m c o) : m ≠ g := h.gm.symm
theorem asks_any (s : Int) (w : World) : Calls Tryd.prog 46 #[.int .i64 s] w fun e w' => e = .returned (.int .i64 (asksK s)) ∧ w' = w := by
  unfold asksK
  by_cases h2 : s = 2
  · subst h2
    go_enter Tryd.func46, Tryd.ntmps46
    go_wp2_with fail
    go_ret
    exact ⟨rfl, rfl⟩
  · by_cases h4 : s = 4
    · subst h4
      go_enter Tryd.func46, Tryd.ntmps46
      go_wp2_with fail
      go_ret
      exact ⟨rfl, rfl⟩
    · by_cases h5 : s = 5
      · subst h5
        go_enter Tryd.func46, Tryd.ntmps46
        go_wp2_with fail
        go_ret
        exact ⟨rfl, rfl⟩
      · by_cases h7 : s = 7
        · subst h7
          go_enter Tryd.func46, Tryd.ntmps46
          go_wp2_with fail
          go_ret
          exact ⟨rfl, rfl⟩
        · rw [if_neg h2, if_neg h4, if_neg h5, if_neg h7]
          have e2 : (s == 2) = false := by simpa using h2
          have e4 : (s == 4) = false := by simpa using h4
          have e5 : (s == 5) = false := by simpa using h5
          have e7 : (s == 7) = false := by simpa using h7
          go_enter Tryd.func46, Tryd.ntmps46
          go_wp2_with fail
          go_ret
          exact ⟨rfl, rfl⟩
section
variable (X : Nat → Prop) (w0 w : World) (g m : Nat) (c : C) (o : O)
set_option maxRecDepth 100000 in
set_option maxHeartbeats 4000000 in
theorem report_any (code : Int) (h : Make X w0 w g m c o) (hl : Few o 990) :
    Calls Tryd.prog 39 #[.pointer (some ⟨m, 0, none⟩), .int .u8 code] w fun e w' => (∃ v, e = .returned v) ∧ Make X w0 w' g m (c) (reportO o code) := by
  have H := Lib.hid h
  have HL := Lib.hid hl
  clear h hl
  go_enter Tryd.func39, Tryd.ntmps39
  go_wp2_with fail
  refine (tell_any X w0 w g m c o ⟨12, noD, false, code, 0⟩ H.out (by have := HL.out.1; omega)).mono ?_; rintro e w1 ⟨⟨v1, rfl⟩, h1⟩
  have H1 := Lib.hid h1
  clear h1
  go_wp2_with fail
  (try simp only [Exit.inBlock, Exit.then])
  first
    | refine bodyPost_end (results_none rfl _ _ _) rfl ?_
    | refine bodyPost_ret (results_none rfl _ _ _) rfl ?_
  exact ⟨⟨_, rfl⟩, H1.out⟩
set_option maxRecDepth 100000 in
set_option maxHeartbeats 4000000 in
theorem released_any (self : Bool) (data : ByteArray) (h : Make X w0 w g m c o) (hl : Few o 990) :
    Calls Tryd.prog 53 #[.pointer (some ⟨m, 0, none⟩), .bool self, .string data] w fun e w' => (∃ v, e = .returned v) ∧ Make X w0 w' g m (c) (releasedO o self data) := by
  have H := Lib.hid h
  have HL := Lib.hid hl
  clear h hl
  go_enter Tryd.func53, Tryd.ntmps53
  go_wp2_with fail
  refine (tell_any X w0 w g m c o ⟨3, data, self, 0, 0⟩ H.out (by have := HL.out.1; omega)).mono ?_; rintro e w1 ⟨⟨v1, rfl⟩, h1⟩
  have H1 := Lib.hid h1
  clear h1
  go_wp2_with fail
  (try simp only [Exit.inBlock, Exit.then])
  first
    | refine bodyPost_end (results_none rfl _ _ _) rfl ?_
    | refine bodyPost_ret (results_none rfl _ _ _) rfl ?_
  exact ⟨⟨_, rfl⟩, H1.out⟩
set_option maxRecDepth 100000 in
set_option maxHeartbeats 4000000 in
theorem stop_any (s : Int) (h : Make X w0 w g m c o) :
    Calls Tryd.prog 71 #[.pointer (some ⟨m, 0, none⟩), .int .i64 s] w fun e w' => (∃ v, e = .returned v) ∧ Make X w0 w' g m (toC c s) (stopO o) := by
  have p0_ := h.p0
  have c2_ := h.c2
  have p6_ := h.p6
  have z2_ := h.free 2
  have y6_ := h.mfree 6
  have hne := h.ne
  have hne2 := h.ne'
  have HF := Lib.hid ((h.setC 2 (.int .i64 s) (toC c s) rfl).setO 6 (.int .i64 2) (stopO o) rfl rfl (fun _ _ => rfl))
  clear h
  go_enter Tryd.func71, Tryd.ntmps71
  go_wp2_with fail
  (try simp only [Exit.inBlock, Exit.then])
  first
    | refine bodyPost_end (results_none rfl _ _ _) rfl ?_
    | refine bodyPost_ret (results_none rfl _ _ _) rfl ?_
  exact ⟨⟨_, rfl⟩, HF.out⟩
set_option maxRecDepth 100000 in
set_option maxHeartbeats 4000000 in
theorem grant_any (kind : Int) (h : Make X w0 w g m c o) :
    Calls Tryd.prog 72 #[.pointer (some ⟨m, 0, none⟩), .int .i64 kind] w fun e w' => e = .returned (.int .u32 (grantC c kind)) ∧ w' = w := by
  unfold grantC
  have p0_ := h.p0
  have c1_ := h.c1
  clear h
  rcases (show kind = 1 ∨ kind = 2 ∨ kind = 5 ∨ kind = 6 ∨ kind = 9 ∨ kind = 15 ∨ ¬ (kind = 1 ∨ kind = 2 ∨ kind = 5 ∨ kind = 6 ∨ kind = 9 ∨ kind = 15) by omega) with rfl | rfl | rfl | rfl | rfl | rfl | hk
  · go_enter Tryd.func72, Tryd.ntmps72
    go_wp2_with fail
    go_ret
    exact ⟨rfl, rfl⟩
  · go_enter Tryd.func72, Tryd.ntmps72
    go_wp2_with fail
    go_ret
    exact ⟨rfl, rfl⟩
  · go_enter Tryd.func72, Tryd.ntmps72
    go_wp2_with fail
    go_ret
    exact ⟨rfl, rfl⟩
  · go_enter Tryd.func72, Tryd.ntmps72
    go_wp2_with fail
    go_ret
    exact ⟨rfl, rfl⟩
  · go_enter Tryd.func72, Tryd.ntmps72
    go_wp2_with fail
    go_ret
    exact ⟨rfl, rfl⟩
  · go_enter Tryd.func72, Tryd.ntmps72
    go_wp2_with fail
    go_ret
    exact ⟨rfl, rfl⟩
  · rw [if_neg hk]
    have e1 : (kind == 1) = false := by simp; omega
    have e2 : (kind == 2) = false := by simp; omega
    have e5 : (kind == 5) = false := by simp; omega
    have e6 : (kind == 6) = false := by simp; omega
    have e9 : (kind == 9) = false := by simp; omega
    have e15 : (kind == 15) = false := by simp; omega
    clear hk
    go_enter Tryd.func72, Tryd.ntmps72
    go_wp2_with fail
    go_ret
    exact ⟨rfl, rfl⟩
set_option maxRecDepth 100000 in
set_option maxHeartbeats 4000000 in
theorem send_any (kind sq : Int) (h : Make X w0 w g m c o) (hl : Few o 990) :
    Calls Tryd.prog 67 #[.pointer (some ⟨m, 0, none⟩), .int .i64 kind, .int .i64 sq] w fun e w' => (∃ v, e = .returned v) ∧ Make X w0 w' g m (c) (sendO c o kind sq) := by
  have H := Lib.hid h
  have HL := Lib.hid hl
  clear h hl
  go_enter Tryd.func67, Tryd.ntmps67
  go_wp2_with fail
  refine (grant_any X w0 w g m c o kind H.out).mono ?_; rintro e w1 ⟨rfl, rfl⟩
  go_wp2_with fail
  refine (put_any X w0 _ g m c o ⟨kind, sq, grantC c kind, false, noD⟩ H.out (by have := HL.out.2; omega)).mono ?_; rintro e w1 ⟨⟨v1, rfl⟩, h1⟩
  have H1 := Lib.hid h1
  clear h1
  go_wp2_with fail
  (try simp only [Exit.inBlock, Exit.then])
  first
    | refine bodyPost_end (results_none rfl _ _ _) rfl ?_
    | refine bodyPost_ret (results_none rfl _ _ _) rfl ?_
  exact ⟨⟨_, rfl⟩, H1.out⟩
set_option maxRecDepth 100000 in
set_option maxHeartbeats 4000000 in
theorem end_any (h : Make X w0 w g m c o) (hl : Few o 990) :
    Calls Tryd.prog 52 #[.pointer (some ⟨m, 0, none⟩)] w fun e w' => (∃ v, e = .returned v) ∧ Make X w0 w' g m (c) (endO c o) := by
  have p0_ := h.p0
  have c3_ := h.c3
  have H := Lib.hid h
  have HL := Lib.hid hl
  clear h hl
  go_enter Tryd.func52, Tryd.ntmps52
  go_wp2_with fail
  refine (put_any X w0 _ g m c o ⟨3, c.sq, 0, true, noD⟩ H.out (by have := HL.out.2; omega)).mono ?_; rintro e w1 ⟨⟨v1, rfl⟩, h1⟩
  have H1 := Lib.hid h1
  clear h1
  go_wp2_with fail
  (try simp only [Exit.inBlock, Exit.then])
  first
    | refine bodyPost_end (results_none rfl _ _ _) rfl ?_
    | refine bodyPost_ret (results_none rfl _ _ _) rfl ?_
  exact ⟨⟨_, rfl⟩, H1.out⟩
end
end Go.Proofs.YtkphompjahcjiaaDoor.Conn
