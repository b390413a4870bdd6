/-
  A connection: what begins, what ends.
-/
import Derived.Test.YtkphompjahcjiaaDoorConn3
import Derived.Test.YtkphompjahcjiaaDoorQuietTail
import Derived.StillTailTactics
namespace Go.Proofs.YtkphompjahcjiaaDoor.Conn
open Go.RowKit

section
variable (X : Nat → Prop) (w0 w : World) (g m : Nat) (c : C) (o : O)
set_option maxRecDepth 100000 in
set_option maxHeartbeats 4000000 in
theorem ready_any (h : Make X w0 w g m c o) :
    Calls Tryd.prog 68 #[.pointer (some ⟨m, 0, none⟩)] w fun e w' => (∃ v, e = .returned v) ∧ Make X w0 w' g m (toC c 10) (readyO c o) := by
  have H := Lib.hid h
  clear h
  go_enter Tryd.func68, Tryd.ntmps68
  go_wp2_with fail
  refine (stop_any X w0 _ g m c o 10 H.out).mono ?_; rintro e w1 ⟨⟨v1, rfl⟩, h1⟩
  have H1 := Lib.hid h1
  clear h1
  have p0_ := H1.out.p0
  have c5_ := H1.out.c5
  have p3_ := H1.out.p3
  have p5_ := H1.out.p5
  have z5_ := H1.out.free 5
  have y3_ := H1.out.mfree 3
  have y5_ := H1.out.mfree 5
  have hne := H1.out.ne
  have hne2 := H1.out.ne'
  have HF := Lib.hid ((H1.out.setO 3 (.bool true) { stopO o with begins := true } rfl rfl (fun _ _ => rfl)).setO 5 (.int .u32 c.ms) (readyO c o) rfl rfl (fun _ _ => rfl))
  go_wp2_with fail
  (try simp only [Exit.inBlock, Exit.then])
  first
    | refine bodyPost_end (results_none rfl _ _ _) rfl ?_
    | refine bodyPost_ret (results_none rfl _ _ _) rfl ?_
  exact ⟨⟨_, rfl⟩, HF.out⟩
set_option maxRecDepth 100000 in
set_option maxHeartbeats 4000000 in
theorem left_any (h : Make X w0 w g m c o) (hl : Few o 990) :
    Calls Tryd.prog 70 #[.pointer (some ⟨m, 0, none⟩)] w fun e w' => (∃ v, e = .returned v) ∧ Make X w0 w' g m (toC c 1) (stopO (tellO o ⟨4, noD, false, 0, 0⟩)) := by
  have H := Lib.hid h
  have HL := Lib.hid hl
  clear h hl
  go_enter Tryd.func70, Tryd.ntmps70
  go_wp2_with fail
  refine (tell_any X w0 w g m c o ⟨4, noD, false, 0, 0⟩ H.out (by have := HL.out.1; omega)).mono ?_; rintro e w1 ⟨⟨v1, rfl⟩, h1⟩
  have H1 := Lib.hid h1
  clear h1
  go_wp2_with fail
  refine (stop_any X w0 _ g m c _ 1 H1.out).mono ?_; rintro e w2 ⟨⟨v2, rfl⟩, h2⟩
  have H2 := Lib.hid h2
  clear h2
  go_wp2_with fail
  (try simp only [Exit.inBlock, Exit.then])
  first
    | refine bodyPost_end (results_none rfl _ _ _) rfl ?_
    | refine bodyPost_ret (results_none rfl _ _ _) rfl ?_
  exact ⟨⟨_, rfl⟩, H2.out⟩
end
end Go.Proofs.YtkphompjahcjiaaDoor.Conn
