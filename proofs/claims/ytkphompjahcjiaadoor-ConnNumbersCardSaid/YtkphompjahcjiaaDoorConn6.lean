/-
  A connection: what begins, what ends.
-/
import Derived.Test.YtkphompjahcjiaaDoorConn5
import Derived.Deep.RegionHeld3
import Derived.BigQuiet
import Derived.Deep.DeepCutAuto
import Derived.Test.YtkphompjahcjiaaDoorQuietTail
import Derived.StillTailTactics
namespace Go.Proofs.YtkphompjahcjiaaDoor.Conn
open Go.RowKit

section
variable (X : Nat → Prop) (w0 w : World) (g m : Nat) (c : C) (o : O)
set_option maxRecDepth 100000 in
set_option maxHeartbeats 4000000 in
theorem begin_any (state : Int) (data : ByteArray) (hq : 0 ≤ c.sq ∧ c.sq ≤ 255) (h : Make X w0 w g m c o) (hl : Few o 990) :
    Calls Tryd.prog 40 #[.pointer (some ⟨m, 0, none⟩), .int .i64 state, .string data] w fun e w' => (∃ v, e = .returned v) ∧ Make X w0 w' g m (beginC c state data) (askO (beginC c state data) o) := by
  have hs1 := hq.1
  have hs2 := hq.2
  have hmod : (c.sq + 1) % 256 = (c.sq + 1).tmod 256 := by rw [Int.tmod_eq_emod_of_nonneg (by omega)]
  have p0_ := h.p0
  have c3_ := h.c3
  have z3_ := h.free 3
  have hne := h.ne
  have hne2 := h.ne'
  have H := Lib.hid h
  have HL := Lib.hid hl
  have HF1 : Hid (Make X w0 (w.setCell ⟨g, 3, none⟩ (.int .i64 ((c.sq + 1) % 256))).drew g m { c with sq := (c.sq + 1) % 256 } o) := Lib.hid ((h.setC 3 (.int .i64 ((c.sq + 1) % 256)) { c with sq := (c.sq + 1) % 256 } rfl).drewN 1)
  clear h hl hq hmod
  go_enter Tryd.func40, Tryd.ntmps40
  go_wp2_with fail
  go_still_tail 15, (by kernel_rfl)
  change wpList _ _ _ _ _ w.drew
  go_wp2_with fail
  generalize (w.setCell ⟨g, 3, none⟩ (.int .i64 ((c.sq + 1) % 256))).drew = W1 at *
  have rp0_ := HF1.out.p0
  have rc2_ := HF1.out.c2
  have rc6_ := HF1.out.c6
  have rc7_ := HF1.out.c7
  have rz2_ := HF1.out.free 2
  have rz6_ := HF1.out.free 6
  have rz7_ := HF1.out.free 7
  have rhne := HF1.out.ne
  have rhne2 := HF1.out.ne'
  go_region_held3 (fun w' => w'.cell? ⟨m, 0, none⟩ = some (.pointer (some ⟨g, 0, none⟩)))
    (first | (with_reducible assumption) | exact rp0_ | go_keep)
    (fail)
  have HF2 : Hid (Make X w0 (((W1.setCell ⟨g, 2, none⟩ (.int .i64 state)).setCell ⟨g, 6, none⟩ (.int .i64 1)).setCell ⟨g, 7, none⟩ (.string data)).drew g m (beginC c state data) o) := Lib.hid ((((HF1.out.setC 2 (.int .i64 state) { c with sq := (c.sq + 1) % 256, state := state } rfl).setC 6 (.int .i64 1) { c with sq := (c.sq + 1) % 256, state := state, cc := 1 } rfl).setC 7 (.string data) (beginC c state data) rfl).drewN 1)
  generalize (((W1.setCell ⟨g, 2, none⟩ (.int .i64 state)).setCell ⟨g, 6, none⟩ (.int .i64 1)).setCell ⟨g, 7, none⟩ (.string data)).drew = W2 at *
  clear rp0_ rc2_ rc6_ rc7_ rz2_ rz6_ rz7_
  go_wp2_with fail
  refine (ask_any X w0 _ g m (beginC c state data) o HF2.out HL.out).mono ?_; rintro e w3 ⟨⟨v3, rfl⟩, h3⟩
  have H3 := Lib.hid h3
  clear h3
  go_wp2_with fail
  (try simp only [Exit.inBlock, Exit.then])
  refine bodyPost_end (results_none rfl _ _ _) rfl ?_
  exact ⟨⟨_, rfl⟩, H3.out⟩
def leaveC (c : C) (data : ByteArray) : C := if c.state = 3 then toC c 1 else { c with state := 4, cc := 1, data := data }
def leaveO (c : C) (o : O) (data : ByteArray) : O := if c.state = 3 then putO o ⟨7, c.peer, 0, false, data⟩ else askO (leaveC c data) o
set_option maxRecDepth 100000 in
set_option maxHeartbeats 4000000 in
theorem leave_any (data : ByteArray) (h : Make X w0 w g m c o) (hl : Few o 990) :
    Calls Tryd.prog 69 #[.pointer (some ⟨m, 0, none⟩), .string data] w fun e w' => (∃ v, e = .returned v) ∧ Make X w0 w' g m (leaveC c data) (leaveO c o data) := by
  have p0_ := h.p0
  have c2_ := h.c2
  have c4_ := h.c4
  have c6_ := h.c6
  have c7_ := h.c7
  have z2_ := h.free 2
  have z6_ := h.free 6
  have z7_ := h.free 7
  have hne := h.ne
  have hne2 := h.ne'
  have H := Lib.hid h
  have HL := Lib.hid hl
  clear h hl
  unfold leaveO
  by_cases h3 : c.state = 3
  · rw [if_pos h3]
    have hC : leaveC c data = toC c 1 := if_pos h3
    rw [hC]
    rw [h3] at c2_
    have HS := Lib.hid h3
    clear hC h3
    go_enter Tryd.func69, Tryd.ntmps69
    go_wp2_with fail
    refine (put_any X w0 _ g m c o ⟨7, c.peer, 0, false, data⟩ H.out (by have := HL.out.2; omega)).mono ?_; rintro e w3 ⟨⟨v3, rfl⟩, h3⟩
    have H3 := Lib.hid h3
    clear h3 p0_ c2_ c4_ c6_ c7_ z2_ z6_ z7_
    have p0_ := H3.out.p0
    have c2_ := H3.out.c2
    have z2_ := H3.out.free 2
    have HF := Lib.hid (H3.out.setC 2 (.int .i64 1) (toC c 1) rfl)
    go_wp2_with fail
    (try simp only [Exit.inBlock, Exit.then])
    first
      | refine bodyPost_end (results_none rfl _ _ _) rfl ?_
      | refine bodyPost_ret (results_none rfl _ _ _) rfl ?_
    exact ⟨⟨_, rfl⟩, HF.out⟩
  · have hC : leaveC c data = { c with state := 4, cc := 1, data := data } := if_neg h3
    rw [if_neg h3, hC]
    have e3 : (c.state == 3) = false := by simpa using h3
    clear hC h3
    go_enter Tryd.func69, Tryd.ntmps69
    go_wp2_with fail
    go_region_held3 (fun w' => w'.cell? ⟨m, 0, none⟩ = some (.pointer (some ⟨g, 0, none⟩)))
      (first | (with_reducible assumption) | exact p0_ | go_keep)
      (fail)
    have HF2 : Hid (Make X w0 (((w.setCell ⟨g, 2, none⟩ (.int .i64 4)).setCell ⟨g, 6, none⟩ (.int .i64 1)).setCell ⟨g, 7, none⟩ (.string data)).drew g m { c with state := 4, cc := 1, data := data } o) := Lib.hid ((((H.out.setC 2 (.int .i64 4) { c with state := 4 } rfl).setC 6 (.int .i64 1) { c with state := 4, cc := 1 } rfl).setC 7 (.string data) { c with state := 4, cc := 1, data := data } rfl).drewN 1)
    generalize (((w.setCell ⟨g, 2, none⟩ (.int .i64 4)).setCell ⟨g, 6, none⟩ (.int .i64 1)).setCell ⟨g, 7, none⟩ (.string data)).drew = W2 at *
    clear p0_ c2_ c4_ c6_ c7_ z2_ z6_ z7_
    go_wp2_with fail
    refine (ask_any X w0 _ g m _ o HF2.out HL.out).mono ?_; rintro e w3 ⟨⟨v3, rfl⟩, h3⟩
    have H3 := Lib.hid h3
    clear h3
    go_wp2_with fail
    (try simp only [Exit.inBlock, Exit.then])
    first
      | refine bodyPost_end (results_none rfl _ _ _) rfl ?_
      | refine bodyPost_ret (results_none rfl _ _ _) rfl ?_
    exact ⟨⟨_, rfl⟩, H3.out⟩
def giveC (c : C) : C := toC c 1
def giveO (c : C) (o : O) : O := if c.state = 4 then stopO (tellO (reportO o 79) ⟨4, noD, false, 0, 0⟩) else stopO (releasedO (endO c (reportO o 79)) true noD)
set_option maxRecDepth 100000 in
set_option maxHeartbeats 4000000 in
theorem giveUp_any (h : Make X w0 w g m c o) (hl : Few o 980) :
    Calls Tryd.prog 47 #[.pointer (some ⟨m, 0, none⟩)] w fun e w' => (∃ v, e = .returned v) ∧ Make X w0 w' g m (giveC c) (giveO c o) := by
  have H := Lib.hid h
  have HL := Lib.hid hl
  clear h hl
  have HL1 : Hid (Few (reportO o 79) 981) := Lib.hid (HL.out.tell _ (by decide))
  unfold giveO
  by_cases h4 : c.state = 4
  · rw [if_pos h4]
    have HS := Lib.hid h4
    clear h4
    go_enter Tryd.func47, Tryd.ntmps47
    go_wp2_with fail
    refine (report_any X w0 w g m c o 79 H.out (HL.out.more (by decide))).mono ?_; rintro e w1 ⟨⟨v1, rfl⟩, h1⟩
    have H1 := Lib.hid h1
    have p0_ := h1.p0
    have c2_ := h1.c2
    rw [HS.out] at c2_
    clear h1
    go_wp2_with fail
    clear p0_ c2_
    refine (left_any X w0 w1 g m c _ H1.out (HL1.out.more (by decide))).mono ?_; rintro e w2 ⟨⟨v2, rfl⟩, h2⟩
    have H2 := Lib.hid h2
    clear h2
    go_wp2_with fail
    (try simp only [Exit.inBlock, Exit.then])
    first
      | refine bodyPost_end (results_none rfl _ _ _) rfl ?_
      | refine bodyPost_ret (results_none rfl _ _ _) rfl ?_
    exact ⟨⟨_, rfl⟩, H2.out⟩
  · rw [if_neg h4]
    have e4 : (c.state == 4) = false := by simpa using h4
    clear h4
    go_enter Tryd.func47, Tryd.ntmps47
    go_wp2_with fail
    refine (report_any X w0 w g m c o 79 H.out (HL.out.more (by decide))).mono ?_; rintro e w1 ⟨⟨v1, rfl⟩, h1⟩
    have H1 := Lib.hid h1
    have p0_ := h1.p0
    have c2_ := h1.c2
    clear h1
    go_wp2_with fail
    clear p0_ c2_
    refine (end_any X w0 w1 g m c _ H1.out (HL1.out.more (by decide))).mono ?_; rintro e w2 ⟨⟨v2, rfl⟩, h2⟩
    have H2 := Lib.hid h2
    clear h2
    go_wp2_with fail
    refine (released_any X w0 w2 g m c _ true noD H2.out ((HL1.out.put _ (by decide : 981 + 1 ≤ 990)))).mono ?_; rintro e w3 ⟨⟨v3, rfl⟩, h3⟩
    have H3 := Lib.hid h3
    clear h3
    go_wp2_with fail
    refine (stop_any X w0 w3 g m c _ 1 H3.out).mono ?_; rintro e w4 ⟨⟨v4, rfl⟩, h4⟩
    have H4 := Lib.hid h4
    clear h4
    go_wp2_with fail
    (try simp only [Exit.inBlock, Exit.then])
    first
      | refine bodyPost_end (results_none rfl _ _ _) rfl ?_
      | refine bodyPost_ret (results_none rfl _ _ _) rfl ?_
    exact ⟨⟨_, rfl⟩, H4.out⟩
end
end Go.Proofs.YtkphompjahcjiaaDoor.Conn
