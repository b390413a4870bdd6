/-
  A connection: a call, from its beginning to what it brings.
-/
import Derived.Test.YtkphompjahcjiaaDoorConn14
namespace Go.Proofs.YtkphompjahcjiaaDoor.Conn
open Go.RowKit

def o0 : O := ⟨[], [], false, false, 0, 0⟩
def bringC (c : C) : C := if asksK c.state = 0 then { c with data := noD } else c
def endsB (was : Int) (c : C) (o : O) : Bool := decide (was = 10) && (decide (c.state ≠ 10) || o.begins)
/-- what a call has brought: c is the connection now -/
def Brought (w w' : World) (g : Nat) (c : C) (o : O) (v : Value) : Prop :=
  ∃ vs vu, v = .agg #[vs, vu, .bool o.begins, .bool o.ends, .int .u32 o.ms, .int .i64 o.timer] ∧ OwnS w' w.heap.size vs o.sigs ∧ OwnU w' w.heap.size vu o.units ∧ Apart vs vu ∧
    w'.heap[g]? = some (.cells (encC c) 81 (0, 0)) ∧ Only (fun k => k < w.heap.size) w w' g
theorem row_setRow {w : World} {base size n g : Nat} {v : Value} {e : TypeId} {xs : List Value} {cs : Array Value} (h : w.ownsRow base e size v n xs) (hg : g < base) : (w.setRow g cs).ownsRow base e size v n xs := by
  refine ⟨h.1, ?_⟩
  rcases h.2 with h0 | ⟨k, cap, cur, rfl, hk, hh, rest⟩
  · exact .inl h0
  · exact .inr ⟨k, cap, cur, rfl, hk, (setRow_other w g k cs (by omega)).trans hh, rest⟩
theorem res_info : (Tryd.prog.info? 61).map (·.size) = some 6 := by kernel_rfl
theorem make_start (w : World) (g : Nat) (c : C) (b : Obj) (hg : w.heap[g]? = some (.cells (encC c) 81 (0, 0))) :
    Make (fun k => k < w.heap.size + 1) ((w.alloc b).alloc (.cells #[.pointer (some ⟨g, 0, none⟩), .slice none 0 0, .slice none 0 0, .bool false, .bool false, .int .u32 0, .int .i64 0] 100)) ((w.alloc b).alloc (.cells #[.pointer (some ⟨g, 0, none⟩), .slice none 0 0, .slice none 0 0, .bool false, .bool false, .int .u32 0, .int .i64 0] 100)) g (w.heap.size + 1) c o0 := by
  have hlt : g < w.heap.size := (Array.getElem?_eq_some_iff.1 hg).1
  have hb : Below w.heap.size w ((w.alloc b).alloc (.cells #[.pointer (some ⟨g, 0, none⟩), .slice none 0 0, .slice none 0 0, .bool false, .bool false, .int .u32 0, .int .i64 0] 100)) := ((Below.refl _ _).alloc (Nat.le_refl _) _).alloc (by simp) _
  exact ⟨(hb.block g hlt).trans hg, ⟨_, _, heap_alloc2_new w _ _, World.ownsRow_nil _ _ _ _, World.ownsRow_nil _ _ _ _, .inl rfl, (fun k hk => by simp [Value.ownBlock] at hk), (fun k hk => by simp [Value.ownBlock] at hk)⟩, .refl _ _ _, fun k hk => by simp; omega, by show g < _; omega, fun h => by have h : w.heap.size + 1 < w.heap.size + 1 := h; omega, by simp [o0], by simp [o0]⟩
set_option maxRecDepth 100000 in
set_option maxHeartbeats 8000000 in
theorem bring_silent (w : World) (g : Nat) (c : C) (hg : w.heap[g]? = some (.cells (encC c) 81 (0, 0)))  :
    Calls Tryd.prog 37 #[.pointer (some ⟨g, 0, none⟩), .func (.func 51) #[] #[]] w fun e w' => ∃ v, e = .returned v ∧ Brought w w' g (bringC (silentC c)) { (silentO c o0) with ends := endsB c.state (silentC c) (silentO c o0) } v := by
  have hlt : g < w.heap.size := (Array.getElem?_eq_some_iff.1 hg).1
  obtain ⟨W, hW⟩ : ∃ W, W = ((w.alloc (.cells #[.slice none 0 0, .slice none 0 0, .bool false, .bool false, .int .u32 0, .int .i64 0] 61)).alloc (.cells #[.pointer (some ⟨g, 0, none⟩), .slice none 0 0, .slice none 0 0, .bool false, .bool false, .int .u32 0, .int .i64 0] 100)) := ⟨_, rfl⟩
  have HB : Hid (Below w.heap.size w W) := Lib.hid (by rw [hW]; exact ((Below.refl _ _).alloc (Nat.le_refl _) _).alloc (by simp) _)
  have HM : Hid (Make (fun k => k < w.heap.size + 1) W W g (w.heap.size + 1) c o0) := Lib.hid (by rw [hW]; exact make_start w g c _ hg)
  have HR : Hid (W.heap[w.heap.size]? = some (.cells #[.slice none 0 0, .slice none 0 0, .bool false, .bool false, .int .u32 0, .int .i64 0] 61 (0, 0))) := Lib.hid (by rw [hW]; exact heap_alloc2_old w _ _)
  have HLT := Lib.hid hlt
  have HSZ : Hid (W.heap.size = w.heap.size + 2) := Lib.hid (by rw [hW]; simp)
  have hF : Few o0 900 := ⟨by simp [o0], by simp [o0]⟩
  have HF := Lib.hid hF
  obtain ⟨C1, hC1⟩ : ∃ C1, C1 = silentC c := ⟨_, rfl⟩
  obtain ⟨O1, hO1⟩ : ∃ O1, O1 = silentO c o0 := ⟨_, rfl⟩
  have HD : Hid (Calls Tryd.prog 51 #[.pointer (some ⟨w.heap.size + 1, 0, none⟩)] W fun e w' => (∃ v, e = .returned v) ∧ Make (fun k => k < w.heap.size + 1) W w' g (w.heap.size + 1) C1 O1) := Lib.hid (by rw [hC1, hO1]; exact silent1_any _ _ _ _ _ _ _ HM.out HF.out)
  rw [← hC1, ← hO1]
  have cc : w.cell? ⟨g, 2, none⟩ = some (.int .i64 c.state) := (cell_of_row _ _ _ _ _ _ hg).trans rfl
  have cc2 : (w.alloc (.cells #[.slice none 0 0, .slice none 0 0, .bool false, .bool false, .int .u32 0, .int .i64 0] 61)).cell? ⟨g, 2, none⟩ = some (.int .i64 c.state) := (Own.cell_below ((Below.refl _ _).alloc (Nat.le_refl _) _) hlt).trans cc
  clear hC1 hO1 hlt hF
  go_enter Tryd.func37, Tryd.ntmps37
  go_wp2_with fail
  rw [← hW]
  clear hW cc cc2
  obtain ⟨m, hm⟩ : ∃ m, w.heap.size + 1 = m := ⟨_, rfl⟩
  rw [hm] at HM HD ⊢
  have HMQ := Lib.hid hm
  clear hm
  refine HD.out.mono ?_; rintro e w1 ⟨⟨v1, rfl⟩, h1⟩
  have H1 := Lib.hid h1
  have p0_ := h1.p0
  have p3_ := h1.p3
  have c2_ := h1.c2
  have p4_ := h1.p4
  have y4_ := h1.mfree 4
  have hgm := h1.gm
  have hgm2 := h1.gm.symm
  clear h1 HD
  obtain ⟨s1, hs1⟩ : ∃ s, C1.state = s := ⟨_, rfl⟩
  obtain ⟨b1, hb1⟩ : ∃ b, O1.begins = b := ⟨_, rfl⟩
  obtain ⟨s0, hs0⟩ : ∃ s, c.state = s := ⟨_, rfl⟩
  rw [hs1] at c2_
  rw [hb1] at p3_
  rw [hs0]
  have HS0 := Lib.hid hs0
  have HS1 := Lib.hid hs1
  have HB1 := Lib.hid hb1
  clear hs0 hs1 hb1 hg
  go_upto_region 4 with (fail)
  go_cut [5] (fun s5 wx => s5 = .int .i64 s0 ∧ wx = w1.setCell ⟨m, 4, none⟩ (.bool (endsB c.state C1 O1)))
  case first =>
    have hE : endsB c.state C1 O1 = (decide (s0 = 10) && (decide (s1 ≠ 10) || b1)) := by unfold endsB; rw [HS0.out, HS1.out, HB1.out]
    by_cases a0 : s0 = 10
    · have e0 : (s0 == 10) = true := by simp [a0]
      by_cases a1 : s1 = 10
      · have e1 : (s1 != 10) = false := by simp [a1]
        have hd : (decide (s0 = 10) && (decide (s1 ≠ 10) || b1)) = b1 := by simp [a0, a1]
        have HEE := Lib.hid (hE.trans hd)
        clear hE hd a0 a1
        go_wp2_with fail
        go_meet
        exact ⟨rfl, by rw [HEE.out]⟩
      · have e1 : (s1 != 10) = true := by simpa using a1
        have hd : (decide (s0 = 10) && (decide (s1 ≠ 10) || b1)) = true := by simp [a0, a1]
        have HEE := Lib.hid (hE.trans hd)
        clear hE hd a0 a1
        go_wp2_with fail
        go_meet
        exact ⟨rfl, by rw [HEE.out]⟩
    · have e0 : (s0 == 10) = false := by simpa using a0
      have hd : (decide (s0 = 10) && (decide (s1 ≠ 10) || b1)) = false := by simp [a0]
      have HEE := Lib.hid (hE.trans hd)
      clear hE hd a0
      go_wp2_with fail
      go_meet
      exact ⟨rfl, by rw [HEE.out]⟩
  case rest =>
  obtain ⟨rfl, hwc⟩ := hcut
  have H2 : Hid (Make (fun k => k < m) W wc g m C1 { O1 with ends := endsB c.state C1 O1 }) := Lib.hid (by rw [hwc]; exact H1.out.setO 4 (.bool (endsB c.state C1 O1)) { O1 with ends := endsB c.state C1 O1 } rfl rfl (fun _ _ => rfl))
  clear hwc p0_ p3_ c2_ p4_ y4_ H1
  obtain ⟨O2, hO2⟩ : ∃ O2, O2 = ({ O1 with ends := endsB c.state C1 O1 } : O) := ⟨_, rfl⟩
  rw [← hO2] at H2
  have HO2 := Lib.hid hO2
  clear hO2
  have p0_ := H2.out.p0
  have c2_ := H2.out.c2
  go_wp2_with fail
  refine (asks_any _ _).mono ?_; rintro e w2 ⟨rfl, rfl⟩
  clear p0_ c2_
  by_cases az : asksK C1.state = 0
  · have HBC : Hid (bringC C1 = { C1 with data := noD }) := Lib.hid (if_pos az)
    have ea : (asksK C1.state == 0) = true := by simp [az]
    clear az
    have c7_ := H2.out.c7
    have z7_ := H2.out.free 7
    have p0_ := H2.out.p0
    have H7 : Hid (Make (fun k => k < m) W (w2.setCell ⟨g, 7, none⟩ (.string ⟨#[]⟩)) g m { C1 with data := noD } O2) := Lib.hid (H2.out.setC 7 (.string ⟨#[]⟩) { C1 with data := noD } rfl)
    obtain ⟨vs, vu, hmb, hs, hu, ha, _, _⟩ := H7.out.rest
    obtain ⟨av, cv, rfl, _⟩ := Own.own_form hs
    obtain ⟨au, cu, rfl, _⟩ := Own.own_form hu
    have q1 := (cell_of_row _ _ 1 _ _ _ hmb).trans rfl
    have q2 := (cell_of_row _ _ 2 _ _ _ hmb).trans rfl
    have q3 := (cell_of_row _ _ 3 _ _ _ hmb).trans rfl
    have q4 := (cell_of_row _ _ 4 _ _ _ hmb).trans rfl
    have q5 := (cell_of_row _ _ 5 _ _ _ hmb).trans rfl
    have q6 := (cell_of_row _ _ 6 _ _ _ hmb).trans rfl
    have hz := (H7.out.only.block w.heap.size (by have := HMQ.out; omega) (by have := HLT.out; omega)).trans HR.out
    have HS := Lib.hid hs
    have HU := Lib.hid hu
    have HA := Lib.hid ha
    clear hmb hs hu ha
    go_wp2_with (refine wpList_store_row rfl 61 _ _ rfl w.heap.size #[.slice av O2.sigs.length cv, .slice au O2.units.length cu, .bool O2.begins, .bool O2.ends, .int .u32 O2.ms, .int .i64 O2.timer] rfl rfl 61 _ hz res_info rfl (by simp [Value.oneCell']) ?_)
    refine bodyPost_ret (results_cell_row rfl _ _ w.heap.size 61 #[.slice av O2.sigs.length cv, .slice au O2.units.length cu, .bool O2.begins, .bool O2.ends, .int .u32 O2.ms, .int .i64 O2.timer] (0, 0) _ rfl (setRow_heap _ _ _ _ 61 (0, 0) hz) Tryd.underlying61 rfl res_info) rfl ?_
    rw [HBC.out, ← HO2.out]
    have hml : w.heap.size < m := by have := HMQ.out; omega
    refine ⟨_, rfl, _, _, rfl, Own.own_base (row_setRow HS.out (by omega)) (by omega), Own.own_base (row_setRow HU.out (by omega)) (by omega), HA.out, (setRow_other _ _ _ _ (by have := HLT.out; omega)).trans H7.out.conn, ?_⟩
    have ho := H7.out.only
    exact ⟨ho.os.trans HB.out.os, ho.tape.trans HB.out.tape, ho.output.trans HB.out.output, Nat.le_trans HB.out.size (by simpa [World.setRow] using ho.size), fun k hk hkg => (setRow_other _ _ _ _ (by omega)).trans ((ho.block k (by omega) hkg).trans (HB.out.block k hk))⟩
  · have HBC : Hid (bringC C1 = C1) := Lib.hid (if_neg az)
    have ea : (asksK C1.state == 0) = false := by simpa using az
    clear az
    obtain ⟨vs, vu, hmb, hs, hu, ha, _, _⟩ := H2.out.rest
    obtain ⟨av, cv, rfl, _⟩ := Own.own_form hs
    obtain ⟨au, cu, rfl, _⟩ := Own.own_form hu
    have q1 := (cell_of_row _ _ 1 _ _ _ hmb).trans rfl
    have q2 := (cell_of_row _ _ 2 _ _ _ hmb).trans rfl
    have q3 := (cell_of_row _ _ 3 _ _ _ hmb).trans rfl
    have q4 := (cell_of_row _ _ 4 _ _ _ hmb).trans rfl
    have q5 := (cell_of_row _ _ 5 _ _ _ hmb).trans rfl
    have q6 := (cell_of_row _ _ 6 _ _ _ hmb).trans rfl
    have hz := (H2.out.only.block w.heap.size (by have := HMQ.out; omega) (by have := HLT.out; omega)).trans HR.out
    have HS := Lib.hid hs
    have HU := Lib.hid hu
    have HA := Lib.hid ha
    clear hmb hs hu ha
    go_wp2_with (refine wpList_store_row rfl 61 _ _ rfl w.heap.size #[.slice av O2.sigs.length cv, .slice au O2.units.length cu, .bool O2.begins, .bool O2.ends, .int .u32 O2.ms, .int .i64 O2.timer] rfl rfl 61 _ hz res_info rfl (by simp [Value.oneCell']) ?_)
    refine bodyPost_ret (results_cell_row rfl _ _ w.heap.size 61 #[.slice av O2.sigs.length cv, .slice au O2.units.length cu, .bool O2.begins, .bool O2.ends, .int .u32 O2.ms, .int .i64 O2.timer] (0, 0) _ rfl (setRow_heap _ _ _ _ 61 (0, 0) hz) Tryd.underlying61 rfl res_info) rfl ?_
    rw [HBC.out, ← HO2.out]
    have hml : w.heap.size < m := by have := HMQ.out; omega
    refine ⟨_, rfl, _, _, rfl, Own.own_base (row_setRow HS.out (by omega)) (by omega), Own.own_base (row_setRow HU.out (by omega)) (by omega), HA.out, (setRow_other _ _ _ _ (by have := HLT.out; omega)).trans H2.out.conn, ?_⟩
    have ho := H2.out.only
    exact ⟨ho.os.trans HB.out.os, ho.tape.trans HB.out.tape, ho.output.trans HB.out.output, Nat.le_trans HB.out.size (by simpa [World.setRow] using ho.size), fun k hk hkg => (setRow_other _ _ _ _ (by omega)).trans ((ho.block k (by omega) hkg).trans (HB.out.block k hk))⟩
set_option maxRecDepth 100000 in
set_option maxHeartbeats 8000000 in
theorem bring_expire (w : World) (g : Nat) (c : C) (hg : w.heap[g]? = some (.cells (encC c) 81 (0, 0))) (hcc : 0 ≤ c.cc ∧ c.cc ≤ 1000) :
    Calls Tryd.prog 37 #[.pointer (some ⟨g, 0, none⟩), .func (.func 45) #[] #[]] w fun e w' => ∃ v, e = .returned v ∧ Brought w w' g (bringC (expC c)) { (expO c o0) with ends := endsB c.state (expC c) (expO c o0) } v := by
  have hlt : g < w.heap.size := (Array.getElem?_eq_some_iff.1 hg).1
  obtain ⟨W, hW⟩ : ∃ W, W = ((w.alloc (.cells #[.slice none 0 0, .slice none 0 0, .bool false, .bool false, .int .u32 0, .int .i64 0] 61)).alloc (.cells #[.pointer (some ⟨g, 0, none⟩), .slice none 0 0, .slice none 0 0, .bool false, .bool false, .int .u32 0, .int .i64 0] 100)) := ⟨_, rfl⟩
  have HB : Hid (Below w.heap.size w W) := Lib.hid (by rw [hW]; exact ((Below.refl _ _).alloc (Nat.le_refl _) _).alloc (by simp) _)
  have HM : Hid (Make (fun k => k < w.heap.size + 1) W W g (w.heap.size + 1) c o0) := Lib.hid (by rw [hW]; exact make_start w g c _ hg)
  have HR : Hid (W.heap[w.heap.size]? = some (.cells #[.slice none 0 0, .slice none 0 0, .bool false, .bool false, .int .u32 0, .int .i64 0] 61 (0, 0))) := Lib.hid (by rw [hW]; exact heap_alloc2_old w _ _)
  have HLT := Lib.hid hlt
  have HSZ : Hid (W.heap.size = w.heap.size + 2) := Lib.hid (by rw [hW]; simp)
  have hF : Few o0 900 := ⟨by simp [o0], by simp [o0]⟩
  have HF := Lib.hid hF
  obtain ⟨C1, hC1⟩ : ∃ C1, C1 = expC c := ⟨_, rfl⟩
  obtain ⟨O1, hO1⟩ : ∃ O1, O1 = expO c o0 := ⟨_, rfl⟩
  have HD : Hid (Calls Tryd.prog 45 #[.pointer (some ⟨w.heap.size + 1, 0, none⟩)] W fun e w' => (∃ v, e = .returned v) ∧ Make (fun k => k < w.heap.size + 1) W w' g (w.heap.size + 1) C1 O1) := Lib.hid (by rw [hC1, hO1]; exact expire1_any _ _ _ _ _ _ _ hcc HM.out HF.out)
  rw [← hC1, ← hO1]
  have cc : w.cell? ⟨g, 2, none⟩ = some (.int .i64 c.state) := (cell_of_row _ _ _ _ _ _ hg).trans rfl
  have cc2 : (w.alloc (.cells #[.slice none 0 0, .slice none 0 0, .bool false, .bool false, .int .u32 0, .int .i64 0] 61)).cell? ⟨g, 2, none⟩ = some (.int .i64 c.state) := (Own.cell_below ((Below.refl _ _).alloc (Nat.le_refl _) _) hlt).trans cc
  clear hC1 hO1 hlt hF hcc
  go_enter Tryd.func37, Tryd.ntmps37
  go_wp2_with fail
  rw [← hW]
  clear hW cc cc2
  obtain ⟨m, hm⟩ : ∃ m, w.heap.size + 1 = m := ⟨_, rfl⟩
  rw [hm] at HM HD ⊢
  have HMQ := Lib.hid hm
  clear hm
  refine HD.out.mono ?_; rintro e w1 ⟨⟨v1, rfl⟩, h1⟩
  have H1 := Lib.hid h1
  have p0_ := h1.p0
  have p3_ := h1.p3
  have c2_ := h1.c2
  have p4_ := h1.p4
  have y4_ := h1.mfree 4
  have hgm := h1.gm
  have hgm2 := h1.gm.symm
  clear h1 HD
  obtain ⟨s1, hs1⟩ : ∃ s, C1.state = s := ⟨_, rfl⟩
  obtain ⟨b1, hb1⟩ : ∃ b, O1.begins = b := ⟨_, rfl⟩
  obtain ⟨s0, hs0⟩ : ∃ s, c.state = s := ⟨_, rfl⟩
  rw [hs1] at c2_
  rw [hb1] at p3_
  rw [hs0]
  have HS0 := Lib.hid hs0
  have HS1 := Lib.hid hs1
  have HB1 := Lib.hid hb1
  clear hs0 hs1 hb1 hg
  go_upto_region 4 with (fail)
  go_cut [5] (fun s5 wx => s5 = .int .i64 s0 ∧ wx = w1.setCell ⟨m, 4, none⟩ (.bool (endsB c.state C1 O1)))
  case first =>
    have hE : endsB c.state C1 O1 = (decide (s0 = 10) && (decide (s1 ≠ 10) || b1)) := by unfold endsB; rw [HS0.out, HS1.out, HB1.out]
    by_cases a0 : s0 = 10
    · have e0 : (s0 == 10) = true := by simp [a0]
      by_cases a1 : s1 = 10
      · have e1 : (s1 != 10) = false := by simp [a1]
        have hd : (decide (s0 = 10) && (decide (s1 ≠ 10) || b1)) = b1 := by simp [a0, a1]
        have HEE := Lib.hid (hE.trans hd)
        clear hE hd a0 a1
        go_wp2_with fail
        go_meet
        exact ⟨rfl, by rw [HEE.out]⟩
      · have e1 : (s1 != 10) = true := by simpa using a1
        have hd : (decide (s0 = 10) && (decide (s1 ≠ 10) || b1)) = true := by simp [a0, a1]
        have HEE := Lib.hid (hE.trans hd)
        clear hE hd a0 a1
        go_wp2_with fail
        go_meet
        exact ⟨rfl, by rw [HEE.out]⟩
    · have e0 : (s0 == 10) = false := by simpa using a0
      have hd : (decide (s0 = 10) && (decide (s1 ≠ 10) || b1)) = false := by simp [a0]
      have HEE := Lib.hid (hE.trans hd)
      clear hE hd a0
      go_wp2_with fail
      go_meet
      exact ⟨rfl, by rw [HEE.out]⟩
  case rest =>
  obtain ⟨rfl, hwc⟩ := hcut
  have H2 : Hid (Make (fun k => k < m) W wc g m C1 { O1 with ends := endsB c.state C1 O1 }) := Lib.hid (by rw [hwc]; exact H1.out.setO 4 (.bool (endsB c.state C1 O1)) { O1 with ends := endsB c.state C1 O1 } rfl rfl (fun _ _ => rfl))
  clear hwc p0_ p3_ c2_ p4_ y4_ H1
  obtain ⟨O2, hO2⟩ : ∃ O2, O2 = ({ O1 with ends := endsB c.state C1 O1 } : O) := ⟨_, rfl⟩
  rw [← hO2] at H2
  have HO2 := Lib.hid hO2
  clear hO2
  have p0_ := H2.out.p0
  have c2_ := H2.out.c2
  go_wp2_with fail
  refine (asks_any _ _).mono ?_; rintro e w2 ⟨rfl, rfl⟩
  clear p0_ c2_
  by_cases az : asksK C1.state = 0
  · have HBC : Hid (bringC C1 = { C1 with data := noD }) := Lib.hid (if_pos az)
    have ea : (asksK C1.state == 0) = true := by simp [az]
    clear az
    have c7_ := H2.out.c7
    have z7_ := H2.out.free 7
    have p0_ := H2.out.p0
    have H7 : Hid (Make (fun k => k < m) W (w2.setCell ⟨g, 7, none⟩ (.string ⟨#[]⟩)) g m { C1 with data := noD } O2) := Lib.hid (H2.out.setC 7 (.string ⟨#[]⟩) { C1 with data := noD } rfl)
    obtain ⟨vs, vu, hmb, hs, hu, ha, _, _⟩ := H7.out.rest
    obtain ⟨av, cv, rfl, _⟩ := Own.own_form hs
    obtain ⟨au, cu, rfl, _⟩ := Own.own_form hu
    have q1 := (cell_of_row _ _ 1 _ _ _ hmb).trans rfl
    have q2 := (cell_of_row _ _ 2 _ _ _ hmb).trans rfl
    have q3 := (cell_of_row _ _ 3 _ _ _ hmb).trans rfl
    have q4 := (cell_of_row _ _ 4 _ _ _ hmb).trans rfl
    have q5 := (cell_of_row _ _ 5 _ _ _ hmb).trans rfl
    have q6 := (cell_of_row _ _ 6 _ _ _ hmb).trans rfl
    have hz := (H7.out.only.block w.heap.size (by have := HMQ.out; omega) (by have := HLT.out; omega)).trans HR.out
    have HS := Lib.hid hs
    have HU := Lib.hid hu
    have HA := Lib.hid ha
    clear hmb hs hu ha
    go_wp2_with (refine wpList_store_row rfl 61 _ _ rfl w.heap.size #[.slice av O2.sigs.length cv, .slice au O2.units.length cu, .bool O2.begins, .bool O2.ends, .int .u32 O2.ms, .int .i64 O2.timer] rfl rfl 61 _ hz res_info rfl (by simp [Value.oneCell']) ?_)
    refine bodyPost_ret (results_cell_row rfl _ _ w.heap.size 61 #[.slice av O2.sigs.length cv, .slice au O2.units.length cu, .bool O2.begins, .bool O2.ends, .int .u32 O2.ms, .int .i64 O2.timer] (0, 0) _ rfl (setRow_heap _ _ _ _ 61 (0, 0) hz) Tryd.underlying61 rfl res_info) rfl ?_
    rw [HBC.out, ← HO2.out]
    have hml : w.heap.size < m := by have := HMQ.out; omega
    refine ⟨_, rfl, _, _, rfl, Own.own_base (row_setRow HS.out (by omega)) (by omega), Own.own_base (row_setRow HU.out (by omega)) (by omega), HA.out, (setRow_other _ _ _ _ (by have := HLT.out; omega)).trans H7.out.conn, ?_⟩
    have ho := H7.out.only
    exact ⟨ho.os.trans HB.out.os, ho.tape.trans HB.out.tape, ho.output.trans HB.out.output, Nat.le_trans HB.out.size (by simpa [World.setRow] using ho.size), fun k hk hkg => (setRow_other _ _ _ _ (by omega)).trans ((ho.block k (by omega) hkg).trans (HB.out.block k hk))⟩
  · have HBC : Hid (bringC C1 = C1) := Lib.hid (if_neg az)
    have ea : (asksK C1.state == 0) = false := by simpa using az
    clear az
    obtain ⟨vs, vu, hmb, hs, hu, ha, _, _⟩ := H2.out.rest
    obtain ⟨av, cv, rfl, _⟩ := Own.own_form hs
    obtain ⟨au, cu, rfl, _⟩ := Own.own_form hu
    have q1 := (cell_of_row _ _ 1 _ _ _ hmb).trans rfl
    have q2 := (cell_of_row _ _ 2 _ _ _ hmb).trans rfl
    have q3 := (cell_of_row _ _ 3 _ _ _ hmb).trans rfl
    have q4 := (cell_of_row _ _ 4 _ _ _ hmb).trans rfl
    have q5 := (cell_of_row _ _ 5 _ _ _ hmb).trans rfl
    have q6 := (cell_of_row _ _ 6 _ _ _ hmb).trans rfl
    have hz := (H2.out.only.block w.heap.size (by have := HMQ.out; omega) (by have := HLT.out; omega)).trans HR.out
    have HS := Lib.hid hs
    have HU := Lib.hid hu
    have HA := Lib.hid ha
    clear hmb hs hu ha
    go_wp2_with (refine wpList_store_row rfl 61 _ _ rfl w.heap.size #[.slice av O2.sigs.length cv, .slice au O2.units.length cu, .bool O2.begins, .bool O2.ends, .int .u32 O2.ms, .int .i64 O2.timer] rfl rfl 61 _ hz res_info rfl (by simp [Value.oneCell']) ?_)
    refine bodyPost_ret (results_cell_row rfl _ _ w.heap.size 61 #[.slice av O2.sigs.length cv, .slice au O2.units.length cu, .bool O2.begins, .bool O2.ends, .int .u32 O2.ms, .int .i64 O2.timer] (0, 0) _ rfl (setRow_heap _ _ _ _ 61 (0, 0) hz) Tryd.underlying61 rfl res_info) rfl ?_
    rw [HBC.out, ← HO2.out]
    have hml : w.heap.size < m := by have := HMQ.out; omega
    refine ⟨_, rfl, _, _, rfl, Own.own_base (row_setRow HS.out (by omega)) (by omega), Own.own_base (row_setRow HU.out (by omega)) (by omega), HA.out, (setRow_other _ _ _ _ (by have := HLT.out; omega)).trans H2.out.conn, ?_⟩
    have ho := H2.out.only
    exact ⟨ho.os.trans HB.out.os, ho.tape.trans HB.out.tape, ho.output.trans HB.out.output, Nat.le_trans HB.out.size (by simpa [World.setRow] using ho.size), fun k hk hkg => (setRow_other _ _ _ _ (by omega)).trans ((ho.block k (by omega) hkg).trans (HB.out.block k hk))⟩
set_option maxRecDepth 100000 in
set_option maxHeartbeats 8000000 in
theorem bring_fail (w : World) (g : Nat) (c : C) (qb : Nat) (code : Int) (hg : w.heap[g]? = some (.cells (encC c) 81 (0, 0))) (hk : w.cell? ⟨qb, 0, none⟩ = some (.int .u8 code)) (hkl : qb < w.heap.size) (hq : 0 ≤ c.sq ∧ c.sq ≤ 255) :
    Calls Tryd.prog 37 #[.pointer (some ⟨g, 0, none⟩), .func (.func 38) #[] #[.pointer (some ⟨qb, 0, none⟩)]] w fun e w' => ∃ v, e = .returned v ∧ Brought w w' g (bringC (failC c)) { (failO c o0 code) with ends := endsB c.state (failC c) (failO c o0 code) } v := by
  have hlt : g < w.heap.size := (Array.getElem?_eq_some_iff.1 hg).1
  obtain ⟨W, hW⟩ : ∃ W, W = ((w.alloc (.cells #[.slice none 0 0, .slice none 0 0, .bool false, .bool false, .int .u32 0, .int .i64 0] 61)).alloc (.cells #[.pointer (some ⟨g, 0, none⟩), .slice none 0 0, .slice none 0 0, .bool false, .bool false, .int .u32 0, .int .i64 0] 100)) := ⟨_, rfl⟩
  have HB : Hid (Below w.heap.size w W) := Lib.hid (by rw [hW]; exact ((Below.refl _ _).alloc (Nat.le_refl _) _).alloc (by simp) _)
  have HM : Hid (Make (fun k => k < w.heap.size + 1) W W g (w.heap.size + 1) c o0) := Lib.hid (by rw [hW]; exact make_start w g c _ hg)
  have HR : Hid (W.heap[w.heap.size]? = some (.cells #[.slice none 0 0, .slice none 0 0, .bool false, .bool false, .int .u32 0, .int .i64 0] 61 (0, 0))) := Lib.hid (by rw [hW]; exact heap_alloc2_old w _ _)
  have HLT := Lib.hid hlt
  have HSZ : Hid (W.heap.size = w.heap.size + 2) := Lib.hid (by rw [hW]; simp)
  have hF : Few o0 900 := ⟨by simp [o0], by simp [o0]⟩
  have HF := Lib.hid hF
  obtain ⟨C1, hC1⟩ : ∃ C1, C1 = failC c := ⟨_, rfl⟩
  obtain ⟨O1, hO1⟩ : ∃ O1, O1 = failO c o0 code := ⟨_, rfl⟩
  have hkW := (Own.cell_below HB.out hkl).trans hk
  have HD : Hid (Calls Tryd.prog 38 #[.pointer (some ⟨w.heap.size + 1, 0, none⟩), .pointer (some ⟨qb, 0, none⟩)] W fun e w' => (∃ v, e = .returned v) ∧ Make (fun k => k < w.heap.size + 1) W w' g (w.heap.size + 1) C1 O1) := Lib.hid (by rw [hC1, hO1]; exact fail1_any _ _ _ _ _ _ _ qb code hkW hq HM.out HF.out)
  rw [← hC1, ← hO1]
  have cc : w.cell? ⟨g, 2, none⟩ = some (.int .i64 c.state) := (cell_of_row _ _ _ _ _ _ hg).trans rfl
  have cc2 : (w.alloc (.cells #[.slice none 0 0, .slice none 0 0, .bool false, .bool false, .int .u32 0, .int .i64 0] 61)).cell? ⟨g, 2, none⟩ = some (.int .i64 c.state) := (Own.cell_below ((Below.refl _ _).alloc (Nat.le_refl _) _) hlt).trans cc
  clear hC1 hO1 hlt hF hk hkl hq hkW
  go_enter Tryd.func37, Tryd.ntmps37
  go_wp2_with fail
  rw [← hW]
  clear hW cc cc2
  obtain ⟨m, hm⟩ : ∃ m, w.heap.size + 1 = m := ⟨_, rfl⟩
  rw [hm] at HM HD ⊢
  have HMQ := Lib.hid hm
  clear hm
  refine HD.out.mono ?_; rintro e w1 ⟨⟨v1, rfl⟩, h1⟩
  have H1 := Lib.hid h1
  have p0_ := h1.p0
  have p3_ := h1.p3
  have c2_ := h1.c2
  have p4_ := h1.p4
  have y4_ := h1.mfree 4
  have hgm := h1.gm
  have hgm2 := h1.gm.symm
  clear h1 HD
  obtain ⟨s1, hs1⟩ : ∃ s, C1.state = s := ⟨_, rfl⟩
  obtain ⟨b1, hb1⟩ : ∃ b, O1.begins = b := ⟨_, rfl⟩
  obtain ⟨s0, hs0⟩ : ∃ s, c.state = s := ⟨_, rfl⟩
  rw [hs1] at c2_
  rw [hb1] at p3_
  rw [hs0]
  have HS0 := Lib.hid hs0
  have HS1 := Lib.hid hs1
  have HB1 := Lib.hid hb1
  clear hs0 hs1 hb1 hg
  go_upto_region 4 with (fail)
  go_cut [5] (fun s5 wx => s5 = .int .i64 s0 ∧ wx = w1.setCell ⟨m, 4, none⟩ (.bool (endsB c.state C1 O1)))
  case first =>
    have hE : endsB c.state C1 O1 = (decide (s0 = 10) && (decide (s1 ≠ 10) || b1)) := by unfold endsB; rw [HS0.out, HS1.out, HB1.out]
    by_cases a0 : s0 = 10
    · have e0 : (s0 == 10) = true := by simp [a0]
      by_cases a1 : s1 = 10
      · have e1 : (s1 != 10) = false := by simp [a1]
        have hd : (decide (s0 = 10) && (decide (s1 ≠ 10) || b1)) = b1 := by simp [a0, a1]
        have HEE := Lib.hid (hE.trans hd)
        clear hE hd a0 a1
        go_wp2_with fail
        go_meet
        exact ⟨rfl, by rw [HEE.out]⟩
      · have e1 : (s1 != 10) = true := by simpa using a1
        have hd : (decide (s0 = 10) && (decide (s1 ≠ 10) || b1)) = true := by simp [a0, a1]
        have HEE := Lib.hid (hE.trans hd)
        clear hE hd a0 a1
        go_wp2_with fail
        go_meet
        exact ⟨rfl, by rw [HEE.out]⟩
    · have e0 : (s0 == 10) = false := by simpa using a0
      have hd : (decide (s0 = 10) && (decide (s1 ≠ 10) || b1)) = false := by simp [a0]
      have HEE := Lib.hid (hE.trans hd)
      clear hE hd a0
      go_wp2_with fail
      go_meet
      exact ⟨rfl, by rw [HEE.out]⟩
  case rest =>
  obtain ⟨rfl, hwc⟩ := hcut
  have H2 : Hid (Make (fun k => k < m) W wc g m C1 { O1 with ends := endsB c.state C1 O1 }) := Lib.hid (by rw [hwc]; exact H1.out.setO 4 (.bool (endsB c.state C1 O1)) { O1 with ends := endsB c.state C1 O1 } rfl rfl (fun _ _ => rfl))
  clear hwc p0_ p3_ c2_ p4_ y4_ H1
  obtain ⟨O2, hO2⟩ : ∃ O2, O2 = ({ O1 with ends := endsB c.state C1 O1 } : O) := ⟨_, rfl⟩
  rw [← hO2] at H2
  have HO2 := Lib.hid hO2
  clear hO2
  have p0_ := H2.out.p0
  have c2_ := H2.out.c2
  go_wp2_with fail
  refine (asks_any _ _).mono ?_; rintro e w2 ⟨rfl, rfl⟩
  clear p0_ c2_
  by_cases az : asksK C1.state = 0
  · have HBC : Hid (bringC C1 = { C1 with data := noD }) := Lib.hid (if_pos az)
    have ea : (asksK C1.state == 0) = true := by simp [az]
    clear az
    have c7_ := H2.out.c7
    have z7_ := H2.out.free 7
    have p0_ := H2.out.p0
    have H7 : Hid (Make (fun k => k < m) W (w2.setCell ⟨g, 7, none⟩ (.string ⟨#[]⟩)) g m { C1 with data := noD } O2) := Lib.hid (H2.out.setC 7 (.string ⟨#[]⟩) { C1 with data := noD } rfl)
    obtain ⟨vs, vu, hmb, hs, hu, ha, _, _⟩ := H7.out.rest
    obtain ⟨av, cv, rfl, _⟩ := Own.own_form hs
    obtain ⟨au, cu, rfl, _⟩ := Own.own_form hu
    have q1 := (cell_of_row _ _ 1 _ _ _ hmb).trans rfl
    have q2 := (cell_of_row _ _ 2 _ _ _ hmb).trans rfl
    have q3 := (cell_of_row _ _ 3 _ _ _ hmb).trans rfl
    have q4 := (cell_of_row _ _ 4 _ _ _ hmb).trans rfl
    have q5 := (cell_of_row _ _ 5 _ _ _ hmb).trans rfl
    have q6 := (cell_of_row _ _ 6 _ _ _ hmb).trans rfl
    have hz := (H7.out.only.block w.heap.size (by have := HMQ.out; omega) (by have := HLT.out; omega)).trans HR.out
    have HS := Lib.hid hs
    have HU := Lib.hid hu
    have HA := Lib.hid ha
    clear hmb hs hu ha
    go_wp2_with (refine wpList_store_row rfl 61 _ _ rfl w.heap.size #[.slice av O2.sigs.length cv, .slice au O2.units.length cu, .bool O2.begins, .bool O2.ends, .int .u32 O2.ms, .int .i64 O2.timer] rfl rfl 61 _ hz res_info rfl (by simp [Value.oneCell']) ?_)
    refine bodyPost_ret (results_cell_row rfl _ _ w.heap.size 61 #[.slice av O2.sigs.length cv, .slice au O2.units.length cu, .bool O2.begins, .bool O2.ends, .int .u32 O2.ms, .int .i64 O2.timer] (0, 0) _ rfl (setRow_heap _ _ _ _ 61 (0, 0) hz) Tryd.underlying61 rfl res_info) rfl ?_
    rw [HBC.out, ← HO2.out]
    have hml : w.heap.size < m := by have := HMQ.out; omega
    refine ⟨_, rfl, _, _, rfl, Own.own_base (row_setRow HS.out (by omega)) (by omega), Own.own_base (row_setRow HU.out (by omega)) (by omega), HA.out, (setRow_other _ _ _ _ (by have := HLT.out; omega)).trans H7.out.conn, ?_⟩
    have ho := H7.out.only
    exact ⟨ho.os.trans HB.out.os, ho.tape.trans HB.out.tape, ho.output.trans HB.out.output, Nat.le_trans HB.out.size (by simpa [World.setRow] using ho.size), fun k hk hkg => (setRow_other _ _ _ _ (by omega)).trans ((ho.block k (by omega) hkg).trans (HB.out.block k hk))⟩
  · have HBC : Hid (bringC C1 = C1) := Lib.hid (if_neg az)
    have ea : (asksK C1.state == 0) = false := by simpa using az
    clear az
    obtain ⟨vs, vu, hmb, hs, hu, ha, _, _⟩ := H2.out.rest
    obtain ⟨av, cv, rfl, _⟩ := Own.own_form hs
    obtain ⟨au, cu, rfl, _⟩ := Own.own_form hu
    have q1 := (cell_of_row _ _ 1 _ _ _ hmb).trans rfl
    have q2 := (cell_of_row _ _ 2 _ _ _ hmb).trans rfl
    have q3 := (cell_of_row _ _ 3 _ _ _ hmb).trans rfl
    have q4 := (cell_of_row _ _ 4 _ _ _ hmb).trans rfl
    have q5 := (cell_of_row _ _ 5 _ _ _ hmb).trans rfl
    have q6 := (cell_of_row _ _ 6 _ _ _ hmb).trans rfl
    have hz := (H2.out.only.block w.heap.size (by have := HMQ.out; omega) (by have := HLT.out; omega)).trans HR.out
    have HS := Lib.hid hs
    have HU := Lib.hid hu
    have HA := Lib.hid ha
    clear hmb hs hu ha
    go_wp2_with (refine wpList_store_row rfl 61 _ _ rfl w.heap.size #[.slice av O2.sigs.length cv, .slice au O2.units.length cu, .bool O2.begins, .bool O2.ends, .int .u32 O2.ms, .int .i64 O2.timer] rfl rfl 61 _ hz res_info rfl (by simp [Value.oneCell']) ?_)
    refine bodyPost_ret (results_cell_row rfl _ _ w.heap.size 61 #[.slice av O2.sigs.length cv, .slice au O2.units.length cu, .bool O2.begins, .bool O2.ends, .int .u32 O2.ms, .int .i64 O2.timer] (0, 0) _ rfl (setRow_heap _ _ _ _ 61 (0, 0) hz) Tryd.underlying61 rfl res_info) rfl ?_
    rw [HBC.out, ← HO2.out]
    have hml : w.heap.size < m := by have := HMQ.out; omega
    refine ⟨_, rfl, _, _, rfl, Own.own_base (row_setRow HS.out (by omega)) (by omega), Own.own_base (row_setRow HU.out (by omega)) (by omega), HA.out, (setRow_other _ _ _ _ (by have := HLT.out; omega)).trans H2.out.conn, ?_⟩
    have ho := H2.out.only
    exact ⟨ho.os.trans HB.out.os, ho.tape.trans HB.out.tape, ho.output.trans HB.out.output, Nat.le_trans HB.out.size (by simpa [World.setRow] using ho.size), fun k hk hkg => (setRow_other _ _ _ _ (by omega)).trans ((ho.block k (by omega) hkg).trans (HB.out.block k hk))⟩
set_option maxRecDepth 100000 in
set_option maxHeartbeats 8000000 in
theorem bring_request (w : World) (g : Nat) (c : C) (qa qb : Nat) (kind : Int) (data : ByteArray) (hg : w.heap[g]? = some (.cells (encC c) 81 (0, 0))) (hk : w.cell? ⟨qa, 0, none⟩ = some (.int .i64 kind)) (hkl : qa < w.heap.size) (hd : w.cell? ⟨qb, 0, none⟩ = some (.string data)) (hdl : qb < w.heap.size) (hq : 0 ≤ c.sq ∧ c.sq ≤ 255) :
    Calls Tryd.prog 37 #[.pointer (some ⟨g, 0, none⟩), .func (.func 43) #[] #[.pointer (some ⟨qa, 0, none⟩), .pointer (some ⟨qb, 0, none⟩)]] w fun e w' => ∃ v, e = .returned v ∧ Brought w w' g (bringC (reqC c kind data)) { (reqO c o0 kind data) with ends := endsB c.state (reqC c kind data) (reqO c o0 kind data) } v := by
  have hlt : g < w.heap.size := (Array.getElem?_eq_some_iff.1 hg).1
  obtain ⟨W, hW⟩ : ∃ W, W = ((w.alloc (.cells #[.slice none 0 0, .slice none 0 0, .bool false, .bool false, .int .u32 0, .int .i64 0] 61)).alloc (.cells #[.pointer (some ⟨g, 0, none⟩), .slice none 0 0, .slice none 0 0, .bool false, .bool false, .int .u32 0, .int .i64 0] 100)) := ⟨_, rfl⟩
  have HB : Hid (Below w.heap.size w W) := Lib.hid (by rw [hW]; exact ((Below.refl _ _).alloc (Nat.le_refl _) _).alloc (by simp) _)
  have HM : Hid (Make (fun k => k < w.heap.size + 1) W W g (w.heap.size + 1) c o0) := Lib.hid (by rw [hW]; exact make_start w g c _ hg)
  have HR : Hid (W.heap[w.heap.size]? = some (.cells #[.slice none 0 0, .slice none 0 0, .bool false, .bool false, .int .u32 0, .int .i64 0] 61 (0, 0))) := Lib.hid (by rw [hW]; exact heap_alloc2_old w _ _)
  have HLT := Lib.hid hlt
  have HSZ : Hid (W.heap.size = w.heap.size + 2) := Lib.hid (by rw [hW]; simp)
  have hF : Few o0 900 := ⟨by simp [o0], by simp [o0]⟩
  have HF := Lib.hid hF
  obtain ⟨C1, hC1⟩ : ∃ C1, C1 = reqC c kind data := ⟨_, rfl⟩
  obtain ⟨O1, hO1⟩ : ∃ O1, O1 = reqO c o0 kind data := ⟨_, rfl⟩
  have hkW := (Own.cell_below HB.out hkl).trans hk
  have hdW := (Own.cell_below HB.out hdl).trans hd
  have HD : Hid (Calls Tryd.prog 43 #[.pointer (some ⟨w.heap.size + 1, 0, none⟩), .pointer (some ⟨qa, 0, none⟩), .pointer (some ⟨qb, 0, none⟩)] W fun e w' => (∃ v, e = .returned v) ∧ Make (fun k => k < w.heap.size + 1) W w' g (w.heap.size + 1) C1 O1) := Lib.hid (by rw [hC1, hO1]; exact request1_any _ _ _ _ _ _ _ qa qb kind data hkW hdW hq HM.out HF.out)
  rw [← hC1, ← hO1]
  have cc : w.cell? ⟨g, 2, none⟩ = some (.int .i64 c.state) := (cell_of_row _ _ _ _ _ _ hg).trans rfl
  have cc2 : (w.alloc (.cells #[.slice none 0 0, .slice none 0 0, .bool false, .bool false, .int .u32 0, .int .i64 0] 61)).cell? ⟨g, 2, none⟩ = some (.int .i64 c.state) := (Own.cell_below ((Below.refl _ _).alloc (Nat.le_refl _) _) hlt).trans cc
  clear hC1 hO1 hlt hF hk hkl hd hdl hq hkW hdW
  go_enter Tryd.func37, Tryd.ntmps37
  go_wp2_with fail
  rw [← hW]
  clear hW cc cc2
  obtain ⟨m, hm⟩ : ∃ m, w.heap.size + 1 = m := ⟨_, rfl⟩
  rw [hm] at HM HD ⊢
  have HMQ := Lib.hid hm
  clear hm
  refine HD.out.mono ?_; rintro e w1 ⟨⟨v1, rfl⟩, h1⟩
  have H1 := Lib.hid h1
  have p0_ := h1.p0
  have p3_ := h1.p3
  have c2_ := h1.c2
  have p4_ := h1.p4
  have y4_ := h1.mfree 4
  have hgm := h1.gm
  have hgm2 := h1.gm.symm
  clear h1 HD
  obtain ⟨s1, hs1⟩ : ∃ s, C1.state = s := ⟨_, rfl⟩
  obtain ⟨b1, hb1⟩ : ∃ b, O1.begins = b := ⟨_, rfl⟩
  obtain ⟨s0, hs0⟩ : ∃ s, c.state = s := ⟨_, rfl⟩
  rw [hs1] at c2_
  rw [hb1] at p3_
  rw [hs0]
  have HS0 := Lib.hid hs0
  have HS1 := Lib.hid hs1
  have HB1 := Lib.hid hb1
  clear hs0 hs1 hb1 hg
  go_upto_region 4 with (fail)
  go_cut [5] (fun s5 wx => s5 = .int .i64 s0 ∧ wx = w1.setCell ⟨m, 4, none⟩ (.bool (endsB c.state C1 O1)))
  case first =>
    have hE : endsB c.state C1 O1 = (decide (s0 = 10) && (decide (s1 ≠ 10) || b1)) := by unfold endsB; rw [HS0.out, HS1.out, HB1.out]
    by_cases a0 : s0 = 10
    · have e0 : (s0 == 10) = true := by simp [a0]
      by_cases a1 : s1 = 10
      · have e1 : (s1 != 10) = false := by simp [a1]
        have hd : (decide (s0 = 10) && (decide (s1 ≠ 10) || b1)) = b1 := by simp [a0, a1]
        have HEE := Lib.hid (hE.trans hd)
        clear hE hd a0 a1
        go_wp2_with fail
        go_meet
        exact ⟨rfl, by rw [HEE.out]⟩
      · have e1 : (s1 != 10) = true := by simpa using a1
        have hd : (decide (s0 = 10) && (decide (s1 ≠ 10) || b1)) = true := by simp [a0, a1]
        have HEE := Lib.hid (hE.trans hd)
        clear hE hd a0 a1
        go_wp2_with fail
        go_meet
        exact ⟨rfl, by rw [HEE.out]⟩
    · have e0 : (s0 == 10) = false := by simpa using a0
      have hd : (decide (s0 = 10) && (decide (s1 ≠ 10) || b1)) = false := by simp [a0]
      have HEE := Lib.hid (hE.trans hd)
      clear hE hd a0
      go_wp2_with fail
      go_meet
      exact ⟨rfl, by rw [HEE.out]⟩
  case rest =>
  obtain ⟨rfl, hwc⟩ := hcut
  have H2 : Hid (Make (fun k => k < m) W wc g m C1 { O1 with ends := endsB c.state C1 O1 }) := Lib.hid (by rw [hwc]; exact H1.out.setO 4 (.bool (endsB c.state C1 O1)) { O1 with ends := endsB c.state C1 O1 } rfl rfl (fun _ _ => rfl))
  clear hwc p0_ p3_ c2_ p4_ y4_ H1
  obtain ⟨O2, hO2⟩ : ∃ O2, O2 = ({ O1 with ends := endsB c.state C1 O1 } : O) := ⟨_, rfl⟩
  rw [← hO2] at H2
  have HO2 := Lib.hid hO2
  clear hO2
  have p0_ := H2.out.p0
  have c2_ := H2.out.c2
  go_wp2_with fail
  refine (asks_any _ _).mono ?_; rintro e w2 ⟨rfl, rfl⟩
  clear p0_ c2_
  by_cases az : asksK C1.state = 0
  · have HBC : Hid (bringC C1 = { C1 with data := noD }) := Lib.hid (if_pos az)
    have ea : (asksK C1.state == 0) = true := by simp [az]
    clear az
    have c7_ := H2.out.c7
    have z7_ := H2.out.free 7
    have p0_ := H2.out.p0
    have H7 : Hid (Make (fun k => k < m) W (w2.setCell ⟨g, 7, none⟩ (.string ⟨#[]⟩)) g m { C1 with data := noD } O2) := Lib.hid (H2.out.setC 7 (.string ⟨#[]⟩) { C1 with data := noD } rfl)
    obtain ⟨vs, vu, hmb, hs, hu, ha, _, _⟩ := H7.out.rest
    obtain ⟨av, cv, rfl, _⟩ := Own.own_form hs
    obtain ⟨au, cu, rfl, _⟩ := Own.own_form hu
    have q1 := (cell_of_row _ _ 1 _ _ _ hmb).trans rfl
    have q2 := (cell_of_row _ _ 2 _ _ _ hmb).trans rfl
    have q3 := (cell_of_row _ _ 3 _ _ _ hmb).trans rfl
    have q4 := (cell_of_row _ _ 4 _ _ _ hmb).trans rfl
    have q5 := (cell_of_row _ _ 5 _ _ _ hmb).trans rfl
    have q6 := (cell_of_row _ _ 6 _ _ _ hmb).trans rfl
    have hz := (H7.out.only.block w.heap.size (by have := HMQ.out; omega) (by have := HLT.out; omega)).trans HR.out
    have HS := Lib.hid hs
    have HU := Lib.hid hu
    have HA := Lib.hid ha
    clear hmb hs hu ha
    go_wp2_with (refine wpList_store_row rfl 61 _ _ rfl w.heap.size #[.slice av O2.sigs.length cv, .slice au O2.units.length cu, .bool O2.begins, .bool O2.ends, .int .u32 O2.ms, .int .i64 O2.timer] rfl rfl 61 _ hz res_info rfl (by simp [Value.oneCell']) ?_)
    refine bodyPost_ret (results_cell_row rfl _ _ w.heap.size 61 #[.slice av O2.sigs.length cv, .slice au O2.units.length cu, .bool O2.begins, .bool O2.ends, .int .u32 O2.ms, .int .i64 O2.timer] (0, 0) _ rfl (setRow_heap _ _ _ _ 61 (0, 0) hz) Tryd.underlying61 rfl res_info) rfl ?_
    rw [HBC.out, ← HO2.out]
    have hml : w.heap.size < m := by have := HMQ.out; omega
    refine ⟨_, rfl, _, _, rfl, Own.own_base (row_setRow HS.out (by omega)) (by omega), Own.own_base (row_setRow HU.out (by omega)) (by omega), HA.out, (setRow_other _ _ _ _ (by have := HLT.out; omega)).trans H7.out.conn, ?_⟩
    have ho := H7.out.only
    exact ⟨ho.os.trans HB.out.os, ho.tape.trans HB.out.tape, ho.output.trans HB.out.output, Nat.le_trans HB.out.size (by simpa [World.setRow] using ho.size), fun k hk hkg => (setRow_other _ _ _ _ (by omega)).trans ((ho.block k (by omega) hkg).trans (HB.out.block k hk))⟩
  · have HBC : Hid (bringC C1 = C1) := Lib.hid (if_neg az)
    have ea : (asksK C1.state == 0) = false := by simpa using az
    clear az
    obtain ⟨vs, vu, hmb, hs, hu, ha, _, _⟩ := H2.out.rest
    obtain ⟨av, cv, rfl, _⟩ := Own.own_form hs
    obtain ⟨au, cu, rfl, _⟩ := Own.own_form hu
    have q1 := (cell_of_row _ _ 1 _ _ _ hmb).trans rfl
    have q2 := (cell_of_row _ _ 2 _ _ _ hmb).trans rfl
    have q3 := (cell_of_row _ _ 3 _ _ _ hmb).trans rfl
    have q4 := (cell_of_row _ _ 4 _ _ _ hmb).trans rfl
    have q5 := (cell_of_row _ _ 5 _ _ _ hmb).trans rfl
    have q6 := (cell_of_row _ _ 6 _ _ _ hmb).trans rfl
    have hz := (H2.out.only.block w.heap.size (by have := HMQ.out; omega) (by have := HLT.out; omega)).trans HR.out
    have HS := Lib.hid hs
    have HU := Lib.hid hu
    have HA := Lib.hid ha
    clear hmb hs hu ha
    go_wp2_with (refine wpList_store_row rfl 61 _ _ rfl w.heap.size #[.slice av O2.sigs.length cv, .slice au O2.units.length cu, .bool O2.begins, .bool O2.ends, .int .u32 O2.ms, .int .i64 O2.timer] rfl rfl 61 _ hz res_info rfl (by simp [Value.oneCell']) ?_)
    refine bodyPost_ret (results_cell_row rfl _ _ w.heap.size 61 #[.slice av O2.sigs.length cv, .slice au O2.units.length cu, .bool O2.begins, .bool O2.ends, .int .u32 O2.ms, .int .i64 O2.timer] (0, 0) _ rfl (setRow_heap _ _ _ _ 61 (0, 0) hz) Tryd.underlying61 rfl res_info) rfl ?_
    rw [HBC.out, ← HO2.out]
    have hml : w.heap.size < m := by have := HMQ.out; omega
    refine ⟨_, rfl, _, _, rfl, Own.own_base (row_setRow HS.out (by omega)) (by omega), Own.own_base (row_setRow HU.out (by omega)) (by omega), HA.out, (setRow_other _ _ _ _ (by have := HLT.out; omega)).trans H2.out.conn, ?_⟩
    have ho := H2.out.only
    exact ⟨ho.os.trans HB.out.os, ho.tape.trans HB.out.tape, ho.output.trans HB.out.output, Nat.le_trans HB.out.size (by simpa [World.setRow] using ho.size), fun k hk hkg => (setRow_other _ _ _ _ (by omega)).trans ((ho.block k (by omega) hkg).trans (HB.out.block k hk))⟩
set_option maxRecDepth 100000 in
set_option maxHeartbeats 8000000 in
theorem bring_receive (w : World) (g : Nat) (c : C) (qb : Nat) (p : P) (hg : w.heap[g]? = some (.cells (encC c) 81 (0, 0))) (hk : w.heap[qb]? = some (.cells (encP p) 74 (0, 0))) (hT : Rules.Tabs w) (hGL : 1 ≠ g) (hwf : (Lit.int .i64 c.state).wf = true) :
    Calls Tryd.prog 37 #[.pointer (some ⟨g, 0, none⟩), .func (.func 49) #[] #[.pointer (some ⟨qb, 0, none⟩)]] w fun e w' => ∃ v, e = .returned v ∧ Brought w w' g (bringC (recvC c p)) { (recvO c o0 p) with ends := endsB c.state (recvC c p) (recvO c o0 p) } v := by
  have hlt : g < w.heap.size := (Array.getElem?_eq_some_iff.1 hg).1
  obtain ⟨W, hW⟩ : ∃ W, W = ((w.alloc (.cells #[.slice none 0 0, .slice none 0 0, .bool false, .bool false, .int .u32 0, .int .i64 0] 61)).alloc (.cells #[.pointer (some ⟨g, 0, none⟩), .slice none 0 0, .slice none 0 0, .bool false, .bool false, .int .u32 0, .int .i64 0] 100)) := ⟨_, rfl⟩
  have HB : Hid (Below w.heap.size w W) := Lib.hid (by rw [hW]; exact ((Below.refl _ _).alloc (Nat.le_refl _) _).alloc (by simp) _)
  have HM : Hid (Make (fun k => k < w.heap.size + 1) W W g (w.heap.size + 1) c o0) := Lib.hid (by rw [hW]; exact make_start w g c _ hg)
  have HR : Hid (W.heap[w.heap.size]? = some (.cells #[.slice none 0 0, .slice none 0 0, .bool false, .bool false, .int .u32 0, .int .i64 0] 61 (0, 0))) := Lib.hid (by rw [hW]; exact heap_alloc2_old w _ _)
  have HLT := Lib.hid hlt
  have HSZ : Hid (W.heap.size = w.heap.size + 2) := Lib.hid (by rw [hW]; simp)
  have hF : Few o0 900 := ⟨by simp [o0], by simp [o0]⟩
  have HF := Lib.hid hF
  obtain ⟨C1, hC1⟩ : ∃ C1, C1 = recvC c p := ⟨_, rfl⟩
  obtain ⟨O1, hO1⟩ : ∃ O1, O1 = recvO c o0 p := ⟨_, rfl⟩
  have hkW := (HB.out.block qb (Array.getElem?_eq_some_iff.1 hk).1).trans hk
  have hTW := hT.below HB.out
  have hXL : 1 < w.heap.size + 1 := Nat.lt_succ_of_lt hT.lt0
  have HD : Hid (Calls Tryd.prog 49 #[.pointer (some ⟨w.heap.size + 1, 0, none⟩), .pointer (some ⟨qb, 0, none⟩)] W fun e w' => (∃ v, e = .returned v) ∧ Make (fun k => k < w.heap.size + 1) W w' g (w.heap.size + 1) C1 O1) := Lib.hid (by rw [hC1, hO1]; exact receive1_any _ _ _ _ _ _ _ qb p hkW hTW hXL hGL hwf HM.out HF.out)
  rw [← hC1, ← hO1]
  have cc : w.cell? ⟨g, 2, none⟩ = some (.int .i64 c.state) := (cell_of_row _ _ _ _ _ _ hg).trans rfl
  have cc2 : (w.alloc (.cells #[.slice none 0 0, .slice none 0 0, .bool false, .bool false, .int .u32 0, .int .i64 0] 61)).cell? ⟨g, 2, none⟩ = some (.int .i64 c.state) := (Own.cell_below ((Below.refl _ _).alloc (Nat.le_refl _) _) hlt).trans cc
  clear hC1 hO1 hlt hF hk hT hGL hwf hkW hTW hXL
  go_enter Tryd.func37, Tryd.ntmps37
  go_wp2_with fail
  rw [← hW]
  clear hW cc cc2
  obtain ⟨m, hm⟩ : ∃ m, w.heap.size + 1 = m := ⟨_, rfl⟩
  rw [hm] at HM HD ⊢
  have HMQ := Lib.hid hm
  clear hm
  refine HD.out.mono ?_; rintro e w1 ⟨⟨v1, rfl⟩, h1⟩
  have H1 := Lib.hid h1
  have p0_ := h1.p0
  have p3_ := h1.p3
  have c2_ := h1.c2
  have p4_ := h1.p4
  have y4_ := h1.mfree 4
  have hgm := h1.gm
  have hgm2 := h1.gm.symm
  clear h1 HD
  obtain ⟨s1, hs1⟩ : ∃ s, C1.state = s := ⟨_, rfl⟩
  obtain ⟨b1, hb1⟩ : ∃ b, O1.begins = b := ⟨_, rfl⟩
  obtain ⟨s0, hs0⟩ : ∃ s, c.state = s := ⟨_, rfl⟩
  rw [hs1] at c2_
  rw [hb1] at p3_
  rw [hs0]
  have HS0 := Lib.hid hs0
  have HS1 := Lib.hid hs1
  have HB1 := Lib.hid hb1
  clear hs0 hs1 hb1 hg
  go_upto_region 4 with (fail)
  go_cut [5] (fun s5 wx => s5 = .int .i64 s0 ∧ wx = w1.setCell ⟨m, 4, none⟩ (.bool (endsB c.state C1 O1)))
  case first =>
    have hE : endsB c.state C1 O1 = (decide (s0 = 10) && (decide (s1 ≠ 10) || b1)) := by unfold endsB; rw [HS0.out, HS1.out, HB1.out]
    by_cases a0 : s0 = 10
    · have e0 : (s0 == 10) = true := by simp [a0]
      by_cases a1 : s1 = 10
      · have e1 : (s1 != 10) = false := by simp [a1]
        have hd : (decide (s0 = 10) && (decide (s1 ≠ 10) || b1)) = b1 := by simp [a0, a1]
        have HEE := Lib.hid (hE.trans hd)
        clear hE hd a0 a1
        go_wp2_with fail
        go_meet
        exact ⟨rfl, by rw [HEE.out]⟩
      · have e1 : (s1 != 10) = true := by simpa using a1
        have hd : (decide (s0 = 10) && (decide (s1 ≠ 10) || b1)) = true := by simp [a0, a1]
        have HEE := Lib.hid (hE.trans hd)
        clear hE hd a0 a1
        go_wp2_with fail
        go_meet
        exact ⟨rfl, by rw [HEE.out]⟩
    · have e0 : (s0 == 10) = false := by simpa using a0
      have hd : (decide (s0 = 10) && (decide (s1 ≠ 10) || b1)) = false := by simp [a0]
      have HEE := Lib.hid (hE.trans hd)
      clear hE hd a0
      go_wp2_with fail
      go_meet
      exact ⟨rfl, by rw [HEE.out]⟩
  case rest =>
  obtain ⟨rfl, hwc⟩ := hcut
  have H2 : Hid (Make (fun k => k < m) W wc g m C1 { O1 with ends := endsB c.state C1 O1 }) := Lib.hid (by rw [hwc]; exact H1.out.setO 4 (.bool (endsB c.state C1 O1)) { O1 with ends := endsB c.state C1 O1 } rfl rfl (fun _ _ => rfl))
  clear hwc p0_ p3_ c2_ p4_ y4_ H1
  obtain ⟨O2, hO2⟩ : ∃ O2, O2 = ({ O1 with ends := endsB c.state C1 O1 } : O) := ⟨_, rfl⟩
  rw [← hO2] at H2
  have HO2 := Lib.hid hO2
  clear hO2
  have p0_ := H2.out.p0
  have c2_ := H2.out.c2
  go_wp2_with fail
  refine (asks_any _ _).mono ?_; rintro e w2 ⟨rfl, rfl⟩
  clear p0_ c2_
  by_cases az : asksK C1.state = 0
  · have HBC : Hid (bringC C1 = { C1 with data := noD }) := Lib.hid (if_pos az)
    have ea : (asksK C1.state == 0) = true := by simp [az]
    clear az
    have c7_ := H2.out.c7
    have z7_ := H2.out.free 7
    have p0_ := H2.out.p0
    have H7 : Hid (Make (fun k => k < m) W (w2.setCell ⟨g, 7, none⟩ (.string ⟨#[]⟩)) g m { C1 with data := noD } O2) := Lib.hid (H2.out.setC 7 (.string ⟨#[]⟩) { C1 with data := noD } rfl)
    obtain ⟨vs, vu, hmb, hs, hu, ha, _, _⟩ := H7.out.rest
    obtain ⟨av, cv, rfl, _⟩ := Own.own_form hs
    obtain ⟨au, cu, rfl, _⟩ := Own.own_form hu
    have q1 := (cell_of_row _ _ 1 _ _ _ hmb).trans rfl
    have q2 := (cell_of_row _ _ 2 _ _ _ hmb).trans rfl
    have q3 := (cell_of_row _ _ 3 _ _ _ hmb).trans rfl
    have q4 := (cell_of_row _ _ 4 _ _ _ hmb).trans rfl
    have q5 := (cell_of_row _ _ 5 _ _ _ hmb).trans rfl
    have q6 := (cell_of_row _ _ 6 _ _ _ hmb).trans rfl
    have hz := (H7.out.only.block w.heap.size (by have := HMQ.out; omega) (by have := HLT.out; omega)).trans HR.out
    have HS := Lib.hid hs
    have HU := Lib.hid hu
    have HA := Lib.hid ha
    clear hmb hs hu ha
    go_wp2_with (refine wpList_store_row rfl 61 _ _ rfl w.heap.size #[.slice av O2.sigs.length cv, .slice au O2.units.length cu, .bool O2.begins, .bool O2.ends, .int .u32 O2.ms, .int .i64 O2.timer] rfl rfl 61 _ hz res_info rfl (by simp [Value.oneCell']) ?_)
    refine bodyPost_ret (results_cell_row rfl _ _ w.heap.size 61 #[.slice av O2.sigs.length cv, .slice au O2.units.length cu, .bool O2.begins, .bool O2.ends, .int .u32 O2.ms, .int .i64 O2.timer] (0, 0) _ rfl (setRow_heap _ _ _ _ 61 (0, 0) hz) Tryd.underlying61 rfl res_info) rfl ?_
    rw [HBC.out, ← HO2.out]
    have hml : w.heap.size < m := by have := HMQ.out; omega
    refine ⟨_, rfl, _, _, rfl, Own.own_base (row_setRow HS.out (by omega)) (by omega), Own.own_base (row_setRow HU.out (by omega)) (by omega), HA.out, (setRow_other _ _ _ _ (by have := HLT.out; omega)).trans H7.out.conn, ?_⟩
    have ho := H7.out.only
    exact ⟨ho.os.trans HB.out.os, ho.tape.trans HB.out.tape, ho.output.trans HB.out.output, Nat.le_trans HB.out.size (by simpa [World.setRow] using ho.size), fun k hk hkg => (setRow_other _ _ _ _ (by omega)).trans ((ho.block k (by omega) hkg).trans (HB.out.block k hk))⟩
  · have HBC : Hid (bringC C1 = C1) := Lib.hid (if_neg az)
    have ea : (asksK C1.state == 0) = false := by simpa using az
    clear az
    obtain ⟨vs, vu, hmb, hs, hu, ha, _, _⟩ := H2.out.rest
    obtain ⟨av, cv, rfl, _⟩ := Own.own_form hs
    obtain ⟨au, cu, rfl, _⟩ := Own.own_form hu
    have q1 := (cell_of_row _ _ 1 _ _ _ hmb).trans rfl
    have q2 := (cell_of_row _ _ 2 _ _ _ hmb).trans rfl
    have q3 := (cell_of_row _ _ 3 _ _ _ hmb).trans rfl
    have q4 := (cell_of_row _ _ 4 _ _ _ hmb).trans rfl
    have q5 := (cell_of_row _ _ 5 _ _ _ hmb).trans rfl
    have q6 := (cell_of_row _ _ 6 _ _ _ hmb).trans rfl
    have hz := (H2.out.only.block w.heap.size (by have := HMQ.out; omega) (by have := HLT.out; omega)).trans HR.out
    have HS := Lib.hid hs
    have HU := Lib.hid hu
    have HA := Lib.hid ha
    clear hmb hs hu ha
    go_wp2_with (refine wpList_store_row rfl 61 _ _ rfl w.heap.size #[.slice av O2.sigs.length cv, .slice au O2.units.length cu, .bool O2.begins, .bool O2.ends, .int .u32 O2.ms, .int .i64 O2.timer] rfl rfl 61 _ hz res_info rfl (by simp [Value.oneCell']) ?_)
    refine bodyPost_ret (results_cell_row rfl _ _ w.heap.size 61 #[.slice av O2.sigs.length cv, .slice au O2.units.length cu, .bool O2.begins, .bool O2.ends, .int .u32 O2.ms, .int .i64 O2.timer] (0, 0) _ rfl (setRow_heap _ _ _ _ 61 (0, 0) hz) Tryd.underlying61 rfl res_info) rfl ?_
    rw [HBC.out, ← HO2.out]
    have hml : w.heap.size < m := by have := HMQ.out; omega
    refine ⟨_, rfl, _, _, rfl, Own.own_base (row_setRow HS.out (by omega)) (by omega), Own.own_base (row_setRow HU.out (by omega)) (by omega), HA.out, (setRow_other _ _ _ _ (by have := HLT.out; omega)).trans H2.out.conn, ?_⟩
    have ho := H2.out.only
    exact ⟨ho.os.trans HB.out.os, ho.tape.trans HB.out.tape, ho.output.trans HB.out.output, Nat.le_trans HB.out.size (by simpa [World.setRow] using ho.size), fun k hk hkg => (setRow_other _ _ _ _ (by omega)).trans ((ho.block k (by omega) hkg).trans (HB.out.block k hk))⟩
end Go.Proofs.YtkphompjahcjiaaDoor.Conn
