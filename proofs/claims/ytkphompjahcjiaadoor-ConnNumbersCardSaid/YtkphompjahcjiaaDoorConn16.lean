/-
  A connection: its calls.
-/
import Derived.Test.YtkphompjahcjiaaDoorConn15
namespace Go.Proofs.YtkphompjahcjiaaDoor.Conn
open Go.RowKit

theorem Brought.up {w W w1 : World} {g r : Nat} {c : C} {o : O} {v : Value} {cs : Array Value} (h : Brought W w1 g c o v) (hb : Below w.heap.size w W) (h1 : w.heap.size ≤ r) (h2 : r < W.heap.size) (hg : g < w.heap.size) : Brought w (w1.setRow r cs) g c o v := by
  obtain ⟨vs, vu, e, hs, hu, ha, hc, ho⟩ := h
  have := hb.size
  refine ⟨vs, vu, e, Own.own_base (row_setRow hs h2) this, Own.own_base (row_setRow hu h2) this, ha, (setRow_other _ _ _ _ (by omega)).trans hc, ?_⟩
  exact ⟨ho.os.trans hb.os, ho.tape.trans hb.tape, ho.output.trans hb.output, Nat.le_trans this (by simpa [World.setRow] using ho.size), fun k hk hkg => (setRow_other _ _ _ _ (by omega)).trans ((ho.block k (by omega) hkg).trans (hb.block k hk))⟩
/-- the connection behind a call that brought a result -/
def silentR (c : C) : C × O := (bringC (silentC c), { silentO c o0 with ends := endsB c.state (silentC c) (silentO c o0) })
def expR (c : C) : C × O := (bringC (expC c), { expO c o0 with ends := endsB c.state (expC c) (expO c o0) })
def failR (c : C) (code : Int) : C × O := (bringC (failC c), { failO c o0 code with ends := endsB c.state (failC c) (failO c o0 code) })
def recvR (c : C) (p : P) : C × O := (bringC (recvC c p), { recvO c o0 p with ends := endsB c.state (recvC c p) (recvO c o0 p) })
def reqR (c : C) (kind : Int) (data : ByteArray) : C × O := (bringC (reqC c kind data), { reqO c o0 kind data with ends := endsB c.state (reqC c kind data) (reqO c o0 kind data) })
set_option maxRecDepth 100000 in
set_option maxHeartbeats 4000000 in
theorem silent_any (w : World) (g : Nat) (c : C) (hg : w.heap[g]? = some (.cells (encC c) 81 (0, 0)))  :
    Calls Tryd.prog 24 #[.pointer (some ⟨g, 0, none⟩)] w fun e w' => ∃ v, e = .returned v ∧ Brought w w' g (silentR c).1 (silentR c).2 v := by
  have hlt : g < w.heap.size := (Array.getElem?_eq_some_iff.1 hg).1
  obtain ⟨W, hW⟩ : ∃ W, W = (w.alloc (.cells #[.slice none 0 0, .slice none 0 0, .bool false, .bool false, .int .u32 0, .int .i64 0] 61)) := ⟨_, rfl⟩
  obtain ⟨r, hr⟩ : ∃ r, w.heap.size = r := ⟨_, rfl⟩
  have hb : Below w.heap.size w W := by rw [hW]; exact ((Below.refl _ _).alloc (by (try simp) <;> (try omega)) _)
  have hsz : W.heap.size = w.heap.size + 1 := by rw [hW]; simp
  have HZ : Hid (W.heap[r]? = some (.cells #[.slice none 0 0, .slice none 0 0, .bool false, .bool false, .int .u32 0, .int .i64 0] 61 (0, 0))) := Lib.hid (by rw [hW, ← hr]; have := heap_alloc_new w (.cells #[.slice none 0 0, .slice none 0 0, .bool false, .bool false, .int .u32 0, .int .i64 0] 61); simpa using this)
  have hgW := (hb.block g hlt).trans hg
  have HD := Lib.hid (bring_silent W g c hgW)
  have HB := Lib.hid hb
  have HLT := Lib.hid hlt
  have HSZ := Lib.hid hsz
  have HR : Hid (w.heap.size ≤ r ∧ r < W.heap.size) := Lib.hid (by omega)
  clear hb hlt hsz hg hgW
  go_enter Tryd.func24, Tryd.ntmps24
  go_wp2_with fail
  rw [← hW]
  clear hW
  clear hr
  refine HD.out.mono ?_; rintro e w1 ⟨v, rfl, h1⟩
  have H1 := Lib.hid h1
  obtain ⟨vs, vu, rfl, hs, hu, _, _, ho⟩ := h1
  obtain ⟨av, cv, rfl, _⟩ := Own.own_form hs
  obtain ⟨au, cu, rfl, _⟩ := Own.own_form hu
  have hz := (ho.block r HR.out.2 (by have := HLT.out; have := HR.out.1; omega)).trans HZ.out
  clear hs hu ho HD
  go_wp2_with (refine wpList_store_row rfl 61 _ _ rfl r #[.slice av _ cv, .slice au _ cu, .bool _, .bool _, .int .u32 _, .int .i64 _] rfl rfl 61 _ hz res_info rfl (by simp [Value.oneCell']) ?_)
  refine bodyPost_ret (results_cell_row rfl _ _ r 61 #[.slice av _ cv, .slice au _ cu, .bool _, .bool _, .int .u32 _, .int .i64 _] (0, 0) _ rfl (setRow_heap _ _ _ _ 61 (0, 0) hz) Tryd.underlying61 rfl res_info) rfl ?_
  exact ⟨_, rfl, H1.out.up HB.out HR.out.1 HR.out.2 HLT.out⟩
set_option maxRecDepth 100000 in
set_option maxHeartbeats 4000000 in
theorem expire_any (w : World) (g : Nat) (c : C) (hg : w.heap[g]? = some (.cells (encC c) 81 (0, 0))) (hcc : 0 ≤ c.cc ∧ c.cc ≤ 1000) :
    Calls Tryd.prog 22 #[.pointer (some ⟨g, 0, none⟩)] w fun e w' => ∃ v, e = .returned v ∧ Brought w w' g (expR c).1 (expR c).2 v := by
  have hlt : g < w.heap.size := (Array.getElem?_eq_some_iff.1 hg).1
  obtain ⟨W, hW⟩ : ∃ W, W = (w.alloc (.cells #[.slice none 0 0, .slice none 0 0, .bool false, .bool false, .int .u32 0, .int .i64 0] 61)) := ⟨_, rfl⟩
  obtain ⟨r, hr⟩ : ∃ r, w.heap.size = r := ⟨_, rfl⟩
  have hb : Below w.heap.size w W := by rw [hW]; exact ((Below.refl _ _).alloc (by (try simp) <;> (try omega)) _)
  have hsz : W.heap.size = w.heap.size + 1 := by rw [hW]; simp
  have HZ : Hid (W.heap[r]? = some (.cells #[.slice none 0 0, .slice none 0 0, .bool false, .bool false, .int .u32 0, .int .i64 0] 61 (0, 0))) := Lib.hid (by rw [hW, ← hr]; have := heap_alloc_new w (.cells #[.slice none 0 0, .slice none 0 0, .bool false, .bool false, .int .u32 0, .int .i64 0] 61); simpa using this)
  have hgW := (hb.block g hlt).trans hg
  have HD := Lib.hid (bring_expire W g c hgW hcc)
  have HB := Lib.hid hb
  have HLT := Lib.hid hlt
  have HSZ := Lib.hid hsz
  have HR : Hid (w.heap.size ≤ r ∧ r < W.heap.size) := Lib.hid (by omega)
  clear hb hlt hsz hg hgW hcc
  go_enter Tryd.func22, Tryd.ntmps22
  go_wp2_with fail
  rw [← hW]
  clear hW
  clear hr
  refine HD.out.mono ?_; rintro e w1 ⟨v, rfl, h1⟩
  have H1 := Lib.hid h1
  obtain ⟨vs, vu, rfl, hs, hu, _, _, ho⟩ := h1
  obtain ⟨av, cv, rfl, _⟩ := Own.own_form hs
  obtain ⟨au, cu, rfl, _⟩ := Own.own_form hu
  have hz := (ho.block r HR.out.2 (by have := HLT.out; have := HR.out.1; omega)).trans HZ.out
  clear hs hu ho HD
  go_wp2_with (refine wpList_store_row rfl 61 _ _ rfl r #[.slice av _ cv, .slice au _ cu, .bool _, .bool _, .int .u32 _, .int .i64 _] rfl rfl 61 _ hz res_info rfl (by simp [Value.oneCell']) ?_)
  refine bodyPost_ret (results_cell_row rfl _ _ r 61 #[.slice av _ cv, .slice au _ cu, .bool _, .bool _, .int .u32 _, .int .i64 _] (0, 0) _ rfl (setRow_heap _ _ _ _ 61 (0, 0) hz) Tryd.underlying61 rfl res_info) rfl ?_
  exact ⟨_, rfl, H1.out.up HB.out HR.out.1 HR.out.2 HLT.out⟩
set_option maxRecDepth 100000 in
set_option maxHeartbeats 4000000 in
theorem fail_any (w : World) (g : Nat) (c : C) (code : Int) (hg : w.heap[g]? = some (.cells (encC c) 81 (0, 0))) (hq : 0 ≤ c.sq ∧ c.sq ≤ 255) :
    Calls Tryd.prog 18 #[.pointer (some ⟨g, 0, none⟩), .int .u8 code] w fun e w' => ∃ v, e = .returned v ∧ Brought w w' g (failR c code).1 (failR c code).2 v := by
  have hlt : g < w.heap.size := (Array.getElem?_eq_some_iff.1 hg).1
  obtain ⟨W, hW⟩ : ∃ W, W = ((w.alloc (.cells #[.int .u8 code] 5)).alloc (.cells #[.slice none 0 0, .slice none 0 0, .bool false, .bool false, .int .u32 0, .int .i64 0] 61)) := ⟨_, rfl⟩
  obtain ⟨r, hr⟩ : ∃ r, w.heap.size + 1 = r := ⟨_, rfl⟩
  have hb : Below w.heap.size w W := by rw [hW]; exact (((Below.refl _ _).alloc (by (try simp) <;> (try omega)) _).alloc (by (try simp) <;> (try omega)) _)
  have hsz : W.heap.size = w.heap.size + 2 := by rw [hW]; simp
  have HZ : Hid (W.heap[r]? = some (.cells #[.slice none 0 0, .slice none 0 0, .bool false, .bool false, .int .u32 0, .int .i64 0] 61 (0, 0))) := Lib.hid (by rw [hW, ← hr]; have := heap_alloc_new (w.alloc (.cells #[.int .u8 code] 5)) (.cells #[.slice none 0 0, .slice none 0 0, .bool false, .bool false, .int .u32 0, .int .i64 0] 61); simpa using this)
  have hgW := (hb.block g hlt).trans hg
  have hk : W.cell? ⟨w.heap.size, 0, none⟩ = some (.int .u8 code) := by rw [hW]; exact (cell_of_row _ _ _ _ _ _ (heap_alloc2_old w _ _)).trans rfl
  have HD := Lib.hid (bring_fail W g c w.heap.size code hgW hk (by omega) hq)
  have HB := Lib.hid hb
  have HLT := Lib.hid hlt
  have HSZ := Lib.hid hsz
  have HR : Hid (w.heap.size ≤ r ∧ r < W.heap.size) := Lib.hid (by omega)
  clear hb hlt hsz hg hgW hq hk
  go_enter Tryd.func18, Tryd.ntmps18
  go_wp2_with fail
  rw [← hW]
  clear hW
  clear hr
  refine HD.out.mono ?_; rintro e w1 ⟨v, rfl, h1⟩
  have H1 := Lib.hid h1
  obtain ⟨vs, vu, rfl, hs, hu, _, _, ho⟩ := h1
  obtain ⟨av, cv, rfl, _⟩ := Own.own_form hs
  obtain ⟨au, cu, rfl, _⟩ := Own.own_form hu
  have hz := (ho.block r HR.out.2 (by have := HLT.out; have := HR.out.1; omega)).trans HZ.out
  clear hs hu ho HD
  go_wp2_with (refine wpList_store_row rfl 61 _ _ rfl r #[.slice av _ cv, .slice au _ cu, .bool _, .bool _, .int .u32 _, .int .i64 _] rfl rfl 61 _ hz res_info rfl (by simp [Value.oneCell']) ?_)
  refine bodyPost_ret (results_cell_row rfl _ _ r 61 #[.slice av _ cv, .slice au _ cu, .bool _, .bool _, .int .u32 _, .int .i64 _] (0, 0) _ rfl (setRow_heap _ _ _ _ 61 (0, 0) hz) Tryd.underlying61 rfl res_info) rfl ?_
  exact ⟨_, rfl, H1.out.up HB.out HR.out.1 HR.out.2 HLT.out⟩
set_option maxRecDepth 100000 in
set_option maxHeartbeats 4000000 in
theorem recv_any (w : World) (g : Nat) (c : C) (p : P) (hg : w.heap[g]? = some (.cells (encC c) 81 (0, 0))) (hT : Rules.Tabs w) (hGL : 1 ≠ g) (hwf : (Lit.int .i64 c.state).wf = true) :
    Calls Tryd.prog 23 #[.pointer (some ⟨g, 0, none⟩), .agg (encP p)] w fun e w' => ∃ v, e = .returned v ∧ Brought w w' g (recvR c p).1 (recvR c p).2 v := by
  have hlt : g < w.heap.size := (Array.getElem?_eq_some_iff.1 hg).1
  obtain ⟨W, hW⟩ : ∃ W, W = ((w.alloc (.cells (encP p) 74)).alloc (.cells #[.slice none 0 0, .slice none 0 0, .bool false, .bool false, .int .u32 0, .int .i64 0] 61)) := ⟨_, rfl⟩
  obtain ⟨r, hr⟩ : ∃ r, w.heap.size + 1 = r := ⟨_, rfl⟩
  have hb : Below w.heap.size w W := by rw [hW]; exact (((Below.refl _ _).alloc (by (try simp) <;> (try omega)) _).alloc (by (try simp) <;> (try omega)) _)
  have hsz : W.heap.size = w.heap.size + 2 := by rw [hW]; simp
  have HZ : Hid (W.heap[r]? = some (.cells #[.slice none 0 0, .slice none 0 0, .bool false, .bool false, .int .u32 0, .int .i64 0] 61 (0, 0))) := Lib.hid (by rw [hW, ← hr]; have := heap_alloc_new (w.alloc (.cells (encP p) 74)) (.cells #[.slice none 0 0, .slice none 0 0, .bool false, .bool false, .int .u32 0, .int .i64 0] 61); simpa using this)
  have hgW := (hb.block g hlt).trans hg
  have hk : W.heap[w.heap.size]? = some (.cells (encP p) 74 (0, 0)) := by rw [hW]; exact heap_alloc2_old w _ _
  have HD := Lib.hid (bring_receive W g c w.heap.size p hgW hk (hT.below hb) hGL hwf)
  have HB := Lib.hid hb
  have HLT := Lib.hid hlt
  have HSZ := Lib.hid hsz
  have HR : Hid (w.heap.size ≤ r ∧ r < W.heap.size) := Lib.hid (by omega)
  clear hb hlt hsz hg hgW hT hGL hwf hk
  go_enter Tryd.func23, Tryd.ntmps23
  go_wp2_with fail
  rw [← hW]
  clear hW
  clear hr
  refine HD.out.mono ?_; rintro e w1 ⟨v, rfl, h1⟩
  have H1 := Lib.hid h1
  obtain ⟨vs, vu, rfl, hs, hu, _, _, ho⟩ := h1
  obtain ⟨av, cv, rfl, _⟩ := Own.own_form hs
  obtain ⟨au, cu, rfl, _⟩ := Own.own_form hu
  have hz := (ho.block r HR.out.2 (by have := HLT.out; have := HR.out.1; omega)).trans HZ.out
  clear hs hu ho HD
  go_wp2_with (refine wpList_store_row rfl 61 _ _ rfl r #[.slice av _ cv, .slice au _ cu, .bool _, .bool _, .int .u32 _, .int .i64 _] rfl rfl 61 _ hz res_info rfl (by simp [Value.oneCell']) ?_)
  refine bodyPost_ret (results_cell_row rfl _ _ r 61 #[.slice av _ cv, .slice au _ cu, .bool _, .bool _, .int .u32 _, .int .i64 _] (0, 0) _ rfl (setRow_heap _ _ _ _ 61 (0, 0) hz) Tryd.underlying61 rfl res_info) rfl ?_
  exact ⟨_, rfl, H1.out.up HB.out HR.out.1 HR.out.2 HLT.out⟩
end Go.Proofs.YtkphompjahcjiaaDoor.Conn
