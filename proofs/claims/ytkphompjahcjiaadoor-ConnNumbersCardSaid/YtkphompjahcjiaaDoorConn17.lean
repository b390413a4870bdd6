/-
  A connection: what a user asks.
-/
import Derived.Test.YtkphompjahcjiaaDoorConn16
import Derived.Test.YtkphompjahcjiaaDoorRules5L
namespace Go.Proofs.YtkphompjahcjiaaDoor.Conn
open Go.RowKit

def hasD (k : Int) : Bool := k == 1 || k == 3 || k == 4
set_option maxRecDepth 100000 in
set_option maxHeartbeats 2000000 in
theorem hasData_any (k : Int) (w : World) :
    Calls Tryd.prog 41 #[.int .i64 k] w fun e w' => e = .returned (.bool (hasD k)) ∧ w' = w := by
  by_cases h1 : k = 1
  · go_enter Tryd.func41, Tryd.ntmps41
    go_wp2_with fail
    go_ret
    exact ⟨by subst h1; rfl, rfl⟩
  by_cases h2 : k = 3
  · go_enter Tryd.func41, Tryd.ntmps41
    go_wp2_with fail
    go_ret
    exact ⟨by subst h2; rfl, rfl⟩
  by_cases h3 : k = 4
  · go_enter Tryd.func41, Tryd.ntmps41
    go_wp2_with fail
    go_ret
    exact ⟨by subst h3; rfl, rfl⟩
  · go_enter Tryd.func41, Tryd.ntmps41
    go_wp2_with fail
    go_ret
    exact ⟨rfl, rfl⟩
theorem results_row_tmp {P : Program} {fn : Func} {p u : Tmp} {ty : TypeId} (h : fn.results = #[.cell p ty, .tmp u]) (tmps : Array Value) (w : World) (g : Nat) (t : TypeId) (cs : Array Value) (fr : Nat × Nat) (d : TypeDesc)
    (hp : tmps.getD p undef = .pointer (some ⟨g, 0, none⟩)) (hg : w.heap[g]? = some (.cells cs t fr))
    (hu : P.underlying ty = some d) (hd : (match d with | .struct _ | .array _ _ => true | _ => false) = true) (hi : (P.info? ty).map (·.size) = some cs.size) :
    (results fn tmps).run P w = .ok (.tuple #[.agg cs, tmps.getD u undef]) w := by
  have hp' : tmps[p]?.getD undef = .pointer (some ⟨g, 0, none⟩) := by simpa using hp
  rw [results_cell_tmp h]
  simp [hp', asAddr, run_loadVar_row w g t ty cs fr d hg hu hd hi, Result.andThen]
def zeroR : Value := .agg #[.slice none 0 0, .slice none 0 0, .bool false, .bool false, .int .u32 0, .int .i64 0]
def reqCode (c : C) (k : Int) (d : ByteArray) : Int := if k < 1 ∨ 6 < k then 10 else if hasD k = true ∧ 64 < d.size then 6 else if Rules.mayI c.state k = false then 8 else 0
section
variable (w : World) (g : Nat) (c : C) (k : Int) (d : ByteArray) (hg : w.heap[g]? = some (.cells (encC c) 81 (0, 0)))
set_option maxRecDepth 100000 in
set_option maxHeartbeats 8000000 in
include hg in
theorem request_lo (h1 : k < 1) :
    Calls Tryd.prog 19 #[.pointer (some ⟨g, 0, none⟩), .int .i64 k, .string d] w fun e w' => e = .returned (.tuple #[zeroR, .int .i64 10]) ∧ Below w.heap.size w w' := by
  have hlt : g < w.heap.size := (Array.getElem?_eq_some_iff.1 hg).1
  obtain ⟨W, hW⟩ : ∃ W, W = (((w.alloc (.cells #[.int .i64 k] 3)).alloc (.cells #[.string d] 9)).alloc (.cells #[.slice none 0 0, .slice none 0 0, .bool false, .bool false, .int .u32 0, .int .i64 0] 61)) := ⟨_, rfl⟩
  obtain ⟨r, hr⟩ : ∃ r, w.heap.size + 1 + 1 = r := ⟨_, rfl⟩
  have hb : Below w.heap.size w W := by rw [hW]; exact ((((Below.refl _ _).alloc (by (try simp) <;> (try omega)) _).alloc (by (try simp) <;> (try omega)) _).alloc (by (try simp) <;> (try omega)) _)
  have hsz : W.heap.size = w.heap.size + 3 := by rw [hW]; simp
  have HZ : Hid (W.heap[r]? = some (.cells #[.slice none 0 0, .slice none 0 0, .bool false, .bool false, .int .u32 0, .int .i64 0] 61 (0, 0))) := Lib.hid (by rw [hW, ← hr]; have := heap_alloc_new ((w.alloc (.cells #[.int .i64 k] 3)).alloc (.cells #[.string d] 9)) (.cells #[.slice none 0 0, .slice none 0 0, .bool false, .bool false, .int .u32 0, .int .i64 0] 61); simpa using this)
  have hgW := (hb.block g hlt).trans hg
  have k0_ : W.cell? ⟨w.heap.size, 0, none⟩ = some (.int .i64 k) := by rw [hW]; exact (Own.cell_below ((Below.refl _ _).alloc (Nat.le_refl _) _) (by simp; omega)).trans ((cell_of_row _ _ _ _ _ _ (heap_alloc2_old w _ _)).trans rfl)
  have d0_ : W.cell? ⟨w.heap.size + 1, 0, none⟩ = some (.string d) := by rw [hW]; have := (cell_of_row _ _ 0 _ _ _ (heap_alloc2_old (w.alloc (.cells #[.int .i64 k] 3)) (.cells #[.string d] 9) (.cells #[.slice none 0 0, .slice none 0 0, .bool false, .bool false, .int .u32 0, .int .i64 0] 61))).trans rfl; simpa using this
  have c2_ : W.cell? ⟨g, 2, none⟩ = some (.int .i64 c.state) := (cell_of_row _ _ _ _ _ _ hgW).trans rfl
  have HB := Lib.hid hb
  have HLT := Lib.hid hlt
  have HSZ := Lib.hid hsz
  have HGW := Lib.hid hgW
  have HR : Hid (w.heap.size + 1 + 1 = r) := Lib.hid hr
  clear hb hlt hsz hg hgW hr
  go_enter Tryd.func19, Tryd.ntmps19
  go_wp2_with fail
  rw [← hW]
  clear hW
  refine bodyPost_ret (results_row_tmp rfl _ _ (w.heap.size + 1 + 1) 61 #[.slice none 0 0, .slice none 0 0, .bool false, .bool false, .int .u32 0, .int .i64 0] (0, 0) _ rfl (by rw [HR.out]; exact HZ.out) Tryd.underlying61 rfl res_info) rfl ?_
  exact ⟨rfl, HB.out⟩
set_option maxRecDepth 100000 in
set_option maxHeartbeats 8000000 in
include hg in
theorem request_hi (h0 : 1 ≤ k) (h1 : 6 < k) :
    Calls Tryd.prog 19 #[.pointer (some ⟨g, 0, none⟩), .int .i64 k, .string d] w fun e w' => e = .returned (.tuple #[zeroR, .int .i64 10]) ∧ Below w.heap.size w w' := by
  have hlt : g < w.heap.size := (Array.getElem?_eq_some_iff.1 hg).1
  obtain ⟨W, hW⟩ : ∃ W, W = (((w.alloc (.cells #[.int .i64 k] 3)).alloc (.cells #[.string d] 9)).alloc (.cells #[.slice none 0 0, .slice none 0 0, .bool false, .bool false, .int .u32 0, .int .i64 0] 61)) := ⟨_, rfl⟩
  obtain ⟨r, hr⟩ : ∃ r, w.heap.size + 1 + 1 = r := ⟨_, rfl⟩
  have hb : Below w.heap.size w W := by rw [hW]; exact ((((Below.refl _ _).alloc (by (try simp) <;> (try omega)) _).alloc (by (try simp) <;> (try omega)) _).alloc (by (try simp) <;> (try omega)) _)
  have hsz : W.heap.size = w.heap.size + 3 := by rw [hW]; simp
  have HZ : Hid (W.heap[r]? = some (.cells #[.slice none 0 0, .slice none 0 0, .bool false, .bool false, .int .u32 0, .int .i64 0] 61 (0, 0))) := Lib.hid (by rw [hW, ← hr]; have := heap_alloc_new ((w.alloc (.cells #[.int .i64 k] 3)).alloc (.cells #[.string d] 9)) (.cells #[.slice none 0 0, .slice none 0 0, .bool false, .bool false, .int .u32 0, .int .i64 0] 61); simpa using this)
  have hgW := (hb.block g hlt).trans hg
  have k0_ : W.cell? ⟨w.heap.size, 0, none⟩ = some (.int .i64 k) := by rw [hW]; exact (Own.cell_below ((Below.refl _ _).alloc (Nat.le_refl _) _) (by simp; omega)).trans ((cell_of_row _ _ _ _ _ _ (heap_alloc2_old w _ _)).trans rfl)
  have d0_ : W.cell? ⟨w.heap.size + 1, 0, none⟩ = some (.string d) := by rw [hW]; have := (cell_of_row _ _ 0 _ _ _ (heap_alloc2_old (w.alloc (.cells #[.int .i64 k] 3)) (.cells #[.string d] 9) (.cells #[.slice none 0 0, .slice none 0 0, .bool false, .bool false, .int .u32 0, .int .i64 0] 61))).trans rfl; simpa using this
  have c2_ : W.cell? ⟨g, 2, none⟩ = some (.int .i64 c.state) := (cell_of_row _ _ _ _ _ _ hgW).trans rfl
  have HB := Lib.hid hb
  have HLT := Lib.hid hlt
  have HSZ := Lib.hid hsz
  have HGW := Lib.hid hgW
  have HR : Hid (w.heap.size + 1 + 1 = r) := Lib.hid hr
  clear hb hlt hsz hg hgW hr
  go_enter Tryd.func19, Tryd.ntmps19
  go_wp2_with fail
  rw [← hW]
  clear hW
  refine bodyPost_ret (results_row_tmp rfl _ _ (w.heap.size + 1 + 1) 61 #[.slice none 0 0, .slice none 0 0, .bool false, .bool false, .int .u32 0, .int .i64 0] (0, 0) _ rfl (by rw [HR.out]; exact HZ.out) Tryd.underlying61 rfl res_info) rfl ?_
  exact ⟨rfl, HB.out⟩
set_option maxRecDepth 100000 in
set_option maxHeartbeats 8000000 in
include hg in
theorem request_big (h0 : 1 ≤ k) (h1 : k ≤ 6) (h2 : hasD k = true) (h3 : (64 : Int) < (d.size : Int)) :
    Calls Tryd.prog 19 #[.pointer (some ⟨g, 0, none⟩), .int .i64 k, .string d] w fun e w' => e = .returned (.tuple #[zeroR, .int .i64 6]) ∧ Below w.heap.size w w' := by
  have hlt : g < w.heap.size := (Array.getElem?_eq_some_iff.1 hg).1
  obtain ⟨W, hW⟩ : ∃ W, W = (((w.alloc (.cells #[.int .i64 k] 3)).alloc (.cells #[.string d] 9)).alloc (.cells #[.slice none 0 0, .slice none 0 0, .bool false, .bool false, .int .u32 0, .int .i64 0] 61)) := ⟨_, rfl⟩
  obtain ⟨r, hr⟩ : ∃ r, w.heap.size + 1 + 1 = r := ⟨_, rfl⟩
  have hb : Below w.heap.size w W := by rw [hW]; exact ((((Below.refl _ _).alloc (by (try simp) <;> (try omega)) _).alloc (by (try simp) <;> (try omega)) _).alloc (by (try simp) <;> (try omega)) _)
  have hsz : W.heap.size = w.heap.size + 3 := by rw [hW]; simp
  have HZ : Hid (W.heap[r]? = some (.cells #[.slice none 0 0, .slice none 0 0, .bool false, .bool false, .int .u32 0, .int .i64 0] 61 (0, 0))) := Lib.hid (by rw [hW, ← hr]; have := heap_alloc_new ((w.alloc (.cells #[.int .i64 k] 3)).alloc (.cells #[.string d] 9)) (.cells #[.slice none 0 0, .slice none 0 0, .bool false, .bool false, .int .u32 0, .int .i64 0] 61); simpa using this)
  have hgW := (hb.block g hlt).trans hg
  have k0_ : W.cell? ⟨w.heap.size, 0, none⟩ = some (.int .i64 k) := by rw [hW]; exact (Own.cell_below ((Below.refl _ _).alloc (Nat.le_refl _) _) (by simp; omega)).trans ((cell_of_row _ _ _ _ _ _ (heap_alloc2_old w _ _)).trans rfl)
  have d0_ : W.cell? ⟨w.heap.size + 1, 0, none⟩ = some (.string d) := by rw [hW]; have := (cell_of_row _ _ 0 _ _ _ (heap_alloc2_old (w.alloc (.cells #[.int .i64 k] 3)) (.cells #[.string d] 9) (.cells #[.slice none 0 0, .slice none 0 0, .bool false, .bool false, .int .u32 0, .int .i64 0] 61))).trans rfl; simpa using this
  have c2_ : W.cell? ⟨g, 2, none⟩ = some (.int .i64 c.state) := (cell_of_row _ _ _ _ _ _ hgW).trans rfl
  have HB := Lib.hid hb
  have HLT := Lib.hid hlt
  have HSZ := Lib.hid hsz
  have HGW := Lib.hid hgW
  have HR : Hid (w.heap.size + 1 + 1 = r) := Lib.hid hr
  have HD := Lib.hid (hasData_any k W)
  clear hb hlt hsz hg hgW hr
  go_enter Tryd.func19, Tryd.ntmps19
  go_wp2_with fail
  rw [← hW]
  clear hW
  refine HD.out.mono ?_; rintro e w1 ⟨rfl, rfl⟩
  rw [h2]
  clear HD
  have hz : w1.heap[w.heap.size + 1 + 1]? = some (.cells #[.slice none 0 0, .slice none 0 0, .bool false, .bool false, .int .u32 0, .int .i64 0] 61 (0, 0)) := by rw [HR.out]; exact HZ.out
  go_wp2_with (refine wpList_store_row rfl 61 _ _ rfl (w.heap.size + 1 + 1) #[.slice none 0 0, .slice none 0 0, .bool false, .bool false, .int .u32 0, .int .i64 0] rfl rfl 61 _ hz res_info rfl (by simp [Value.oneCell']) ?_)
  refine bodyPost_ret (results_row_tmp rfl _ _ (w.heap.size + 1 + 1) 61 #[.slice none 0 0, .slice none 0 0, .bool false, .bool false, .int .u32 0, .int .i64 0] (0, 0) _ rfl (setRow_heap _ _ _ _ 61 (0, 0) hz) Tryd.underlying61 rfl res_info) rfl ?_
  exact ⟨rfl, below_setRow HB.out (by omega) _⟩
set_option maxRecDepth 100000 in
set_option maxHeartbeats 8000000 in
include hg in
theorem request_no0 (h0 : 1 ≤ k) (h1 : k ≤ 6) (h2 : hasD k = false) (h4 : Rules.mayI c.state k = false) :
    Calls Tryd.prog 19 #[.pointer (some ⟨g, 0, none⟩), .int .i64 k, .string d] w fun e w' => e = .returned (.tuple #[zeroR, .int .i64 8]) ∧ Below w.heap.size w w' := by
  have hlt : g < w.heap.size := (Array.getElem?_eq_some_iff.1 hg).1
  obtain ⟨W, hW⟩ : ∃ W, W = (((w.alloc (.cells #[.int .i64 k] 3)).alloc (.cells #[.string d] 9)).alloc (.cells #[.slice none 0 0, .slice none 0 0, .bool false, .bool false, .int .u32 0, .int .i64 0] 61)) := ⟨_, rfl⟩
  obtain ⟨r, hr⟩ : ∃ r, w.heap.size + 1 + 1 = r := ⟨_, rfl⟩
  have hb : Below w.heap.size w W := by rw [hW]; exact ((((Below.refl _ _).alloc (by (try simp) <;> (try omega)) _).alloc (by (try simp) <;> (try omega)) _).alloc (by (try simp) <;> (try omega)) _)
  have hsz : W.heap.size = w.heap.size + 3 := by rw [hW]; simp
  have HZ : Hid (W.heap[r]? = some (.cells #[.slice none 0 0, .slice none 0 0, .bool false, .bool false, .int .u32 0, .int .i64 0] 61 (0, 0))) := Lib.hid (by rw [hW, ← hr]; have := heap_alloc_new ((w.alloc (.cells #[.int .i64 k] 3)).alloc (.cells #[.string d] 9)) (.cells #[.slice none 0 0, .slice none 0 0, .bool false, .bool false, .int .u32 0, .int .i64 0] 61); simpa using this)
  have hgW := (hb.block g hlt).trans hg
  have k0_ : W.cell? ⟨w.heap.size, 0, none⟩ = some (.int .i64 k) := by rw [hW]; exact (Own.cell_below ((Below.refl _ _).alloc (Nat.le_refl _) _) (by simp; omega)).trans ((cell_of_row _ _ _ _ _ _ (heap_alloc2_old w _ _)).trans rfl)
  have d0_ : W.cell? ⟨w.heap.size + 1, 0, none⟩ = some (.string d) := by rw [hW]; have := (cell_of_row _ _ 0 _ _ _ (heap_alloc2_old (w.alloc (.cells #[.int .i64 k] 3)) (.cells #[.string d] 9) (.cells #[.slice none 0 0, .slice none 0 0, .bool false, .bool false, .int .u32 0, .int .i64 0] 61))).trans rfl; simpa using this
  have c2_ : W.cell? ⟨g, 2, none⟩ = some (.int .i64 c.state) := (cell_of_row _ _ _ _ _ _ hgW).trans rfl
  have HB := Lib.hid hb
  have HLT := Lib.hid hlt
  have HSZ := Lib.hid hsz
  have HGW := Lib.hid hgW
  have HR : Hid (w.heap.size + 1 + 1 = r) := Lib.hid hr
  have HD := Lib.hid (hasData_any k W)
  have HM : Hid (∀ n, Calls Tryd.prog 42 #[.int .i64 c.state, .int .i64 k] (W.drewN n) fun e w2 => e = .returned (.bool (Rules.mayI c.state k)) ∧ Below W.heap.size W w2) := Lib.hid fun n => (Rules.may_any c.state k _).mono fun e w2 h => ⟨h.1, (show Below W.heap.size W (W.drewN n) from ⟨rfl, rfl, rfl, Nat.le_refl _, fun _ _ => rfl⟩).trans (show Below W.heap.size (W.drewN n) w2 from h.2)⟩
  clear hb hlt hsz hg hgW hr
  go_enter Tryd.func19, Tryd.ntmps19
  go_wp2_with fail
  rw [← hW]
  clear hW
  refine HD.out.mono ?_; rintro e w1 ⟨rfl, rfl⟩
  rw [h2]
  clear HD
  go_wp2_with fail
  refine QT.region_quiet_tail 5 (by kernel_rfl) (by decide) (by kernel_rfl) ?_
  simp only [List.take_succ_cons, List.take_zero, List.drop_succ_cons, List.drop_zero]
  repeat (go_big_quiet_step (fail))
  refine wpQuiet_nil ?_
  intro _ hw'
  obtain ⟨nq, rfl⟩ := hw'
  go_wp2_with fail
  refine (HM.out _).mono ?_; rintro e w2 ⟨rfl, hb2⟩
  rw [h4]
  have HB2 := Lib.hid hb2
  clear HM
  clear hb2
  have hz : w2.heap[w.heap.size + 1 + 1]? = some (.cells #[.slice none 0 0, .slice none 0 0, .bool false, .bool false, .int .u32 0, .int .i64 0] 61 (0, 0)) := (HB2.out.block (w.heap.size + 1 + 1) (by rw [HSZ.out]; omega)).trans (by rw [HR.out]; exact HZ.out)
  go_wp2_with (refine wpList_store_row rfl 61 _ _ rfl (w.heap.size + 1 + 1) #[.slice none 0 0, .slice none 0 0, .bool false, .bool false, .int .u32 0, .int .i64 0] rfl rfl 61 _ hz res_info rfl (by simp [Value.oneCell']) ?_)
  refine bodyPost_ret (results_row_tmp rfl _ _ (w.heap.size + 1 + 1) 61 #[.slice none 0 0, .slice none 0 0, .bool false, .bool false, .int .u32 0, .int .i64 0] (0, 0) _ rfl (setRow_heap _ _ _ _ 61 (0, 0) hz) Tryd.underlying61 rfl res_info) rfl ?_
  exact ⟨rfl, below_setRow (HB.out.trans (HB2.out.mono (by rw [HSZ.out]; omega))) (by omega) _⟩
set_option maxRecDepth 100000 in
set_option maxHeartbeats 8000000 in
include hg in
theorem request_no1 (h0 : 1 ≤ k) (h1 : k ≤ 6) (h2 : hasD k = true) (h3 : ¬ (64 : Int) < (d.size : Int)) (h4 : Rules.mayI c.state k = false) :
    Calls Tryd.prog 19 #[.pointer (some ⟨g, 0, none⟩), .int .i64 k, .string d] w fun e w' => e = .returned (.tuple #[zeroR, .int .i64 8]) ∧ Below w.heap.size w w' := by
  have hlt : g < w.heap.size := (Array.getElem?_eq_some_iff.1 hg).1
  obtain ⟨W, hW⟩ : ∃ W, W = (((w.alloc (.cells #[.int .i64 k] 3)).alloc (.cells #[.string d] 9)).alloc (.cells #[.slice none 0 0, .slice none 0 0, .bool false, .bool false, .int .u32 0, .int .i64 0] 61)) := ⟨_, rfl⟩
  obtain ⟨r, hr⟩ : ∃ r, w.heap.size + 1 + 1 = r := ⟨_, rfl⟩
  have hb : Below w.heap.size w W := by rw [hW]; exact ((((Below.refl _ _).alloc (by (try simp) <;> (try omega)) _).alloc (by (try simp) <;> (try omega)) _).alloc (by (try simp) <;> (try omega)) _)
  have hsz : W.heap.size = w.heap.size + 3 := by rw [hW]; simp
  have HZ : Hid (W.heap[r]? = some (.cells #[.slice none 0 0, .slice none 0 0, .bool false, .bool false, .int .u32 0, .int .i64 0] 61 (0, 0))) := Lib.hid (by rw [hW, ← hr]; have := heap_alloc_new ((w.alloc (.cells #[.int .i64 k] 3)).alloc (.cells #[.string d] 9)) (.cells #[.slice none 0 0, .slice none 0 0, .bool false, .bool false, .int .u32 0, .int .i64 0] 61); simpa using this)
  have hgW := (hb.block g hlt).trans hg
  have k0_ : W.cell? ⟨w.heap.size, 0, none⟩ = some (.int .i64 k) := by rw [hW]; exact (Own.cell_below ((Below.refl _ _).alloc (Nat.le_refl _) _) (by simp; omega)).trans ((cell_of_row _ _ _ _ _ _ (heap_alloc2_old w _ _)).trans rfl)
  have d0_ : W.cell? ⟨w.heap.size + 1, 0, none⟩ = some (.string d) := by rw [hW]; have := (cell_of_row _ _ 0 _ _ _ (heap_alloc2_old (w.alloc (.cells #[.int .i64 k] 3)) (.cells #[.string d] 9) (.cells #[.slice none 0 0, .slice none 0 0, .bool false, .bool false, .int .u32 0, .int .i64 0] 61))).trans rfl; simpa using this
  have c2_ : W.cell? ⟨g, 2, none⟩ = some (.int .i64 c.state) := (cell_of_row _ _ _ _ _ _ hgW).trans rfl
  have HB := Lib.hid hb
  have HLT := Lib.hid hlt
  have HSZ := Lib.hid hsz
  have HGW := Lib.hid hgW
  have HR : Hid (w.heap.size + 1 + 1 = r) := Lib.hid hr
  have HD := Lib.hid (hasData_any k W)
  have HM : Hid (∀ n, Calls Tryd.prog 42 #[.int .i64 c.state, .int .i64 k] (W.drewN n) fun e w2 => e = .returned (.bool (Rules.mayI c.state k)) ∧ Below W.heap.size W w2) := Lib.hid fun n => (Rules.may_any c.state k _).mono fun e w2 h => ⟨h.1, (show Below W.heap.size W (W.drewN n) from ⟨rfl, rfl, rfl, Nat.le_refl _, fun _ _ => rfl⟩).trans (show Below W.heap.size (W.drewN n) w2 from h.2)⟩
  clear hb hlt hsz hg hgW hr
  go_enter Tryd.func19, Tryd.ntmps19
  go_wp2_with fail
  rw [← hW]
  clear hW
  refine HD.out.mono ?_; rintro e w1 ⟨rfl, rfl⟩
  rw [h2]
  clear HD
  go_wp2_with fail
  refine QT.region_quiet_tail 5 (by kernel_rfl) (by decide) (by kernel_rfl) ?_
  simp only [List.take_succ_cons, List.take_zero, List.drop_succ_cons, List.drop_zero]
  repeat (go_big_quiet_step (fail))
  refine wpQuiet_nil ?_
  intro _ hw'
  obtain ⟨nq, rfl⟩ := hw'
  go_wp2_with fail
  refine (HM.out _).mono ?_; rintro e w2 ⟨rfl, hb2⟩
  rw [h4]
  have HB2 := Lib.hid hb2
  clear HM
  clear hb2
  have hz : w2.heap[w.heap.size + 1 + 1]? = some (.cells #[.slice none 0 0, .slice none 0 0, .bool false, .bool false, .int .u32 0, .int .i64 0] 61 (0, 0)) := (HB2.out.block (w.heap.size + 1 + 1) (by rw [HSZ.out]; omega)).trans (by rw [HR.out]; exact HZ.out)
  go_wp2_with (refine wpList_store_row rfl 61 _ _ rfl (w.heap.size + 1 + 1) #[.slice none 0 0, .slice none 0 0, .bool false, .bool false, .int .u32 0, .int .i64 0] rfl rfl 61 _ hz res_info rfl (by simp [Value.oneCell']) ?_)
  refine bodyPost_ret (results_row_tmp rfl _ _ (w.heap.size + 1 + 1) 61 #[.slice none 0 0, .slice none 0 0, .bool false, .bool false, .int .u32 0, .int .i64 0] (0, 0) _ rfl (setRow_heap _ _ _ _ 61 (0, 0) hz) Tryd.underlying61 rfl res_info) rfl ?_
  exact ⟨rfl, below_setRow (HB.out.trans (HB2.out.mono (by rw [HSZ.out]; omega))) (by omega) _⟩
set_option maxRecDepth 100000 in
set_option maxHeartbeats 8000000 in
include hg in
theorem request_ok0 (h0 : 1 ≤ k) (h1 : k ≤ 6) (h2 : hasD k = false) (h4 : Rules.mayI c.state k = true) (hq : 0 ≤ c.sq ∧ c.sq ≤ 255) :
    Calls Tryd.prog 19 #[.pointer (some ⟨g, 0, none⟩), .int .i64 k, .string d] w fun e w' => ∃ v, e = .returned (.tuple #[v, .int .i64 0]) ∧ Brought w w' g (reqR c k d).1 (reqR c k d).2 v := by
  have HQ := Lib.hid hq
  clear hq
  have hlt : g < w.heap.size := (Array.getElem?_eq_some_iff.1 hg).1
  obtain ⟨W, hW⟩ : ∃ W, W = (((w.alloc (.cells #[.int .i64 k] 3)).alloc (.cells #[.string d] 9)).alloc (.cells #[.slice none 0 0, .slice none 0 0, .bool false, .bool false, .int .u32 0, .int .i64 0] 61)) := ⟨_, rfl⟩
  obtain ⟨r, hr⟩ : ∃ r, w.heap.size + 1 + 1 = r := ⟨_, rfl⟩
  have hb : Below w.heap.size w W := by rw [hW]; exact ((((Below.refl _ _).alloc (by (try simp) <;> (try omega)) _).alloc (by (try simp) <;> (try omega)) _).alloc (by (try simp) <;> (try omega)) _)
  have hsz : W.heap.size = w.heap.size + 3 := by rw [hW]; simp
  have HZ : Hid (W.heap[r]? = some (.cells #[.slice none 0 0, .slice none 0 0, .bool false, .bool false, .int .u32 0, .int .i64 0] 61 (0, 0))) := Lib.hid (by rw [hW, ← hr]; have := heap_alloc_new ((w.alloc (.cells #[.int .i64 k] 3)).alloc (.cells #[.string d] 9)) (.cells #[.slice none 0 0, .slice none 0 0, .bool false, .bool false, .int .u32 0, .int .i64 0] 61); simpa using this)
  have hgW := (hb.block g hlt).trans hg
  have k0_ : W.cell? ⟨w.heap.size, 0, none⟩ = some (.int .i64 k) := by rw [hW]; exact (Own.cell_below ((Below.refl _ _).alloc (Nat.le_refl _) _) (by simp; omega)).trans ((cell_of_row _ _ _ _ _ _ (heap_alloc2_old w _ _)).trans rfl)
  have d0_ : W.cell? ⟨w.heap.size + 1, 0, none⟩ = some (.string d) := by rw [hW]; have := (cell_of_row _ _ 0 _ _ _ (heap_alloc2_old (w.alloc (.cells #[.int .i64 k] 3)) (.cells #[.string d] 9) (.cells #[.slice none 0 0, .slice none 0 0, .bool false, .bool false, .int .u32 0, .int .i64 0] 61))).trans rfl; simpa using this
  have c2_ : W.cell? ⟨g, 2, none⟩ = some (.int .i64 c.state) := (cell_of_row _ _ _ _ _ _ hgW).trans rfl
  have HB := Lib.hid hb
  have HLT := Lib.hid hlt
  have HSZ := Lib.hid hsz
  have HGW := Lib.hid hgW
  have HR : Hid (w.heap.size + 1 + 1 = r) := Lib.hid hr
  have HD := Lib.hid (hasData_any k W)
  have HM : Hid (∀ n, Calls Tryd.prog 42 #[.int .i64 c.state, .int .i64 k] (W.drewN n) fun e w2 => e = .returned (.bool (Rules.mayI c.state k)) ∧ Below W.heap.size W w2) := Lib.hid fun n => (Rules.may_any c.state k _).mono fun e w2 h => ⟨h.1, (show Below W.heap.size W (W.drewN n) from ⟨rfl, rfl, rfl, Nat.le_refl _, fun _ _ => rfl⟩).trans (show Below W.heap.size (W.drewN n) w2 from h.2)⟩
  clear hb hlt hsz hg hgW hr
  go_enter Tryd.func19, Tryd.ntmps19
  go_wp2_with fail
  rw [← hW]
  clear hW
  refine HD.out.mono ?_; rintro e w1 ⟨rfl, rfl⟩
  rw [h2]
  clear HD
  go_wp2_with fail
  refine QT.region_quiet_tail 5 (by kernel_rfl) (by decide) (by kernel_rfl) ?_
  simp only [List.take_succ_cons, List.take_zero, List.drop_succ_cons, List.drop_zero]
  repeat (go_big_quiet_step (fail))
  refine wpQuiet_nil ?_
  intro _ hw'
  obtain ⟨nq, rfl⟩ := hw'
  go_wp2_with fail
  refine (HM.out _).mono ?_; rintro e w2 ⟨rfl, hb2⟩
  rw [h4]
  have HB2 := Lib.hid hb2
  have hl1 : w.heap.size < w2.heap.size := by have := hb2.size; have := HSZ.out; omega
  have hl2 : w.heap.size + 1 < w2.heap.size := by have := hb2.size; have := HSZ.out; omega
  have HP := Lib.hid (bring_request w2 g c w.heap.size (w.heap.size + 1) k d ((hb2.block g (by have := HLT.out; have := HSZ.out; omega)).trans HGW.out) ((Own.cell_below hb2 (by have := HSZ.out; omega)).trans k0_) hl1 ((Own.cell_below hb2 (by have := HSZ.out; omega)).trans d0_) hl2 HQ.out)
  have HZ2 := Lib.hid ((hb2.block r (by have := HSZ.out; have := HR.out; omega)).trans HZ.out)
  clear HM hl1 hl2 hb2
  go_wp2_with fail
  rw [show w.heap.size + 1 + 1 = r from HR.out]
  refine HP.out.mono ?_; rintro e w3 ⟨v, rfl, h1⟩
  have H1 := Lib.hid h1
  obtain ⟨vs, vu, rfl, hs, hu, _, _, ho⟩ := h1
  obtain ⟨av, cv, rfl, _⟩ := Own.own_form hs
  obtain ⟨au, cu, rfl, _⟩ := Own.own_form hu
  have hz := (ho.block r (by have := HB2.out.size; have := HSZ.out; have := HR.out; omega) (by have := HLT.out; have := HR.out; omega)).trans HZ2.out
  clear hs hu ho HP
  go_wp2_with (refine wpList_store_row rfl 61 _ _ rfl r #[.slice av _ cv, .slice au _ cu, .bool _, .bool _, .int .u32 _, .int .i64 _] rfl rfl 61 _ hz res_info rfl (by simp [Value.oneCell']) ?_)
  refine bodyPost_ret (results_row_tmp rfl _ _ r 61 #[.slice av _ cv, .slice au _ cu, .bool _, .bool _, .int .u32 _, .int .i64 _] (0, 0) _ rfl (setRow_heap _ _ _ _ 61 (0, 0) hz) Tryd.underlying61 rfl res_info) rfl ?_
  exact ⟨_, rfl, H1.out.up (HB.out.trans (HB2.out.mono (by rw [HSZ.out]; omega))) (by have := HR.out; omega) (by have := HB2.out.size; have := HSZ.out; have := HR.out; omega) HLT.out⟩
set_option maxRecDepth 100000 in
set_option maxHeartbeats 8000000 in
include hg in
theorem request_ok1 (h0 : 1 ≤ k) (h1 : k ≤ 6) (h2 : hasD k = true) (h3 : ¬ (64 : Int) < (d.size : Int)) (h4 : Rules.mayI c.state k = true) (hq : 0 ≤ c.sq ∧ c.sq ≤ 255) :
    Calls Tryd.prog 19 #[.pointer (some ⟨g, 0, none⟩), .int .i64 k, .string d] w fun e w' => ∃ v, e = .returned (.tuple #[v, .int .i64 0]) ∧ Brought w w' g (reqR c k d).1 (reqR c k d).2 v := by
  have HQ := Lib.hid hq
  clear hq
  have hlt : g < w.heap.size := (Array.getElem?_eq_some_iff.1 hg).1
  obtain ⟨W, hW⟩ : ∃ W, W = (((w.alloc (.cells #[.int .i64 k] 3)).alloc (.cells #[.string d] 9)).alloc (.cells #[.slice none 0 0, .slice none 0 0, .bool false, .bool false, .int .u32 0, .int .i64 0] 61)) := ⟨_, rfl⟩
  obtain ⟨r, hr⟩ : ∃ r, w.heap.size + 1 + 1 = r := ⟨_, rfl⟩
  have hb : Below w.heap.size w W := by rw [hW]; exact ((((Below.refl _ _).alloc (by (try simp) <;> (try omega)) _).alloc (by (try simp) <;> (try omega)) _).alloc (by (try simp) <;> (try omega)) _)
  have hsz : W.heap.size = w.heap.size + 3 := by rw [hW]; simp
  have HZ : Hid (W.heap[r]? = some (.cells #[.slice none 0 0, .slice none 0 0, .bool false, .bool false, .int .u32 0, .int .i64 0] 61 (0, 0))) := Lib.hid (by rw [hW, ← hr]; have := heap_alloc_new ((w.alloc (.cells #[.int .i64 k] 3)).alloc (.cells #[.string d] 9)) (.cells #[.slice none 0 0, .slice none 0 0, .bool false, .bool false, .int .u32 0, .int .i64 0] 61); simpa using this)
  have hgW := (hb.block g hlt).trans hg
  have k0_ : W.cell? ⟨w.heap.size, 0, none⟩ = some (.int .i64 k) := by rw [hW]; exact (Own.cell_below ((Below.refl _ _).alloc (Nat.le_refl _) _) (by simp; omega)).trans ((cell_of_row _ _ _ _ _ _ (heap_alloc2_old w _ _)).trans rfl)
  have d0_ : W.cell? ⟨w.heap.size + 1, 0, none⟩ = some (.string d) := by rw [hW]; have := (cell_of_row _ _ 0 _ _ _ (heap_alloc2_old (w.alloc (.cells #[.int .i64 k] 3)) (.cells #[.string d] 9) (.cells #[.slice none 0 0, .slice none 0 0, .bool false, .bool false, .int .u32 0, .int .i64 0] 61))).trans rfl; simpa using this
  have c2_ : W.cell? ⟨g, 2, none⟩ = some (.int .i64 c.state) := (cell_of_row _ _ _ _ _ _ hgW).trans rfl
  have HB := Lib.hid hb
  have HLT := Lib.hid hlt
  have HSZ := Lib.hid hsz
  have HGW := Lib.hid hgW
  have HR : Hid (w.heap.size + 1 + 1 = r) := Lib.hid hr
  have HD := Lib.hid (hasData_any k W)
  have HM : Hid (∀ n, Calls Tryd.prog 42 #[.int .i64 c.state, .int .i64 k] (W.drewN n) fun e w2 => e = .returned (.bool (Rules.mayI c.state k)) ∧ Below W.heap.size W w2) := Lib.hid fun n => (Rules.may_any c.state k _).mono fun e w2 h => ⟨h.1, (show Below W.heap.size W (W.drewN n) from ⟨rfl, rfl, rfl, Nat.le_refl _, fun _ _ => rfl⟩).trans (show Below W.heap.size (W.drewN n) w2 from h.2)⟩
  clear hb hlt hsz hg hgW hr
  go_enter Tryd.func19, Tryd.ntmps19
  go_wp2_with fail
  rw [← hW]
  clear hW
  refine HD.out.mono ?_; rintro e w1 ⟨rfl, rfl⟩
  rw [h2]
  clear HD
  go_wp2_with fail
  refine QT.region_quiet_tail 5 (by kernel_rfl) (by decide) (by kernel_rfl) ?_
  simp only [List.take_succ_cons, List.take_zero, List.drop_succ_cons, List.drop_zero]
  repeat (go_big_quiet_step (fail))
  refine wpQuiet_nil ?_
  intro _ hw'
  obtain ⟨nq, rfl⟩ := hw'
  go_wp2_with fail
  refine (HM.out _).mono ?_; rintro e w2 ⟨rfl, hb2⟩
  rw [h4]
  have HB2 := Lib.hid hb2
  have hl1 : w.heap.size < w2.heap.size := by have := hb2.size; have := HSZ.out; omega
  have hl2 : w.heap.size + 1 < w2.heap.size := by have := hb2.size; have := HSZ.out; omega
  have HP := Lib.hid (bring_request w2 g c w.heap.size (w.heap.size + 1) k d ((hb2.block g (by have := HLT.out; have := HSZ.out; omega)).trans HGW.out) ((Own.cell_below hb2 (by have := HSZ.out; omega)).trans k0_) hl1 ((Own.cell_below hb2 (by have := HSZ.out; omega)).trans d0_) hl2 HQ.out)
  have HZ2 := Lib.hid ((hb2.block r (by have := HSZ.out; have := HR.out; omega)).trans HZ.out)
  clear HM hl1 hl2 hb2
  go_wp2_with fail
  rw [show w.heap.size + 1 + 1 = r from HR.out]
  refine HP.out.mono ?_; rintro e w3 ⟨v, rfl, h1⟩
  have H1 := Lib.hid h1
  obtain ⟨vs, vu, rfl, hs, hu, _, _, ho⟩ := h1
  obtain ⟨av, cv, rfl, _⟩ := Own.own_form hs
  obtain ⟨au, cu, rfl, _⟩ := Own.own_form hu
  have hz := (ho.block r (by have := HB2.out.size; have := HSZ.out; have := HR.out; omega) (by have := HLT.out; have := HR.out; omega)).trans HZ2.out
  clear hs hu ho HP
  go_wp2_with (refine wpList_store_row rfl 61 _ _ rfl r #[.slice av _ cv, .slice au _ cu, .bool _, .bool _, .int .u32 _, .int .i64 _] rfl rfl 61 _ hz res_info rfl (by simp [Value.oneCell']) ?_)
  refine bodyPost_ret (results_row_tmp rfl _ _ r 61 #[.slice av _ cv, .slice au _ cu, .bool _, .bool _, .int .u32 _, .int .i64 _] (0, 0) _ rfl (setRow_heap _ _ _ _ 61 (0, 0) hz) Tryd.underlying61 rfl res_info) rfl ?_
  exact ⟨_, rfl, H1.out.up (HB.out.trans (HB2.out.mono (by rw [HSZ.out]; omega))) (by have := HR.out; omega) (by have := HB2.out.size; have := HSZ.out; have := HR.out; omega) HLT.out⟩
end
end Go.Proofs.YtkphompjahcjiaaDoor.Conn
