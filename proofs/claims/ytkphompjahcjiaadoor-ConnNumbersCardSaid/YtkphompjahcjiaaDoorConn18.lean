/-
  A connection: its beginning, its numbers, its copy.
-/
import Derived.Test.YtkphompjahcjiaaDoorConn17
namespace Go.Proofs.YtkphompjahcjiaaDoor.Conn
open Go.RowKit

theorem vars_info : (Tryd.prog.info? 46).map (·.size) = some 5 := by kernel_rfl
set_option maxRecDepth 100000 in
set_option maxHeartbeats 2000000 in
theorem vars_any (w : World) (g : Nat) (c : C) (hg : w.heap[g]? = some (.cells (encC c) 81 (0, 0))) :
    Calls Tryd.prog 16 #[.pointer (some ⟨g, 0, none⟩)] w fun e w' => e = .returned (.agg #[.int .i64 c.state, .int .i64 c.sq, .int .i64 c.peer, .int .i64 c.cc, .int .u32 c.ms]) ∧ Below w.heap.size w w' := by
  have c2_ : w.cell? ⟨g, 2, none⟩ = some (.int .i64 c.state) := (cell_of_row _ _ _ _ _ _ hg).trans rfl
  have c3_ : w.cell? ⟨g, 3, none⟩ = some (.int .i64 c.sq) := (cell_of_row _ _ _ _ _ _ hg).trans rfl
  have c4_ : w.cell? ⟨g, 4, none⟩ = some (.int .i64 c.peer) := (cell_of_row _ _ _ _ _ _ hg).trans rfl
  have c5_ : w.cell? ⟨g, 5, none⟩ = some (.int .u32 c.ms) := (cell_of_row _ _ _ _ _ _ hg).trans rfl
  have c6_ : w.cell? ⟨g, 6, none⟩ = some (.int .i64 c.cc) := (cell_of_row _ _ _ _ _ _ hg).trans rfl
  have HLT : Hid (g < w.heap.size) := Lib.hid (Array.getElem?_eq_some_iff.1 hg).1
  clear hg
  go_enter Tryd.func16, Tryd.ntmps16
  go_wp2_with fail
  have hz := heap_alloc_new w (.cells #[.int .i64 0, .int .i64 0, .int .i64 0, .int .i64 0, .int .u32 0] 46)
  have hb : Below w.heap.size w (w.alloc (.cells #[.int .i64 0, .int .i64 0, .int .i64 0, .int .i64 0, .int .u32 0] 46)) := (Below.refl _ w).alloc (Nat.le_refl _) _
  have HB := Lib.hid hb
  replace c2_ := (Own.cell_below hb HLT.out).trans c2_
  replace c3_ := (Own.cell_below hb HLT.out).trans c3_
  replace c4_ := (Own.cell_below hb HLT.out).trans c4_
  replace c5_ := (Own.cell_below hb HLT.out).trans c5_
  replace c6_ := (Own.cell_below hb HLT.out).trans c6_
  clear hb
  generalize w.alloc (.cells #[.int .i64 0, .int .i64 0, .int .i64 0, .int .i64 0, .int .u32 0] 46) = W at *
  go_still_tail 20, (by kernel_rfl)
  change wpList _ _ _ _ _ W.drew
  have hz2 : W.drew.heap[w.heap.size]? = _ := hz
  clear hz
  go_wp2_with (refine wpList_store_row rfl 46 _ _ rfl w.heap.size #[.int .i64 c.state, .int .i64 c.sq, .int .i64 c.peer, .int .i64 c.cc, .int .u32 c.ms] rfl rfl 46 _ hz2 vars_info rfl (by simp [Value.oneCell']) ?_)
  refine bodyPost_ret (results_cell_row rfl _ _ w.heap.size 46 _ (0, 0) _ rfl (setRow_heap _ _ _ _ 46 (0, 0) hz2) Tryd.underlying46 rfl vars_info) rfl ?_
  exact ⟨rfl, below_setRow (HB.out.trans (show Below w.heap.size W W.drew from ⟨rfl, rfl, rfl, Nat.le_refl _, fun _ _ => rfl⟩)) (Nat.le_refl _) _⟩
set_option maxRecDepth 100000 in
set_option maxHeartbeats 2000000 in
theorem clone_any (w : World) (g : Nat) (c : C) (hg : w.heap[g]? = some (.cells (encC c) 81 (0, 0))) :
    Calls Tryd.prog 32 #[.pointer (some ⟨g, 0, none⟩)] w fun e w' => ∃ g', w.heap.size ≤ g' ∧ e = .returned (.pointer (some ⟨g', 0, none⟩)) ∧ w'.heap[g']? = some (.cells (encC c) 81 (0, 0)) ∧ Below w.heap.size w w' := by
  have e0_ : w.cell? ⟨g, 0, none⟩ = some (.int .i64 c.most) := (cell_of_row _ _ _ _ _ _ hg).trans rfl
  have e1_ : w.cell? ⟨g, 1, none⟩ = some (.int .u32 c.credit) := (cell_of_row _ _ _ _ _ _ hg).trans rfl
  have e2_ : w.cell? ⟨g, 2, none⟩ = some (.int .i64 c.state) := (cell_of_row _ _ _ _ _ _ hg).trans rfl
  have e3_ : w.cell? ⟨g, 3, none⟩ = some (.int .i64 c.sq) := (cell_of_row _ _ _ _ _ _ hg).trans rfl
  have e4_ : w.cell? ⟨g, 4, none⟩ = some (.int .i64 c.peer) := (cell_of_row _ _ _ _ _ _ hg).trans rfl
  have e5_ : w.cell? ⟨g, 5, none⟩ = some (.int .u32 c.ms) := (cell_of_row _ _ _ _ _ _ hg).trans rfl
  have e6_ : w.cell? ⟨g, 6, none⟩ = some (.int .i64 c.cc) := (cell_of_row _ _ _ _ _ _ hg).trans rfl
  have e7_ : w.cell? ⟨g, 7, none⟩ = some (.string c.data) := (cell_of_row _ _ _ _ _ _ hg).trans rfl
  clear hg
  go_enter Tryd.func32, Tryd.ntmps32
  go_wp2_with fail
  go_ret
  exact ⟨_, Nat.le_refl _, rfl, heap_alloc_new w _, (Below.refl _ _).alloc (Nat.le_refl _) _⟩
theorem mask24 (a : Int) (h1 : 0 ≤ a) (h2 : a < 4294967296) : bits .and .u32 a 16777215 = a % 16777216 := by
  rw [u32_and a 16777215 h1 h2 (by omega) (by omega)]
  have : a.toNat &&& (16777215 : Int).toNat = a.toNat % 16777216 := nat_mask24 _
  rw [this]; omega
theorem low_any (a : Int) (w : World) (h1 : 0 ≤ a) (h2 : a < 4294967296) :
    Calls Tryd.prog 25 #[.int .u32 a] w fun e w' => e = .returned (.int .u32 (a % 16777216)) ∧ w = w' := by
  go_enter Tryd.func25, Tryd.ntmps25
  go_wp2
  go_ret
  exact ⟨congrArg (fun x => Ending.returned (.int .u32 x)) (mask24 a h1 h2), rfl⟩

def newC (most credit : Int) : C := ⟨min (max most 1) 16, credit % 16777216, 1, 0, -1, credit % 16777216, 0, noD⟩
theorem new_enc (a b l m : Int) (h : m = min (max a 1) 16) (hl : b % 16777216 = l) : encC (newC a b) = #[.int .i64 m, .int .u32 l, .int .i64 1, .int .i64 0, .int .i64 (-1), .int .u32 l, .int .i64 0, .string ⟨#[]⟩] := by
  subst h; subst hl; rfl
set_option maxRecDepth 100000 in
set_option maxHeartbeats 2000000 in
theorem new_any (w : World) (a b : Int) (hb : 0 ≤ b ∧ b < 4294967296) :
    Calls Tryd.prog 11 #[.agg #[.int .i64 a, .int .u32 b]] w fun e w' => ∃ g', w.heap.size ≤ g' ∧ e = .returned (.pointer (some ⟨g', 0, none⟩)) ∧ w'.heap[g']? = some (.cells (encC (newC a b)) 81 (0, 0)) ∧ Below w.heap.size w w' := by
  go_enter Tryd.func11, Tryd.ntmps11
  go_wp2_with fail
  refine (low_any b _ hb.1 hb.2).mono ?_; rintro e w1 ⟨rfl, rfl⟩
  clear hb
  obtain ⟨l, hl⟩ : ∃ l, b % 16777216 = l := ⟨_, rfl⟩
  rw [hl]
  have HL := Lib.hid hl
  clear hl
  rcases show a < 1 ∨ (1 ≤ a ∧ a < 16) ∨ a = 16 ∨ 16 < a by omega with h1 | ⟨h1, h2⟩ | h1 | h1
  · have e := new_enc a b l 1 (by omega) HL.out
    go_wp2_with fail
    go_ret
    exact ⟨w.heap.size + 1, by omega, rfl, (by rw [e]; have := heap_alloc_new (w.alloc (.cells #[.int .i64 a, .int .u32 b] 29)) (.cells #[.int .i64 1, .int .u32 l, .int .i64 1, .int .i64 0, .int .i64 (-1), .int .u32 l, .int .i64 0, .string ⟨#[]⟩] 81); simpa using this), ((Below.refl _ _).alloc (Nat.le_refl _) _).alloc (by simp) _⟩
  · have e := new_enc a b l a (by omega) HL.out
    go_wp2_with fail
    go_ret
    exact ⟨w.heap.size + 1, by omega, rfl, (by rw [e]; have := heap_alloc_new (w.alloc (.cells #[.int .i64 a, .int .u32 b] 29)) (.cells #[.int .i64 a, .int .u32 l, .int .i64 1, .int .i64 0, .int .i64 (-1), .int .u32 l, .int .i64 0, .string ⟨#[]⟩] 81); simpa using this), ((Below.refl _ _).alloc (Nat.le_refl _) _).alloc (by simp) _⟩
  · subst h1
    have e := new_enc 16 b l 16 (by omega) HL.out
    go_wp2_with fail
    go_ret
    exact ⟨w.heap.size + 1, by omega, rfl, (by rw [e]; have := heap_alloc_new (w.alloc (.cells #[.int .i64 16, .int .u32 b] 29)) (.cells #[.int .i64 16, .int .u32 l, .int .i64 1, .int .i64 0, .int .i64 (-1), .int .u32 l, .int .i64 0, .string ⟨#[]⟩] 81); simpa using this), ((Below.refl _ _).alloc (Nat.le_refl _) _).alloc (by simp) _⟩
  · have e := new_enc a b l 16 (by omega) HL.out
    have h2 : 1 ≤ a := by omega
    go_wp2_with fail
    go_ret
    exact ⟨w.heap.size + 1, by omega, rfl, (by rw [e]; have := heap_alloc_new (w.alloc (.cells #[.int .i64 a, .int .u32 b] 29)) (.cells #[.int .i64 16, .int .u32 l, .int .i64 1, .int .i64 0, .int .i64 (-1), .int .u32 l, .int .i64 0, .string ⟨#[]⟩] 81); simpa using this), ((Below.refl _ _).alloc (Nat.le_refl _) _).alloc (by simp) _⟩
end Go.Proofs.YtkphompjahcjiaaDoor.Conn
