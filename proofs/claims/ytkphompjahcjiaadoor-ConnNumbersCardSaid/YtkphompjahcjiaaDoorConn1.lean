/-
  A connection: what a call in the making holds in memory; an append of a struct as a step of a region that draws its order.
-/
import Derived.Test.YtkphompjahcjiaaDoorOwn
import Derived.Maps.AppendAt
import Derived.Lib.SmallJoins
import Derived.Laws.CopyOwn
import Derived.Laws.Tables
import Derived.Laws.Rows
import Derived.Laws.ResultCell
import Derived.Deep.RegionLaw
import Derived.Deep.RegionWith
import Derived.Lib.Hide
namespace Go.Proofs.YtkphompjahcjiaaDoor.Conn
open Go.RowKit

/-- a connection -/
structure C where
  most : Int
  credit : Int
  state : Int
  sq : Int
  peer : Int
  ms : Int
  cc : Int
  data : ByteArray
/-- a signal -/
structure S where
  kind : Int
  data : ByteArray
  self : Bool
  code : Int
  n : Int
/-- a unit; its list is none, and so are PS and MR -/
structure U where
  kind : Int
  sq : Int
  n : Int
  self : Bool
  data : ByteArray
/-- what a call brings -/
structure O where
  sigs : List S
  units : List U
  begins : Bool
  ends : Bool
  ms : Int
  timer : Int
def encC (c : C) : Array Value := #[.int .i64 c.most, .int .u32 c.credit, .int .i64 c.state, .int .i64 c.sq, .int .i64 c.peer, .int .u32 c.ms, .int .i64 c.cc, .string c.data]
def encS (s : S) : List Value := [.int .i64 s.kind, .string s.data, .bool s.self, .int .u8 s.code, .int .i64 s.n]
def encU (u : U) : List Value := [.int .i64 u.kind, .int .i64 u.sq, .int .u32 u.n, .int .u32 0, .int .u32 0, .slice none 0 0, .bool u.self, .string u.data]
def OwnS (w : World) (base : Nat) (v : Value) (L : List S) : Prop := w.ownsRow base 71 5 v L.length (L.flatMap encS)
def OwnU (w : World) (base : Nat) (v : Value) (L : List U) : Prop := w.ownsRow base 74 8 v L.length (L.flatMap encU)
/-- two rows that lie apart -/
def Apart (u v : Value) : Prop := u.ownBlock = none ∨ u.ownBlock ≠ v.ownBlock
/-- some blocks are as they were, but for one -/
structure Only (X : Nat → Prop) (w w' : World) (B : Nat) : Prop where
  os : w'.os = w.os
  tape : w'.tape = w.tape
  output : w'.output = w.output
  size : w.heap.size ≤ w'.heap.size
  block : ∀ k, X k → k ≠ B → w'.heap[k]? = w.heap[k]?
theorem Only.refl (X : Nat → Prop) (w : World) (B : Nat) : Only X w w B := ⟨rfl, rfl, rfl, Nat.le_refl _, fun _ _ _ => rfl⟩
theorem Only.trans {X : Nat → Prop} {w w' w'' : World} {B : Nat} (h : Only X w w' B) (k : Only X w' w'' B) : Only X w w'' B :=
  ⟨k.os.trans h.os, k.tape.trans h.tape, k.output.trans h.output, Nat.le_trans h.size k.size, fun j hj h1 => (k.block j hj h1).trans (h.block j hj h1)⟩
theorem Only.of_below {X : Nat → Prop} {w w' : World} {B b : Nat} (h : Below b w w') (hX : ∀ k, X k → k < b) : Only X w w' B := ⟨h.os, h.tape, h.output, h.size, fun k hk _ => h.block k (hX k hk)⟩
theorem Only.set {X : Nat → Prop} {w w' : World} {B : Nat} (h : Only X w w' B) (o : Nat) (v : Value) : Only X w (w'.setCell ⟨B, o, none⟩ v) B :=
  ⟨h.os, h.tape, h.output, by simpa using h.size, fun k hk hn => (heap_setCell_other _ _ _ _ hn).trans (h.block k hk hn)⟩
theorem Only.other {X : Nat → Prop} {w w' : World} {B C : Nat} (h : Only X w w' B) (hC : ¬ X C) (o : Nat) (v : Value) : Only X w (w'.setCell ⟨C, o, none⟩ v) B :=
  ⟨h.os, h.tape, h.output, by simpa using h.size, fun k hk hn => (heap_setCell_other _ _ _ _ (show k ≠ C from fun e => hC (e ▸ hk))).trans (h.block k hk hn)⟩

/-- a call in the making: its connection g, its own block m, what it brings -/
structure Make (X : Nat → Prop) (w0 w : World) (g m : Nat) (c : C) (o : O) : Prop where
  conn : w.heap[g]? = some (.cells (encC c) 81 (0, 0))
  rest : ∃ vs vu, w.heap[m]? = some (.cells #[.pointer (some ⟨g, 0, none⟩), vs, vu, .bool o.begins, .bool o.ends, .int .u32 o.ms, .int .i64 o.timer] 100 (0, 0)) ∧
    OwnS w (m + 1) vs o.sigs ∧ OwnU w (m + 1) vu o.units ∧ Apart vs vu ∧ (∀ k, vs.ownBlock = some k → ¬ X k) ∧ (∀ k, vu.ownBlock = some k → ¬ X k)
  only : Only X w0 w g
  xlt : ∀ k, X k → k < w0.heap.size
  xg : X g
  xm : ¬ X m
  few : o.sigs.length ≤ 1000 ∧ o.units.length ≤ 1000
theorem row_below {w w' : World} {base size n b : Nat} {v : Value} {e : TypeId} {xs : List Value} (h : w.ownsRow base e size v n xs) (hb : Below b w w') (hs : b = w.heap.size) : w'.ownsRow base e size v n xs := by
  subst hs; exact Own.own_below h hb
section
variable {X : Nat → Prop} {w0 w w' : World} {g m : Nat} {c : C} {o : O}
theorem Make.mlt (h : Make X w0 w g m c o) : m < w.heap.size := by
  obtain ⟨vs, vu, hm, _⟩ := h.rest
  exact (Array.getElem?_eq_some_iff.1 hm).1
theorem Make.glt (h : Make X w0 w g m c o) : g < w.heap.size := (Array.getElem?_eq_some_iff.1 h.conn).1
theorem Make.gm (h : Make X w0 w g m c o) : g ≠ m := fun e => h.xm (e ▸ h.xg)
theorem Make.xlt' (h : Make X w0 w g m c o) : ∀ k, X k → k < w.heap.size := fun k hk => Nat.lt_of_lt_of_le (h.xlt k hk) h.only.size
theorem Make.below (h : Make X w0 w g m c o) (hb : Below w.heap.size w w') : Make X w0 w' g m c o := by
  obtain ⟨vs, vu, h1, h2, h3, h4⟩ := h.rest
  exact ⟨(hb.block g h.glt).trans h.conn, ⟨vs, vu, (hb.block m h.mlt).trans h1, Own.own_below h2 hb, Own.own_below h3 hb, h4⟩, h.only.trans (.of_below hb h.xlt'), h.xlt, h.xg, h.xm, h.few⟩
theorem Make.drewN (h : Make X w0 w g m c o) (n : Nat) : Make X w0 (w.drewN n) g m c o := h.below (Own.below_drewN (Below.refl _ _) n)
theorem Make.alloc (h : Make X w0 w g m c o) (b : Obj) : Make X w0 (w.alloc b) g m c o := h.below ((Below.refl _ _).alloc (Nat.le_refl _) b)
/-- a block that was made is kept, too -/
def Plus (X : Nat → Prop) (q k : Nat) : Prop := X k ∨ k = q
theorem Make.held (h : Make X w0 w g m c o) (b : Obj) : Make (Plus X w.heap.size) (w.alloc b) (w.alloc b) g m c o := by
  have h' := h.alloc b
  obtain ⟨vs, vu, h1, h2, h3, h4, h5, h6⟩ := h.rest
  obtain ⟨vs', vu', i1, i2, i3, i4, i5, i6⟩ := h'.rest
  have hb : Below w.heap.size w (w.alloc b) := (Below.refl _ _).alloc (Nat.le_refl _) b
  have e := (i1.symm.trans ((hb.block m h.mlt).trans h1))
  simp only [Option.some.injEq, Obj.cells.injEq, Array.mk.injEq, List.cons.injEq, true_and, and_true] at e
  obtain ⟨rfl, rfl⟩ := e
  refine ⟨h'.conn, ⟨vs', vu', i1, i2, i3, i4, fun k hk hx => ?_, fun k hk hx => ?_⟩, .refl _ _ _, fun k hk => ?_, .inl h.xg, fun hx => ?_, h.few⟩
  · rcases hx with hx | hx
    · exact i5 k hk hx
    · have := (World.ownsRow.lt h2 k hk).2; omega
  · rcases hx with hx | hx
    · exact i6 k hk hx
    · have := (World.ownsRow.lt h3 k hk).2; omega
  · rcases hk with hk | hk
    · have := h.xlt' k hk; simp; omega
    · simp; omega
  · rcases hx with hx | hx
    · exact h.xm hx
    · have := h.mlt; omega
theorem Make.back {W : World} {q : Nat} {c' : C} {o' : O} (h : Make X w0 w g m c o) (hb : Below w.heap.size w W) (k : Make (Plus X q) W w' g m c' o') : Make X w0 w' g m c' o' := by
  obtain ⟨vs, vu, h1, h2, h3, h4, h5, h6⟩ := k.rest
  refine ⟨k.conn, ⟨vs, vu, h1, h2, h3, h4, fun j hj hx => h5 j hj (.inl hx), fun j hj hx => h6 j hj (.inl hx)⟩, ?_, h.xlt, h.xg, h.xm, k.few⟩
  exact ((h.only.trans (.of_below hb h.xlt')).trans ⟨k.only.os, k.only.tape, k.only.output, k.only.size, fun j hj hn => k.only.block j (.inl hj) hn⟩)
/-- the cells of the connection -/
theorem Make.c0 (h : Make X w0 w g m c o) : w.cell? ⟨g, 0, none⟩ = some (.int .i64 c.most) := (cell_of_row _ _ _ _ _ _ h.conn).trans rfl
theorem Make.c1 (h : Make X w0 w g m c o) : w.cell? ⟨g, 1, none⟩ = some (.int .u32 c.credit) := (cell_of_row _ _ _ _ _ _ h.conn).trans rfl
theorem Make.c2 (h : Make X w0 w g m c o) : w.cell? ⟨g, 2, none⟩ = some (.int .i64 c.state) := (cell_of_row _ _ _ _ _ _ h.conn).trans rfl
theorem Make.c3 (h : Make X w0 w g m c o) : w.cell? ⟨g, 3, none⟩ = some (.int .i64 c.sq) := (cell_of_row _ _ _ _ _ _ h.conn).trans rfl
theorem Make.c4 (h : Make X w0 w g m c o) : w.cell? ⟨g, 4, none⟩ = some (.int .i64 c.peer) := (cell_of_row _ _ _ _ _ _ h.conn).trans rfl
theorem Make.c5 (h : Make X w0 w g m c o) : w.cell? ⟨g, 5, none⟩ = some (.int .u32 c.ms) := (cell_of_row _ _ _ _ _ _ h.conn).trans rfl
theorem Make.c6 (h : Make X w0 w g m c o) : w.cell? ⟨g, 6, none⟩ = some (.int .i64 c.cc) := (cell_of_row _ _ _ _ _ _ h.conn).trans rfl
theorem Make.c7 (h : Make X w0 w g m c o) : w.cell? ⟨g, 7, none⟩ = some (.string c.data) := (cell_of_row _ _ _ _ _ _ h.conn).trans rfl
theorem Make.free (h : Make X w0 w g m c o) (i : Nat) : w.frozen? ⟨g, i, none⟩ = false := frozen_of_row _ _ _ _ _ h.conn
theorem Make.p0 (h : Make X w0 w g m c o) : w.cell? ⟨m, 0, none⟩ = some (.pointer (some ⟨g, 0, none⟩)) := by
  obtain ⟨vs, vu, h1, _⟩ := h.rest; exact (cell_of_row _ _ _ _ _ _ h1).trans rfl
theorem Make.p3 (h : Make X w0 w g m c o) : w.cell? ⟨m, 3, none⟩ = some (.bool o.begins) := by
  obtain ⟨vs, vu, h1, _⟩ := h.rest; exact (cell_of_row _ _ _ _ _ _ h1).trans rfl
theorem Make.p4 (h : Make X w0 w g m c o) : w.cell? ⟨m, 4, none⟩ = some (.bool o.ends) := by
  obtain ⟨vs, vu, h1, _⟩ := h.rest; exact (cell_of_row _ _ _ _ _ _ h1).trans rfl
theorem Make.p5 (h : Make X w0 w g m c o) : w.cell? ⟨m, 5, none⟩ = some (.int .u32 o.ms) := by
  obtain ⟨vs, vu, h1, _⟩ := h.rest; exact (cell_of_row _ _ _ _ _ _ h1).trans rfl
theorem Make.p6 (h : Make X w0 w g m c o) : w.cell? ⟨m, 6, none⟩ = some (.int .i64 o.timer) := by
  obtain ⟨vs, vu, h1, _⟩ := h.rest; exact (cell_of_row _ _ _ _ _ _ h1).trans rfl
theorem Make.mfree (h : Make X w0 w g m c o) (i : Nat) : w.frozen? ⟨m, i, none⟩ = false := by
  obtain ⟨vs, vu, h1, _⟩ := h.rest; exact frozen_of_row _ _ _ _ _ h1
theorem row_set {w : World} {base size n B o : Nat} {x v : Value} {e : TypeId} {xs : List Value} (h : w.ownsRow base e size v n xs) (hB : B < base) : (w.setCell ⟨B, o, none⟩ x).ownsRow base e size v n xs := by
  refine ⟨h.1, ?_⟩
  rcases h.2 with hn | ⟨g, cap, cur, rfl, hg, hh, rest⟩
  · exact .inl hn
  · exact .inr ⟨g, cap, cur, rfl, hg, (heap_setCell_other _ _ _ _ (show g ≠ B by omega)).trans hh, rest⟩
/-- a cell of the connection is written -/
theorem Make.setC (h : Make X w0 w g m c o) (i : Nat) (x : Value) (c' : C) (hc : (encC c).setIfInBounds i x = encC c') : Make X w0 (w.setCell ⟨g, i, none⟩ x) g m c' o := by
  obtain ⟨vs, vu, h1, h2, h3, h4⟩ := h.rest
  have hgm := h.gm
  have hgs : ∀ {v : Value} {base size n : Nat} {e : TypeId} {xs : List Value}, (∀ k, v.ownBlock = some k → ¬ X k) → w.ownsRow base e size v n xs → (w.setCell ⟨g, i, none⟩ x).ownsRow base e size v n xs := fun {v base size n e xs} hv ho => by
    refine ⟨ho.1, ?_⟩
    rcases ho.2 with hn | ⟨gg, cap, cur, rfl, hg, hh, rest⟩
    · exact .inl hn
    · exact .inr ⟨gg, cap, cur, rfl, hg, (heap_setCell_other _ _ _ _ (show gg ≠ g from fun e => hv gg rfl (e ▸ h.xg))).trans hh, rest⟩
  refine ⟨by rw [Go.Joins.block_setCell h.conn, hc], ⟨vs, vu, (heap_setCell_other _ _ _ _ (show m ≠ g from hgm.symm)).trans h1, hgs h4.2.1 h2, hgs h4.2.2 h3, h4⟩, h.only.set _ _, h.xlt, h.xg, h.xm, h.few⟩
/-- a cell of what it brings is written -/
theorem Make.setO (h : Make X w0 w g m c o) (i : Nat) (x : Value) (o' : O) (hs : o'.sigs = o.sigs) (hu : o'.units = o.units)
    (hc : ∀ vs vu, (#[.pointer (some ⟨g, 0, none⟩), vs, vu, .bool o.begins, .bool o.ends, .int .u32 o.ms, .int .i64 o.timer] : Array Value).setIfInBounds i x = #[.pointer (some ⟨g, 0, none⟩), vs, vu, .bool o'.begins, .bool o'.ends, .int .u32 o'.ms, .int .i64 o'.timer]) :
    Make X w0 (w.setCell ⟨m, i, none⟩ x) g m c o' := by
  obtain ⟨vs, vu, h1, h2, h3, h4⟩ := h.rest
  have hgm := h.gm
  refine ⟨(heap_setCell_other _ _ _ _ (show g ≠ m from hgm)).trans h.conn, ⟨vs, vu, by rw [Go.Joins.block_setCell h1, hc], by rw [hs]; exact row_set h2 (by omega), by rw [hu]; exact row_set h3 (by omega), h4⟩, h.only.other h.xm _ _, h.xlt, h.xg, h.xm, by rw [hs, hu]; exact h.few⟩
end
/-- an append of a struct, and where the row then lies, as a step of a region -/
theorem step_app {w : World} {ops : Array Oper} {o : Oper} {a : Act} {K : Act → World → Prop} {Q : Exit → Act → World → Prop} {E : Prop} (hgd : o.guard = none) (s x : Operand) (T τ : TypeId)
    (ho : o.op = .call { callee := .builtin .append, args := #[s, x], argTypes := #[T, T] }) (base size bytes : Nat) (hT : Tryd.prog.underlying T = some (.slice τ))
    (info : (Tryd.prog.info? τ).map (fun i => (i.zero.map (fun z => z.cells.size), i.size, i.bytes)) = some (some size, size, bytes)) (hsz : 0 < size) (hby : bytes ≤ 1000)
    (v : Value) (n : Nat) (xs : List Value) (hs : a.eval s = v) (hown : w.ownsRow base τ size v n xs) (ad : Addr) (c : Nat) (news : List Value) (hx : a.eval x = .slice (some ad) 1 c)
    (hl : news.length = size) (hnews : ∀ j u, news[j]? = some u → w.cell? (ad.add j) = some u) (h1 : ∀ u ∈ news, u.oneCell' = true) (hn : n ≤ 1000000) (hbase : base ≤ w.heap.size)
    (h : ∀ v' w', w'.ownsRow base τ size v' (n + 1) (xs ++ news) → w.grownBy w' v.ownBlock → (v'.ownBlock = v.ownBlock ∨ v'.ownBlock = some w.heap.size) → K (a.put o.dst v') w') :
    if Region.wanted o (yielded ops a.tmps) = true then Oper.wp Tryd.prog o a w K Q else E := by
  have hw : Region.wanted o (yielded ops a.tmps) = true := by simp [Region.wanted, hgd]
  rw [if_pos hw]
  obtain ⟨i, hi⟩ : ∃ i, Tryd.prog.info? τ = some i := by
    cases hq : Tryd.prog.info? τ with
    | none => rw [hq] at info; simp at info
    | some i => exact ⟨i, rfl⟩
  rw [hi] at info
  simp only [Option.map_some, Option.some.injEq, Prod.mk.injEq] at info
  obtain ⟨i1, i2, i3⟩ := info
  obtain ⟨z, hz⟩ : ∃ z, i.zero = some z := by
    cases hq : i.zero with
    | none => rw [hq] at i1; simp at i1
    | some z => exact ⟨z, rfl⟩
  rw [hz] at i1
  simp only [Option.map_some, Option.some.injEq] at i1
  obtain ⟨v', w', hr, h2, h3, _, h5⟩ := run_append_own_at (P := Tryd.prog) w base T o.type τ i z size bytes hT hi hz i2 i3 i1 hsz v n xs hown ad 1 c news (by omega) hnews h1 (by unfold maxLen; omega) (by
    refine Nat.le_trans (Nat.mul_le_mul (show n + 1 ≤ 1000001 by omega) hby) (by decide)) hbase
  unfold Oper.wp execOp
  simp only [ho, resolve, invoke, builtin, Sem.run_bind, Sem.run_pure, Result.andThen_ok, List.map_toArray, List.map_cons, List.map_nil, hs, hx, hr]
  exact h v' w' h2 h3 h5
theorem infoS : (Tryd.prog.info? 71).map (fun i => (i.zero.map (fun z => z.cells.size), i.size, i.bytes)) = some (some 5, 5, 40) := by kernel_rfl
theorem infoU : (Tryd.prog.info? 74).map (fun i => (i.zero.map (fun z => z.cells.size), i.size, i.bytes)) = some (some 8, 8, 80) := by kernel_rfl
end Go.Proofs.YtkphompjahcjiaaDoor.Conn
