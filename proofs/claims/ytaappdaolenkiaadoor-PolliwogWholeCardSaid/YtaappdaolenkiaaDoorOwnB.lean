/-
  Bytes of the call's own in a row that may bear a mark behind its end (what a text's conversion lays): an append to them of numbers, and of noughts.
-/
import Derived.Test.YtaappdaolenkiaaDoorOwn
import Derived.Lib.AppendZerosOnto
import Derived.Laws.AppendOwn
import Derived.Lib.SmallJoins
namespace Go.Proofs.YtaappdaolenkiaaDoor.Own
open Go.RowKit

/-- no cell of the row is marked -/
def Free (cur : Array Value) (fz : Nat × Nat) : Prop := fz.2 = 0 ∨ cur.size ≤ fz.1

theorem free_cell {w : World} {g i : Nat} {cur : Array Value} {t : TypeId} {fz : Nat × Nat} (hg : w.heap[g]? = some (.cells cur t fz)) (hf : Free cur fz) (hi : i < cur.size) : w.frozen? ⟨g, i, none⟩ = false := by
  obtain ⟨lo, hi'⟩ := fz
  rcases hf with h | h
  · simp only at h
    simp [World.frozen?, hg, h]
  · simp only at h
    simp only [World.frozen?, hg, Bool.and_eq_false_iff, decide_eq_false_iff_not]
    left; omega

theorem run_stores (P : Program) (g o : Nat) (t : TypeId) (fz : Nat × Nat) : ∀ (vs : List Value) (i : Nat) (cur : Array Value) (w : World), w.heap[g]? = some (.cells cur t fz) → Free cur fz → o + i + vs.length ≤ cur.size → (∀ v ∈ vs, v.oneCell' = true) →
    (storeCells ⟨g, o, none⟩ vs i).run P w = .ok () (w.setRow g (cur.toList.take (o + i) ++ vs ++ cur.toList.drop (o + i + vs.length)).toArray)
  | [], i, cur, w, hg, _, _, _ => by
    simp only [storeCells, List.append_nil, List.length_nil, Nat.add_zero, List.take_append_drop, Array.toArray_toList]
    rw [setRow_self w g cur t fz hg]
    rfl
  | v :: rest, i, cur, w, hg, hf, hl, h1 => by
    have hi : o + i < cur.size := by simp at hl; omega
    have hadd : (⟨g, o, none⟩ : Addr).add i = ⟨g, o + i, none⟩ := Addr.add_lit _ _ _
    have hcell : w.cell? ⟨g, o + i, none⟩ = some cur[o + i] := by simp [World.cell?, hg, hi]
    have hfro := free_cell hg hf hi
    have hst : (store ((⟨g, o, none⟩ : Addr).add i) v).run P w = .ok () (w.setRow g (cur.setIfInBounds (o + i) v)) := by
      rw [hadd, run_store P w _ v _ (h1 v (by simp)), hcell]
      simp [hfro, setCell_eq_setRow w g (o + i) cur t fz v hg]
    have ih := run_stores P g o t fz rest (i + 1) (cur.setIfInBounds (o + i) v) (w.setRow g (cur.setIfInBounds (o + i) v)) (setRow_heap w g cur _ t _ hg) (by rcases hf with h | h; exact .inl h; exact .inr (by simpa using h)) (by simp at hl ⊢; omega) (fun x hx => h1 x (by simp [hx]))
    simp only [storeCells, Sem.run_bind, hst, Result.andThen_ok, ih, setRow_setRow]
    congr 3
    have e := list_seg_step cur.toList (o + i) v rest (by simp at hl ⊢; omega)
    simpa [Array.toList_setIfInBounds, Nat.add_assoc] using e

def OwnB (w : World) (base : Nat) (v : Value) (L : List Int) : Prop :=
  (v = .slice none 0 0 ∧ L = []) ∨ ∃ g cap cur fz, v = .slice (some ⟨g, 0, none⟩) L.length cap ∧ base ≤ g ∧ w.heap[g]? = some (.cells cur 5 fz) ∧ Free cur fz ∧ L.length ≤ cap ∧ cap ≤ maxLen ∧ cur.size = cap ∧ cur.toList.take L.length = encI .u8 L

theorem OwnB.of {w : World} {base : Nat} {v : Value} {L : List Int} (h : OwnI .u8 5 w base v L) : OwnB w base v L := by
  rcases h.2 with ⟨h1, h2⟩ | ⟨g, cap, cur, h1, h2, h3, h4, h5, h6, h7⟩
  · exact .inl ⟨h1, List.eq_nil_of_length_eq_zero h2⟩
  · exact .inr ⟨g, cap, cur, (0, 0), h1, h2, h3, .inl rfl, h4, h5, by simpa using h6, by simpa using h7⟩
theorem OwnB.below {w w' : World} {base : Nat} {v : Value} {L : List Int} (h : OwnB w base v L) (hb : Below w.heap.size w w') : OwnB w' base v L := by
  rcases h with h | ⟨g, cap, cur, fz, h1, h2, h3, h4⟩
  · exact .inl h
  · exact .inr ⟨g, cap, cur, fz, h1, h2, (hb.block g (Array.getElem?_eq_some_iff.1 h3).1).trans h3, h4⟩
theorem OwnB.lower {w : World} {base base' : Nat} {v : Value} {L : List Int} (h : OwnB w base v L) (hb : base' ≤ base) : OwnB w base' v L := by
  rcases h with h | ⟨g, cap, cur, fz, h1, h2, h3⟩
  · exact .inl h
  · exact .inr ⟨g, cap, cur, fz, h1, Nat.le_trans hb h2, h3⟩
theorem OwnB.lt {w : World} {base : Nat} {v : Value} {L : List Int} (h : OwnB w base v L) : ∀ k, v.ownBlock = some k → base ≤ k := by
  intro k hk
  rcases h with ⟨rfl, _⟩ | ⟨g, cap, cur, fz, rfl, h2, _⟩
  · simp [Value.ownBlock] at hk
  · simp [Value.ownBlock] at hk; omega
theorem ownB_grown {w0 w w' : World} {base : Nat} {v : Value} {L : List Int} (hb : Below base w0 w) (hs : base ≤ w.heap.size) (h : w.grownBy w' v.ownBlock) (ho : OwnB w base v L) : Below base w0 w' :=
  hb.grown h hs (fun j hj => ho.lt j hj)

/-- the cells of the bytes -/
theorem OwnB.form {w : World} {base : Nat} {v : Value} {L : List Int} (h : OwnB w base v L) : ∃ a cap, v = .slice a L.length cap ∧ (a = none → cap = 0) ∧ RdI .u8 w a L.length L := by
  rcases h with ⟨rfl, rfl⟩ | ⟨g, cap, cur, fz, rfl, h2, h3, h4, h5, h6, h7, h8⟩
  · exact ⟨none, 0, rfl, fun _ => rfl, rfl, fun h => absurd h (by simp)⟩
  · refine ⟨_, cap, rfl, (fun h => by cases h), rfl, fun _ => ⟨g, 0, rfl, (Array.getElem?_eq_some_iff.1 h3).1, fun i hi => ?_⟩⟩
    rw [Nat.zero_add, Go.Joins.cell_of_block h3]
    have : (cur.toList.take L.length)[i]? = some (.int .u8 (L.getD i 0)) := by rw [h8]; simp [encI, List.getD, hi]
    rw [List.getElem?_take_of_lt hi] at this
    simpa using this

/-- a text's bytes, as its conversion lays them -/
theorem ownB_conv (w : World) (s : ByteArray) (base : Nat) (hb : base ≤ w.heap.size) (hs : s.size ≤ maxLen) :
    OwnB (w.alloc (.cells (bytesRow s (grownCap w s.size 0 5)) 5 ((bytesRow s (grownCap w s.size 0 5)).size, (bytesRow s (grownCap w s.size 0 5)).size + 1))) base
      (.slice (some ⟨w.heap.size, 0, none⟩) s.size (grownCap w s.size 0 5)) (s.data.toList.map fun b => (b.toNat : Int)) := by
  have hge := grownCap_ge w s.size 0 5
  have hsz : (bytesRow s (grownCap w s.size 0 5)).size = grownCap w s.size 0 5 := by
    unfold bytesRow
    have : s.data.size = s.size := rfl
    simp only [Array.size_append, Array.size_map, Array.size_replicate, this]; omega
  have hl : (s.data.toList.map fun b => (b.toNat : Int)).length = s.size := by rw [List.length_map]; rfl
  refine .inr ⟨w.heap.size, _, _, _, by rw [hl], hb, heap_alloc_new w _, .inr (Nat.le_refl _), by rw [hl]; exact hge, grownCap_le_maxLen w _ _ _ hs, hsz, ?_⟩
  rw [hl]
  unfold bytesRow encI
  simp only [Array.toList_append, Array.toList_map]
  rw [List.take_append_of_le_length (by simp), List.take_of_length_le (by simp), List.map_map]
  rfl

theorem grown_row (w : World) (base : Nat) (L M : List Int) (old : Nat) (h63 : L.length + M.length ≤ maxLen) (hbase : base ≤ w.heap.size) (row : Option Nat) (xs : Array Value) (hx : xs.toList = encI .u8 L ++ encI .u8 M) :
    OwnB (w.drew.alloc (.cells (xs ++ Builtin.zeroCells (Value.int .u8 0).cells (grownCap w (L.length + M.length) old 5 - (L.length + M.length))) 5)) base
        (.slice (some ⟨w.heap.size, 0, none⟩) (L.length + M.length) (grownCap w (L.length + M.length) old 5)) (L ++ M) ∧
      w.grownBy (w.drew.alloc (.cells (xs ++ Builtin.zeroCells (Value.int .u8 0).cells (grownCap w (L.length + M.length) old 5 - (L.length + M.length))) 5)) row := by
  have hge := grownCap_ge w (L.length + M.length) old 5
  have hcm := grownCap_le_maxLen w (L.length + M.length) old 5 h63
  have hxs : xs.size = L.length + M.length := by
    rw [← Array.length_toList, hx]; simp [encI]
  refine ⟨.inr ⟨w.heap.size, _, _, _, by rw [List.length_append], hbase, heap_alloc_new w.drew _, .inl rfl, by rw [List.length_append]; exact hge, hcm, ?_, ?_⟩, ⟨rfl, rfl, rfl, by simp, fun k hk _ => ((Below.refl w.heap.size w).drew.alloc (by simp) _).block k hk⟩⟩
  · rw [Array.size_append, size_zeroCells, hxs]
    show L.length + M.length + (_ - (L.length + M.length)) * 1 = _
    omega
  · rw [Array.toList_append, hx, List.length_append, List.take_append_of_le_length (by simp [encI]), List.take_of_length_le (by simp [encI])]
    simp [encI]

theorem run_appB (w : World) (T ty : TypeId) (hT : Tryd.prog.underlying T = some (.slice 5)) (info : Info .u8 5 1) (base : Nat)
    (v : Value) (L : List Int) (hown : OwnB w base v L) (ad : Addr) (m c : Nat) (M : List Int) (hr : RdI .u8 w (some ad) m M) (h0 : 0 < m) (hlen : L.length + m ≤ 1000000) (hbase : base ≤ w.heap.size) :
    ∃ v' w', (Builtin.append_ #[T, T] ty #[v, .slice (some ad) m c]).run Tryd.prog w = .ok v' w' ∧ OwnB w' base v' (L ++ M) ∧ w.grownBy w' v.ownBlock ∧ (v'.ownBlock = v.ownBlock ∨ v'.ownBlock = some w.heap.size) := by
  obtain ⟨i0, hi, hz0, hz1, hz2⟩ := info_parts info
  have hlm := hr.1
  obtain ⟨b, off, e, _⟩ := hr.2 h0
  cases e
  obtain ⟨e1, e2, e3⟩ := rdI_encI hr
  have hMl : (encI .u8 M).length = m := by rw [e1, Nat.mul_one]
  have h63 : L.length + M.length ≤ maxLen := by unfold maxLen; omega
  rcases hown with ⟨rfl, rfl⟩ | ⟨g, cap, cur, fz, rfl, h2, h3, h4, h5, h6, h7, h8⟩
  · have hrun := run_append_nil (P := Tryd.prog) w T ty 5 i0 _ hT hi hz0 _ m c (encI .u8 M) (by rw [e1, hz1]) e2 h0 (by simp at hlen; omega) (by rw [hz2]; simp at hlen; omega)
    have hgr := grown_row w base [] M 0 h63 hbase (Value.ownBlock (.slice none 0 0)) (encI .u8 M).toArray (by simp [encI])
    simp only [List.length_nil, Nat.zero_add, ← hlm, List.nil_append] at hgr
    exact ⟨_, _, hrun, hgr.1, hgr.2, .inr rfl⟩
  · by_cases hroom : L.length + m ≤ cap
    · have hf := run_firstCells_some (P := Tryd.prog) w i0.size m _ m c (encI .u8 M) (by rw [e1, hz1]) e2
      have hst := run_stores Tryd.prog g L.length 5 fz (encI .u8 M) 0 cur w h3 h4 (by rw [hMl, h7]; omega) e3
      rw [Nat.add_zero, hMl] at hst
      refine ⟨.slice (some ⟨g, 0, none⟩) (L.length + m) cap, w.setRow g (cur.toList.take L.length ++ encI .u8 M ++ cur.toList.drop (L.length + m)).toArray, ?_, ?_, ⟨rfl, rfl, rfl, by simp, fun k _ hk => setRow_other w g k _ (fun e => hk (by simp [Value.ownBlock, e]))⟩, .inl rfl⟩
      · rw [hz1] at hf
        simp [Builtin.append_, run_underlying hT, sizeOf, typeInfo, hi, hz1, Builtin.lenOf, hroom, hf, Addr.add_lit, hst]
      · refine .inr ⟨g, cap, _, fz, by rw [List.length_append, hlm], h2, setRow_heap w g cur _ 5 _ h3, ?_, by rw [List.length_append, ← hlm]; exact hroom, h6, ?_, ?_⟩
        · rcases h4 with h | h
          · exact .inl h
          · refine .inr ?_
            simp only [List.size_toArray, List.length_append, List.length_take, List.length_drop, Array.length_toList, hMl]
            omega
        · simp only [List.size_toArray, List.length_append, List.length_take, List.length_drop, Array.length_toList, hMl]
          omega
        · rw [h8, List.length_append, List.take_append_of_le_length (by simp [encI]), List.take_of_length_le (by simp [encI])]
          simp [encI]
    · have holds : ∀ j u, (encI .u8 L)[j]? = some u → w.cell? ((⟨g, 0, none⟩ : Addr).add j) = some u := by
        intro j u hu
        rw [Addr.add_lit, Nat.zero_add, Go.Joins.cell_of_block h3]
        have hj : j < L.length := by
          have := (List.getElem?_eq_some_iff.1 hu).1
          simpa [encI] using this
        rw [← h8, List.getElem?_take_of_lt hj] at hu
        simpa using hu
      have hrun := run_append_grow (P := Tryd.prog) w T ty 5 i0 _ hT hi hz0 ⟨g, 0, none⟩ L.length cap (encI .u8 L) (by rw [hz1]; simp [encI]) holds _ m c (encI .u8 M) (by rw [e1, hz1]) e2 (by omega) (by omega) (growslice_fits (by omega) (by rw [hz2]; omega))
      have hgr := grown_row w base L M cap h63 hbase (Value.ownBlock (.slice (some ⟨g, 0, none⟩) L.length cap)) ((encI .u8 L).toArray ++ (encI .u8 M).toArray) (by simp)
      rw [← hlm] at hgr
      exact ⟨_, _, hrun, hgr.1, hgr.2, .inr rfl⟩

theorem zero_cells (k : Nat) : (Builtin.zeroCells (Value.int .u8 0).cells k).toList = encI .u8 (List.replicate k 0) := by
  have e : (Value.int .u8 0).cells = #[Value.int .u8 0] := rfl
  rw [e]
  simp [Builtin.zeroCells, encI, Nat.mod_one, List.map_const']

theorem run_appZ (w : World) (T tn ty : TypeId) (hT : Tryd.prog.underlying T = some (.slice 5)) (htn : Tryd.prog.underlying tn = some (.int .i64)) (info : Info .u8 5 1) (base : Nat)
    (v : Value) (L : List Int) (hown : OwnB w base v L) (k : Nat) (hlen : L.length + k ≤ 1000000) (hbase : base ≤ w.heap.size) :
    ∃ v' w', (Builtin.append_ #[T, tn] ty #[v, .int .i64 (k : Int)]).run Tryd.prog w = .ok v' w' ∧ OwnB w' base v' (L ++ List.replicate k 0) ∧ w.grownBy w' v.ownBlock := by
  obtain ⟨i0, hi, hz0, hz1, hz2⟩ := info_parts info
  have hwk : IntKind.i64.wrap (k : Int) = (k : Int) := by rw [IntKind.wrap_i64]; omega
  have h48 : ¬ (281474976710656 < (k : Int) * (i0.bytes : Int)) := by rw [hz2]; omega
  have hneg : ¬ ((k : Int) < 0) := by omega
  have hw0 : IntKind.i64.wrap 0 = 0 := by decide
  have h63 : L.length + (List.replicate k (0 : Int)).length ≤ maxLen := by rw [List.length_replicate]; unfold maxLen; omega
  rcases Nat.eq_zero_or_pos k with h0 | h0
  · subst h0
    refine ⟨v, w, ?_, by simpa using hown, World.grownBy.refl w _⟩
    rcases hown with ⟨rfl, rfl⟩ | ⟨g, cap, cur, fz, rfl, h2, h3, h4, h5, h6, h7, h8⟩
    · simp [Builtin.append_, run_underlying hT, run_underlying htn, sizeOf, typeInfo, hi, asInt, asIntOf, hw0]
    · simp [Builtin.append_, run_underlying hT, run_underlying htn, sizeOf, typeInfo, hi, asInt, asIntOf, hw0, h5, storeCells]
  · have hne : ¬ k = 0 := by omega
    rcases hown with ⟨rfl, rfl⟩ | ⟨g, cap, cur, fz, rfl, h2, h3, h4, h5, h6, h7, h8⟩
    · have hold : (Builtin.firstCells i0.size 0 (.slice none 0 0)).run Tryd.prog w.drew = .ok ([] : List Value).toArray w.drew := by
        simp [Builtin.firstCells]
      have hrun := Lib.run_append_grow_zeros (P := Tryd.prog) w T tn ty 5 i0 _ .i64 .i64 hT htn hi hz0 none 0 0 [] hold k h0 (by omega) (by omega) (by omega) (by rw [hz2]; simp at hlen; omega) (growslice_fits (by omega) (by rw [hz2]; omega))
      have hgr := grown_row w base [] (List.replicate k 0) 0 h63 hbase (Value.ownBlock (.slice none 0 0)) (([] : List Value).toArray ++ Builtin.zeroCells (Value.int .u8 0).cells k) (by rw [Array.toList_append, zero_cells]; simp [encI])
      simp only [List.length_nil, List.length_replicate] at hgr
      exact ⟨_, _, hrun, hgr.1, hgr.2⟩
    · by_cases hroom : L.length + k ≤ cap
      · have hzl : (Builtin.zeroCells (Value.int .u8 0).cells k).toList.length = k := by rw [zero_cells]; simp [encI]
        have hst := run_stores Tryd.prog g L.length 5 fz (Builtin.zeroCells (Value.int .u8 0).cells k).toList 0 cur w h3 h4 (by rw [hzl, h7]; omega) (by rw [zero_cells]; intro u hu; simp only [encI, List.mem_map] at hu; obtain ⟨z, _, rfl⟩ := hu; rfl)
        rw [Nat.add_zero, hzl] at hst
        refine ⟨.slice (some ⟨g, 0, none⟩) (L.length + k) cap, w.setRow g (cur.toList.take L.length ++ (Builtin.zeroCells (Value.int .u8 0).cells k).toList ++ cur.toList.drop (L.length + k)).toArray, ?_, ?_, ⟨rfl, rfl, rfl, by simp, fun j _ hk => setRow_other w g j _ (fun e => hk (by simp [Value.ownBlock, e]))⟩⟩
        · simp [Builtin.append_, run_underlying hT, run_underlying htn, sizeOf, typeInfo, zeroValue, hi, hz0, asInt, asIntOf, hz1, hwk, hneg, h48, hroom, hne, Addr.add_lit, hst]
        · refine .inr ⟨g, cap, _, fz, by rw [List.length_append, List.length_replicate], h2, setRow_heap w g cur _ 5 _ h3, ?_, by rw [List.length_append, List.length_replicate]; exact hroom, h6, ?_, ?_⟩
          · rcases h4 with h | h
            · exact .inl h
            · refine .inr ?_
              simp only [List.size_toArray, List.length_append, List.length_take, List.length_drop, Array.length_toList] at hzl ⊢
              rw [hzl]; omega
          · simp only [List.size_toArray, List.length_append, List.length_take, List.length_drop, Array.length_toList] at hzl ⊢
            rw [hzl]; omega
          · rw [h8, zero_cells, List.length_append, List.length_replicate, List.take_append_of_le_length (by simp [encI]), List.take_of_length_le (by simp [encI])]
            simp [encI]
      · have hold : (Builtin.firstCells i0.size L.length (.slice (some ⟨g, 0, none⟩) L.length cap)).run Tryd.prog w.drew = .ok (encI .u8 L).toArray w.drew := by
          refine run_firstCells_some (P := Tryd.prog) w.drew i0.size L.length ⟨g, 0, none⟩ L.length cap (encI .u8 L) (by rw [hz1]; simp [encI]) ?_
          intro j u hu
          show w.cell? _ = _
          rw [Addr.add_lit, Nat.zero_add, Go.Joins.cell_of_block h3]
          have hj : j < L.length := by
            have := (List.getElem?_eq_some_iff.1 hu).1
            simpa [encI] using this
          rw [← h8, List.getElem?_take_of_lt hj] at hu
          simpa using hu
        have hrun := Lib.run_append_grow_zeros (P := Tryd.prog) w T tn ty 5 i0 _ .i64 .i64 hT htn hi hz0 (some ⟨g, 0, none⟩) L.length cap (encI .u8 L) hold k h0 (by omega) (by omega) (by omega) (by rw [hz2]; omega) (growslice_fits (by omega) (by rw [hz2]; omega))
        have hgr := grown_row w base L (List.replicate k 0) cap h63 hbase (Value.ownBlock (.slice (some ⟨g, 0, none⟩) L.length cap)) ((encI .u8 L).toArray ++ Builtin.zeroCells (Value.int .u8 0).cells k) (by rw [Array.toList_append, zero_cells])
        simp only [List.length_replicate] at hgr
        exact ⟨_, _, hrun, hgr.1, hgr.2⟩

theorem wpList_appB (info : Info .u8 5 1) {w : World} {ops : Array Oper} {rest : List Oper} {o : Oper} {a : Act} {Q : Exit → Act → World → Prop} (hgd : o.guard = none) (s x : Operand) (T : TypeId)
    (ho : o.op = .call { callee := .builtin .append, args := #[s, x], argTypes := #[T, T] }) (hT : Tryd.prog.underlying T = some (.slice 5)) (base : Nat)
    (v : Value) (L : List Int) (hs : a.eval s = v) (hown : OwnB w base v L) (ad : Addr) (m c : Nat) (M : List Int) (hx : a.eval x = .slice (some ad) m c) (hr : RdI .u8 w (some ad) m M) (h0 : 0 < m)
    (hlen : L.length + m ≤ 1000000) (hbase : base ≤ w.heap.size)
    (h : ∀ v' w', OwnB w' base v' (L ++ M) → w.grownBy w' v.ownBlock → (v'.ownBlock = v.ownBlock ∨ v'.ownBlock = some w.heap.size) → wpList Tryd.prog ops Q rest (a.put o.dst v') w') : wpList Tryd.prog ops Q (o :: rest) a w := by
  obtain ⟨v', w', hrun, h1, h2, h3⟩ := run_appB w T o.type hT info base v L hown ad m c M hr h0 hlen hbase
  refine wpList_plain hgd fun _ hK => ?_
  unfold Oper.wp execOp
  simp only [ho, resolve, invoke, builtin, Sem.run_bind, Sem.run_pure, Result.andThen_ok, List.map_toArray, List.map_cons, List.map_nil, hs, hx, hrun]
  exact hK _ _ (h v' w' h1 h2 h3)

theorem wpList_appZ (info : Info .u8 5 1) {w : World} {ops : Array Oper} {rest : List Oper} {o : Oper} {a : Act} {Q : Exit → Act → World → Prop} (hgd : o.guard = none) (s x : Operand) (T tn : TypeId)
    (ho : o.op = .call { callee := .builtin .append, args := #[s, x], argTypes := #[T, tn] }) (hT : Tryd.prog.underlying T = some (.slice 5)) (htn : Tryd.prog.underlying tn = some (.int .i64)) (base : Nat)
    (v : Value) (L : List Int) (hs : a.eval s = v) (hown : OwnB w base v L) (k : Nat) (hx : a.eval x = .int .i64 (k : Int))
    (hlen : L.length + k ≤ 1000000) (hbase : base ≤ w.heap.size)
    (h : ∀ v' w', OwnB w' base v' (L ++ List.replicate k 0) → w.grownBy w' v.ownBlock → wpList Tryd.prog ops Q rest (a.put o.dst v') w') : wpList Tryd.prog ops Q (o :: rest) a w := by
  obtain ⟨v', w', hrun, h1, h2⟩ := run_appZ w T tn o.type hT htn info base v L hown k hlen hbase
  refine wpList_plain hgd fun _ hK => ?_
  unfold Oper.wp execOp
  simp only [ho, resolve, invoke, builtin, Sem.run_bind, Sem.run_pure, Result.andThen_ok, List.map_toArray, List.map_cons, List.map_nil, hs, hx, hrun]
  exact hK _ _ (h v' w' h1 h2)
end Go.Proofs.YtaappdaolenkiaaDoor.Own
