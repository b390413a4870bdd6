/-
  The pace: a call on the program's and on the document's.
-/
import Derived.Test.YtlfjndjbfbejkaaPace8
import Derived.Test.YtlfjndjbfbejkaaRefSame
namespace Go.Proofs.Ytlfjndjbfbejkaa.Pace
open Go.RowKit View Bank AppAt

/-- what a call makes of the timers -/
def stepL (K L : List Nat) (kind : Int) (idle : Bool) : List Nat :=
  if kind = 1 then beginL K L else if kind = 2 then endL L else if kind = 3 then againL K L else if kind = 4 then enoughL L else if kind = 5 then busyL K L
  else if kind = 6 then polledL K L idle else if kind = 7 then answeredL K L idle else if kind = 8 then L else tickL L
theorem set2 {W : World} {g : Nat} {o0 o1 v0 v1 : Value} {t : TypeId} (h : W.heap[g]? = some (.cells #[o0, o1] t (0, 0))) :
    (W.setCell ⟨g, 0, none⟩ v0).setCell ⟨g, 1, none⟩ v1 = W.setRow g #[v0, v1] := by
  have h0 := Go.Joins.block_setCell (i := 0) h v0
  rw [setCell_eq_setRow _ _ _ _ _ _ _ h0, setCell_eq_setRow _ _ _ _ _ _ _ h]
  rw [setRow_setRow]; rfl
theorem rd_own_only {w w1 w2 : World} {B base n cap : Nat} {a : Option Addr} {L : List Int} (ho : OwnI w base (.slice a n cap) L) (hr : RdI w1 a n L) (hk : Only w1 w2 B) (hB : B < base) : RdI w2 a n L := by
  refine ⟨hr.1, fun h0 => ?_⟩
  obtain ⟨b, off, e, hlt, hc⟩ := hr.2 h0
  subst e
  obtain ⟨a', cap', e2, _, h3⟩ := own_form ho
  simp only [Value.slice.injEq] at e2
  obtain ⟨e3, e4, _⟩ := e2
  obtain ⟨g, e5, hg, _⟩ := h3 (by omega)
  rw [e5] at e3
  simp only [Option.some.injEq, Addr.mk.injEq] at e3
  exact ⟨b, off, rfl, Nat.lt_of_lt_of_le hlt hk.size, fun i hi => (cell_only hk hlt (by omega)).trans (hc i hi)⟩
def Good1 (X : Nat → Prop) (B : Nat) (K : List Nat) (vT : Value) (w : World) (L : List Nat) (e : Ending) (w' : World) : Prop :=
  ∃ v, e = .returned (.tuple #[.agg #[vT, v], .bool true]) ∧ At w' B K L ∧ Five w' X v L ∧ Five w' X vT K ∧ Only w w' B
set_option maxRecDepth 100000 in
set_option maxHeartbeats 4000000 in
theorem step_begin (X : Nat → Prop) (B : Nat) (K L : List Nat) (vT vL : Value) (idle : Bool) (w : World) (hXB : X B) (hX : ∀ b, X b → b < w.heap.size) (h : At w B K L) (hT : Five w X vT K) (hL : Five w X vL L) :
    Calls Try.prog 12 #[.pointer (some ⟨B, 0, none⟩), .agg #[vT, vL], .agg #[.int .i64 1, .bool idle]] w (Good1 X B K vT w (beginL K L)) := by
  have HT := Lib.hid hT
  have HL := Lib.hid hL
  obtain ⟨gT, oT, cT, rfl, _, _⟩ := hT
  obtain ⟨gL, oL, cL, rfl, _, _⟩ := hL
  have HXB := Lib.hid hXB
  have HX := Lib.hid hX
  obtain ⟨W, hW⟩ : ∃ W, W = (((w.alloc (.cells #[.slice (some ⟨gT, oT, none⟩) 5 cT, .slice (some ⟨gL, oL, none⟩) 5 cL] 34)).alloc (.cells #[.int .i64 1, .bool idle] 39)).alloc (.cells #[.slice none 0 0, .slice none 0 0] 34)) := ⟨_, rfl⟩
  have HAL : Hid (Below w.heap.size w W) := Lib.hid (by rw [hW]; exact (((Below.refl _ w).alloc (Nat.le_refl _) _).alloc (by simp) _).alloc (by simp; omega) _)
  have HSZ : Hid (W.heap.size = w.heap.size + 3) := Lib.hid (by rw [hW]; simp)
  have HLT : Hid (B < w.heap.size) := Lib.hid h.lt
  have HZ : Hid (W.heap[w.heap.size + 2]? = some (.cells #[.slice none 0 0, .slice none 0 0] 34 (0, 0))) := Lib.hid (by rw [hW]; have := heap_alloc_new ((w.alloc (.cells #[.slice (some ⟨gT, oT, none⟩) 5 cT, .slice (some ⟨gL, oL, none⟩) 5 cL] 34)).alloc (.cells #[.int .i64 1, .bool idle] 39)) (.cells #[.slice none 0 0, .slice none 0 0] 34); simpa using this)
  have HBX : Hid (W.heap[w.heap.size]? = some (.cells #[.slice (some ⟨gT, oT, none⟩) 5 cT, .slice (some ⟨gL, oL, none⟩) 5 cL] 34 (0, 0))) := Lib.hid (by rw [hW]; exact (((Below.refl (w.heap.size + 2) _).alloc (by simp) _).block w.heap.size (by omega)).trans (heap_alloc2_old w _ _))
  have HBA : Hid (W.heap[w.heap.size + 1]? = some (.cells #[.int .i64 1, .bool idle] 39 (0, 0))) := Lib.hid (by rw [hW]; exact (((Below.refl (w.heap.size + 2) _).alloc (by simp) _).block (w.heap.size + 1) (by omega)).trans (heap_alloc2_new w _ _))
  have HAW := Lib.hid (h.below HAL.out)
  have HTW : Hid (Five W (And1 X (w.heap.size + 2)) (.slice (some ⟨gT, oT, none⟩) 5 cT) K) := Lib.hid ((HT.out.grow (N' := And1 X (w.heap.size + 2)) (fun b hb => by rcases hb with h | h; exact .inl h; exact .inr (by omega))).below HAL.out)
  have HLW : Hid (Five W (And1 X (w.heap.size + 2)) (.slice (some ⟨gL, oL, none⟩) 5 cL) L) := Lib.hid ((HL.out.grow (N' := And1 X (w.heap.size + 2)) (fun b hb => by rcases hb with h | h; exact .inl h; exact .inr (by omega))).below HAL.out)
  have HXW : Hid (∀ b, And1 X (w.heap.size + 2) b → b < W.heap.size) := Lib.hid (fun b hb => by
    have := HSZ.out
    rcases hb with h | h
    · have := hX b h; omega
    · omega)
  have hWX : True := trivial
  clear hXB hX h HT HL hWX
  go_enter Try.func12, Try.ntmps12
  go_wp2_with fail
  rw [← hW]
  clear hW
  refine (begin_any B K L _ HAW.out).mono ?_; rintro e w2 ⟨⟨v2, rfl⟩, ha2, ho2⟩
  have HA2 := Lib.hid ha2
  have HO2 := Lib.hid ho2
  have hbx := (ho2.block w.heap.size (by have := HSZ.out; omega) (by have := HLT.out; omega)).trans HBX.out
  have c0 : w2.cell? ⟨w.heap.size, 0, none⟩ = some (.slice (some ⟨gT, oT, none⟩) 5 cT) := (cell_of_row _ _ _ _ _ _ hbx).trans rfl
  have c1 : w2.cell? ⟨w.heap.size, 1, none⟩ = some (.slice (some ⟨gL, oL, none⟩) 5 cL) := (cell_of_row _ _ _ _ _ _ hbx).trans rfl
  clear hbx ha2 ho2
  go_wp2_with fail
  refine (rbegin_any (And1 X (w.heap.size + 2)) K L _ _ _ (fun b hb => Nat.lt_of_lt_of_le (HXW.out b hb) HO2.out.size) (HTW.out.only HO2.out (.inl HXB.out)) (HLW.out.only HO2.out (.inl HXB.out))).mono ?_; rintro e w3 ⟨v3, rfl, h3, hb3⟩
  have H3 := Lib.hid h3
  have HA3 := Lib.hid (HA2.out.below hb3)
  have HT3 := Lib.hid ((HTW.out.only HO2.out (.inl HXB.out)).below hb3)
  have HK3 : Hid (∀ k, k < W.heap.size → k ≠ B → w3.heap[k]? = W.heap[k]?) := Lib.hid (fun k hk hkB => (hb3.block k (Nat.lt_of_lt_of_le hk HO2.out.size)).trans (HO2.out.block k hk hkB))
  have HO3 : Hid (Only w w3 B) := Lib.hid (((Only.of_below HAL.out).trans HO2.out).trans (Only.of_below hb3))
  obtain ⟨g3, o3, c3, rfl, _, _⟩ := h3
  clear hb3 c0 c1 HA2 HO2
  have hz : w3.heap[w.heap.size + 2]? = some (.cells #[.slice none 0 0, .slice none 0 0] 34 (0, 0)) := (HK3.out (w.heap.size + 2) (by have := HSZ.out; omega) (by have := HLT.out; omega)).trans HZ.out
  go_wp2_with (refine wpList_store_row rfl 34 _ _ rfl (w.heap.size + 2) #[.slice (some ⟨gT, oT, none⟩) 5 cT, .slice (some ⟨g3, o3, none⟩) 5 c3] rfl rfl 34 _ hz ref_info rfl (by simp [Value.oneCell']) ?_)
  refine bodyPost_ret (results_row_tmp rfl _ _ (w.heap.size + 2) 34 _ (0, 0) _ rfl (setRow_heap _ _ _ _ 34 (0, 0) hz) Try.underlying34 rfl ref_info) rfl ?_
  have hos := only_setRow w3 (w.heap.size + 2) #[.slice (some ⟨gT, oT, none⟩) 5 cT, .slice (some ⟨g3, o3, none⟩) 5 c3]
  refine ⟨_, rfl, HA3.out.only hos (by have := HLT.out; omega), (H3.out.setRow (.inr rfl) _).less (fun b hb => .inl hb), (HT3.out.setRow (.inr rfl) _).less (fun b hb => .inl hb), ?_⟩
  exact ⟨HO3.out.os, HO3.out.tape, HO3.out.output, Nat.le_trans HO3.out.size hos.size, fun k hk hkB => (hos.block k (Nat.lt_of_lt_of_le hk HO3.out.size) (by omega)).trans (HO3.out.block k hk hkB)⟩
set_option maxRecDepth 100000 in
set_option maxHeartbeats 4000000 in
theorem step_end (X : Nat → Prop) (B : Nat) (K L : List Nat) (vT vL : Value) (idle : Bool) (w : World) (hXB : X B) (hX : ∀ b, X b → b < w.heap.size) (h : At w B K L) (hT : Five w X vT K) (hL : Five w X vL L) :
    Calls Try.prog 12 #[.pointer (some ⟨B, 0, none⟩), .agg #[vT, vL], .agg #[.int .i64 2, .bool idle]] w (Good1 X B K vT w (endL L)) := by
  have HT := Lib.hid hT
  have HL := Lib.hid hL
  obtain ⟨gT, oT, cT, rfl, _, _⟩ := hT
  obtain ⟨gL, oL, cL, rfl, _, _⟩ := hL
  have HXB := Lib.hid hXB
  have HX := Lib.hid hX
  obtain ⟨W, hW⟩ : ∃ W, W = (((w.alloc (.cells #[.slice (some ⟨gT, oT, none⟩) 5 cT, .slice (some ⟨gL, oL, none⟩) 5 cL] 34)).alloc (.cells #[.int .i64 2, .bool idle] 39)).alloc (.cells #[.slice none 0 0, .slice none 0 0] 34)) := ⟨_, rfl⟩
  have HAL : Hid (Below w.heap.size w W) := Lib.hid (by rw [hW]; exact (((Below.refl _ w).alloc (Nat.le_refl _) _).alloc (by simp) _).alloc (by simp; omega) _)
  have HSZ : Hid (W.heap.size = w.heap.size + 3) := Lib.hid (by rw [hW]; simp)
  have HLT : Hid (B < w.heap.size) := Lib.hid h.lt
  have HZ : Hid (W.heap[w.heap.size + 2]? = some (.cells #[.slice none 0 0, .slice none 0 0] 34 (0, 0))) := Lib.hid (by rw [hW]; have := heap_alloc_new ((w.alloc (.cells #[.slice (some ⟨gT, oT, none⟩) 5 cT, .slice (some ⟨gL, oL, none⟩) 5 cL] 34)).alloc (.cells #[.int .i64 2, .bool idle] 39)) (.cells #[.slice none 0 0, .slice none 0 0] 34); simpa using this)
  have HBX : Hid (W.heap[w.heap.size]? = some (.cells #[.slice (some ⟨gT, oT, none⟩) 5 cT, .slice (some ⟨gL, oL, none⟩) 5 cL] 34 (0, 0))) := Lib.hid (by rw [hW]; exact (((Below.refl (w.heap.size + 2) _).alloc (by simp) _).block w.heap.size (by omega)).trans (heap_alloc2_old w _ _))
  have HBA : Hid (W.heap[w.heap.size + 1]? = some (.cells #[.int .i64 2, .bool idle] 39 (0, 0))) := Lib.hid (by rw [hW]; exact (((Below.refl (w.heap.size + 2) _).alloc (by simp) _).block (w.heap.size + 1) (by omega)).trans (heap_alloc2_new w _ _))
  have HAW := Lib.hid (h.below HAL.out)
  have HTW : Hid (Five W (And1 X (w.heap.size + 2)) (.slice (some ⟨gT, oT, none⟩) 5 cT) K) := Lib.hid ((HT.out.grow (N' := And1 X (w.heap.size + 2)) (fun b hb => by rcases hb with h | h; exact .inl h; exact .inr (by omega))).below HAL.out)
  have HLW : Hid (Five W (And1 X (w.heap.size + 2)) (.slice (some ⟨gL, oL, none⟩) 5 cL) L) := Lib.hid ((HL.out.grow (N' := And1 X (w.heap.size + 2)) (fun b hb => by rcases hb with h | h; exact .inl h; exact .inr (by omega))).below HAL.out)
  have HXW : Hid (∀ b, And1 X (w.heap.size + 2) b → b < W.heap.size) := Lib.hid (fun b hb => by
    have := HSZ.out
    rcases hb with h | h
    · have := hX b h; omega
    · omega)
  have hWX : True := trivial
  clear hXB hX h HT HL hWX
  go_enter Try.func12, Try.ntmps12
  go_wp2_with fail
  rw [← hW]
  clear hW
  refine (end_any B K L _ HAW.out).mono ?_; rintro e w2 ⟨⟨v2, rfl⟩, ha2, ho2⟩
  have HA2 := Lib.hid ha2
  have HO2 := Lib.hid ho2
  have hbx := (ho2.block w.heap.size (by have := HSZ.out; omega) (by have := HLT.out; omega)).trans HBX.out
  have c0 : w2.cell? ⟨w.heap.size, 0, none⟩ = some (.slice (some ⟨gT, oT, none⟩) 5 cT) := (cell_of_row _ _ _ _ _ _ hbx).trans rfl
  have c1 : w2.cell? ⟨w.heap.size, 1, none⟩ = some (.slice (some ⟨gL, oL, none⟩) 5 cL) := (cell_of_row _ _ _ _ _ _ hbx).trans rfl
  clear hbx ha2 ho2
  go_wp2_with fail
  refine (rend_any (And1 X (w.heap.size + 2)) K L _ _ _ (fun b hb => Nat.lt_of_lt_of_le (HXW.out b hb) HO2.out.size) (HTW.out.only HO2.out (.inl HXB.out)) (HLW.out.only HO2.out (.inl HXB.out))).mono ?_; rintro e w3 ⟨v3, rfl, h3, hb3⟩
  have H3 := Lib.hid h3
  have HA3 := Lib.hid (HA2.out.below hb3)
  have HT3 := Lib.hid ((HTW.out.only HO2.out (.inl HXB.out)).below hb3)
  have HK3 : Hid (∀ k, k < W.heap.size → k ≠ B → w3.heap[k]? = W.heap[k]?) := Lib.hid (fun k hk hkB => (hb3.block k (Nat.lt_of_lt_of_le hk HO2.out.size)).trans (HO2.out.block k hk hkB))
  have HO3 : Hid (Only w w3 B) := Lib.hid (((Only.of_below HAL.out).trans HO2.out).trans (Only.of_below hb3))
  obtain ⟨g3, o3, c3, rfl, _, _⟩ := h3
  clear hb3 c0 c1 HA2 HO2
  have hz : w3.heap[w.heap.size + 2]? = some (.cells #[.slice none 0 0, .slice none 0 0] 34 (0, 0)) := (HK3.out (w.heap.size + 2) (by have := HSZ.out; omega) (by have := HLT.out; omega)).trans HZ.out
  go_wp2_with (refine wpList_store_row rfl 34 _ _ rfl (w.heap.size + 2) #[.slice (some ⟨gT, oT, none⟩) 5 cT, .slice (some ⟨g3, o3, none⟩) 5 c3] rfl rfl 34 _ hz ref_info rfl (by simp [Value.oneCell']) ?_)
  refine bodyPost_ret (results_row_tmp rfl _ _ (w.heap.size + 2) 34 _ (0, 0) _ rfl (setRow_heap _ _ _ _ 34 (0, 0) hz) Try.underlying34 rfl ref_info) rfl ?_
  have hos := only_setRow w3 (w.heap.size + 2) #[.slice (some ⟨gT, oT, none⟩) 5 cT, .slice (some ⟨g3, o3, none⟩) 5 c3]
  refine ⟨_, rfl, HA3.out.only hos (by have := HLT.out; omega), (H3.out.setRow (.inr rfl) _).less (fun b hb => .inl hb), (HT3.out.setRow (.inr rfl) _).less (fun b hb => .inl hb), ?_⟩
  exact ⟨HO3.out.os, HO3.out.tape, HO3.out.output, Nat.le_trans HO3.out.size hos.size, fun k hk hkB => (hos.block k (Nat.lt_of_lt_of_le hk HO3.out.size) (by omega)).trans (HO3.out.block k hk hkB)⟩
set_option maxRecDepth 100000 in
set_option maxHeartbeats 4000000 in
theorem step_again (X : Nat → Prop) (B : Nat) (K L : List Nat) (vT vL : Value) (idle : Bool) (w : World) (hXB : X B) (hX : ∀ b, X b → b < w.heap.size) (h : At w B K L) (hT : Five w X vT K) (hL : Five w X vL L) :
    Calls Try.prog 12 #[.pointer (some ⟨B, 0, none⟩), .agg #[vT, vL], .agg #[.int .i64 3, .bool idle]] w (Good1 X B K vT w (againL K L)) := by
  have HT := Lib.hid hT
  have HL := Lib.hid hL
  obtain ⟨gT, oT, cT, rfl, _, _⟩ := hT
  obtain ⟨gL, oL, cL, rfl, _, _⟩ := hL
  have HXB := Lib.hid hXB
  have HX := Lib.hid hX
  obtain ⟨W, hW⟩ : ∃ W, W = (((w.alloc (.cells #[.slice (some ⟨gT, oT, none⟩) 5 cT, .slice (some ⟨gL, oL, none⟩) 5 cL] 34)).alloc (.cells #[.int .i64 3, .bool idle] 39)).alloc (.cells #[.slice none 0 0, .slice none 0 0] 34)) := ⟨_, rfl⟩
  have HAL : Hid (Below w.heap.size w W) := Lib.hid (by rw [hW]; exact (((Below.refl _ w).alloc (Nat.le_refl _) _).alloc (by simp) _).alloc (by simp; omega) _)
  have HSZ : Hid (W.heap.size = w.heap.size + 3) := Lib.hid (by rw [hW]; simp)
  have HLT : Hid (B < w.heap.size) := Lib.hid h.lt
  have HZ : Hid (W.heap[w.heap.size + 2]? = some (.cells #[.slice none 0 0, .slice none 0 0] 34 (0, 0))) := Lib.hid (by rw [hW]; have := heap_alloc_new ((w.alloc (.cells #[.slice (some ⟨gT, oT, none⟩) 5 cT, .slice (some ⟨gL, oL, none⟩) 5 cL] 34)).alloc (.cells #[.int .i64 3, .bool idle] 39)) (.cells #[.slice none 0 0, .slice none 0 0] 34); simpa using this)
  have HBX : Hid (W.heap[w.heap.size]? = some (.cells #[.slice (some ⟨gT, oT, none⟩) 5 cT, .slice (some ⟨gL, oL, none⟩) 5 cL] 34 (0, 0))) := Lib.hid (by rw [hW]; exact (((Below.refl (w.heap.size + 2) _).alloc (by simp) _).block w.heap.size (by omega)).trans (heap_alloc2_old w _ _))
  have HBA : Hid (W.heap[w.heap.size + 1]? = some (.cells #[.int .i64 3, .bool idle] 39 (0, 0))) := Lib.hid (by rw [hW]; exact (((Below.refl (w.heap.size + 2) _).alloc (by simp) _).block (w.heap.size + 1) (by omega)).trans (heap_alloc2_new w _ _))
  have HAW := Lib.hid (h.below HAL.out)
  have HTW : Hid (Five W (And1 X (w.heap.size + 2)) (.slice (some ⟨gT, oT, none⟩) 5 cT) K) := Lib.hid ((HT.out.grow (N' := And1 X (w.heap.size + 2)) (fun b hb => by rcases hb with h | h; exact .inl h; exact .inr (by omega))).below HAL.out)
  have HLW : Hid (Five W (And1 X (w.heap.size + 2)) (.slice (some ⟨gL, oL, none⟩) 5 cL) L) := Lib.hid ((HL.out.grow (N' := And1 X (w.heap.size + 2)) (fun b hb => by rcases hb with h | h; exact .inl h; exact .inr (by omega))).below HAL.out)
  have HXW : Hid (∀ b, And1 X (w.heap.size + 2) b → b < W.heap.size) := Lib.hid (fun b hb => by
    have := HSZ.out
    rcases hb with h | h
    · have := hX b h; omega
    · omega)
  have hWX : True := trivial
  clear hXB hX h HT HL hWX
  go_enter Try.func12, Try.ntmps12
  go_wp2_with fail
  rw [← hW]
  clear hW
  refine (again_any B K L _ HAW.out).mono ?_; rintro e w2 ⟨⟨v2, rfl⟩, ha2, ho2⟩
  have HA2 := Lib.hid ha2
  have HO2 := Lib.hid ho2
  have hbx := (ho2.block w.heap.size (by have := HSZ.out; omega) (by have := HLT.out; omega)).trans HBX.out
  have c0 : w2.cell? ⟨w.heap.size, 0, none⟩ = some (.slice (some ⟨gT, oT, none⟩) 5 cT) := (cell_of_row _ _ _ _ _ _ hbx).trans rfl
  have c1 : w2.cell? ⟨w.heap.size, 1, none⟩ = some (.slice (some ⟨gL, oL, none⟩) 5 cL) := (cell_of_row _ _ _ _ _ _ hbx).trans rfl
  clear hbx ha2 ho2
  go_wp2_with fail
  refine (ragain_any (And1 X (w.heap.size + 2)) K L _ _ _ (fun b hb => Nat.lt_of_lt_of_le (HXW.out b hb) HO2.out.size) (HTW.out.only HO2.out (.inl HXB.out)) (HLW.out.only HO2.out (.inl HXB.out))).mono ?_; rintro e w3 ⟨v3, rfl, h3, hb3⟩
  have H3 := Lib.hid h3
  have HA3 := Lib.hid (HA2.out.below hb3)
  have HT3 := Lib.hid ((HTW.out.only HO2.out (.inl HXB.out)).below hb3)
  have HK3 : Hid (∀ k, k < W.heap.size → k ≠ B → w3.heap[k]? = W.heap[k]?) := Lib.hid (fun k hk hkB => (hb3.block k (Nat.lt_of_lt_of_le hk HO2.out.size)).trans (HO2.out.block k hk hkB))
  have HO3 : Hid (Only w w3 B) := Lib.hid (((Only.of_below HAL.out).trans HO2.out).trans (Only.of_below hb3))
  obtain ⟨g3, o3, c3, rfl, _, _⟩ := h3
  clear hb3 c0 c1 HA2 HO2
  have hz : w3.heap[w.heap.size + 2]? = some (.cells #[.slice none 0 0, .slice none 0 0] 34 (0, 0)) := (HK3.out (w.heap.size + 2) (by have := HSZ.out; omega) (by have := HLT.out; omega)).trans HZ.out
  go_wp2_with (refine wpList_store_row rfl 34 _ _ rfl (w.heap.size + 2) #[.slice (some ⟨gT, oT, none⟩) 5 cT, .slice (some ⟨g3, o3, none⟩) 5 c3] rfl rfl 34 _ hz ref_info rfl (by simp [Value.oneCell']) ?_)
  refine bodyPost_ret (results_row_tmp rfl _ _ (w.heap.size + 2) 34 _ (0, 0) _ rfl (setRow_heap _ _ _ _ 34 (0, 0) hz) Try.underlying34 rfl ref_info) rfl ?_
  have hos := only_setRow w3 (w.heap.size + 2) #[.slice (some ⟨gT, oT, none⟩) 5 cT, .slice (some ⟨g3, o3, none⟩) 5 c3]
  refine ⟨_, rfl, HA3.out.only hos (by have := HLT.out; omega), (H3.out.setRow (.inr rfl) _).less (fun b hb => .inl hb), (HT3.out.setRow (.inr rfl) _).less (fun b hb => .inl hb), ?_⟩
  exact ⟨HO3.out.os, HO3.out.tape, HO3.out.output, Nat.le_trans HO3.out.size hos.size, fun k hk hkB => (hos.block k (Nat.lt_of_lt_of_le hk HO3.out.size) (by omega)).trans (HO3.out.block k hk hkB)⟩
set_option maxRecDepth 100000 in
set_option maxHeartbeats 4000000 in
theorem step_enough (X : Nat → Prop) (B : Nat) (K L : List Nat) (vT vL : Value) (idle : Bool) (w : World) (hXB : X B) (hX : ∀ b, X b → b < w.heap.size) (h : At w B K L) (hT : Five w X vT K) (hL : Five w X vL L) :
    Calls Try.prog 12 #[.pointer (some ⟨B, 0, none⟩), .agg #[vT, vL], .agg #[.int .i64 4, .bool idle]] w (Good1 X B K vT w (enoughL L)) := by
  have HT := Lib.hid hT
  have HL := Lib.hid hL
  obtain ⟨gT, oT, cT, rfl, _, _⟩ := hT
  obtain ⟨gL, oL, cL, rfl, _, _⟩ := hL
  have HXB := Lib.hid hXB
  have HX := Lib.hid hX
  obtain ⟨W, hW⟩ : ∃ W, W = (((w.alloc (.cells #[.slice (some ⟨gT, oT, none⟩) 5 cT, .slice (some ⟨gL, oL, none⟩) 5 cL] 34)).alloc (.cells #[.int .i64 4, .bool idle] 39)).alloc (.cells #[.slice none 0 0, .slice none 0 0] 34)) := ⟨_, rfl⟩
  have HAL : Hid (Below w.heap.size w W) := Lib.hid (by rw [hW]; exact (((Below.refl _ w).alloc (Nat.le_refl _) _).alloc (by simp) _).alloc (by simp; omega) _)
  have HSZ : Hid (W.heap.size = w.heap.size + 3) := Lib.hid (by rw [hW]; simp)
  have HLT : Hid (B < w.heap.size) := Lib.hid h.lt
  have HZ : Hid (W.heap[w.heap.size + 2]? = some (.cells #[.slice none 0 0, .slice none 0 0] 34 (0, 0))) := Lib.hid (by rw [hW]; have := heap_alloc_new ((w.alloc (.cells #[.slice (some ⟨gT, oT, none⟩) 5 cT, .slice (some ⟨gL, oL, none⟩) 5 cL] 34)).alloc (.cells #[.int .i64 4, .bool idle] 39)) (.cells #[.slice none 0 0, .slice none 0 0] 34); simpa using this)
  have HBX : Hid (W.heap[w.heap.size]? = some (.cells #[.slice (some ⟨gT, oT, none⟩) 5 cT, .slice (some ⟨gL, oL, none⟩) 5 cL] 34 (0, 0))) := Lib.hid (by rw [hW]; exact (((Below.refl (w.heap.size + 2) _).alloc (by simp) _).block w.heap.size (by omega)).trans (heap_alloc2_old w _ _))
  have HBA : Hid (W.heap[w.heap.size + 1]? = some (.cells #[.int .i64 4, .bool idle] 39 (0, 0))) := Lib.hid (by rw [hW]; exact (((Below.refl (w.heap.size + 2) _).alloc (by simp) _).block (w.heap.size + 1) (by omega)).trans (heap_alloc2_new w _ _))
  have HAW := Lib.hid (h.below HAL.out)
  have HTW : Hid (Five W (And1 X (w.heap.size + 2)) (.slice (some ⟨gT, oT, none⟩) 5 cT) K) := Lib.hid ((HT.out.grow (N' := And1 X (w.heap.size + 2)) (fun b hb => by rcases hb with h | h; exact .inl h; exact .inr (by omega))).below HAL.out)
  have HLW : Hid (Five W (And1 X (w.heap.size + 2)) (.slice (some ⟨gL, oL, none⟩) 5 cL) L) := Lib.hid ((HL.out.grow (N' := And1 X (w.heap.size + 2)) (fun b hb => by rcases hb with h | h; exact .inl h; exact .inr (by omega))).below HAL.out)
  have HXW : Hid (∀ b, And1 X (w.heap.size + 2) b → b < W.heap.size) := Lib.hid (fun b hb => by
    have := HSZ.out
    rcases hb with h | h
    · have := hX b h; omega
    · omega)
  have hWX : True := trivial
  clear hXB hX h HT HL hWX
  go_enter Try.func12, Try.ntmps12
  go_wp2_with fail
  rw [← hW]
  clear hW
  refine (enough_any B K L _ HAW.out).mono ?_; rintro e w2 ⟨⟨v2, rfl⟩, ha2, ho2⟩
  have HA2 := Lib.hid ha2
  have HO2 := Lib.hid ho2
  have hbx := (ho2.block w.heap.size (by have := HSZ.out; omega) (by have := HLT.out; omega)).trans HBX.out
  have c0 : w2.cell? ⟨w.heap.size, 0, none⟩ = some (.slice (some ⟨gT, oT, none⟩) 5 cT) := (cell_of_row _ _ _ _ _ _ hbx).trans rfl
  have c1 : w2.cell? ⟨w.heap.size, 1, none⟩ = some (.slice (some ⟨gL, oL, none⟩) 5 cL) := (cell_of_row _ _ _ _ _ _ hbx).trans rfl
  clear hbx ha2 ho2
  go_wp2_with fail
  refine (renough_any (And1 X (w.heap.size + 2)) K L _ _ _ (fun b hb => Nat.lt_of_lt_of_le (HXW.out b hb) HO2.out.size) (HTW.out.only HO2.out (.inl HXB.out)) (HLW.out.only HO2.out (.inl HXB.out))).mono ?_; rintro e w3 ⟨v3, rfl, h3, hb3⟩
  have H3 := Lib.hid h3
  have HA3 := Lib.hid (HA2.out.below hb3)
  have HT3 := Lib.hid ((HTW.out.only HO2.out (.inl HXB.out)).below hb3)
  have HK3 : Hid (∀ k, k < W.heap.size → k ≠ B → w3.heap[k]? = W.heap[k]?) := Lib.hid (fun k hk hkB => (hb3.block k (Nat.lt_of_lt_of_le hk HO2.out.size)).trans (HO2.out.block k hk hkB))
  have HO3 : Hid (Only w w3 B) := Lib.hid (((Only.of_below HAL.out).trans HO2.out).trans (Only.of_below hb3))
  obtain ⟨g3, o3, c3, rfl, _, _⟩ := h3
  clear hb3 c0 c1 HA2 HO2
  have hz : w3.heap[w.heap.size + 2]? = some (.cells #[.slice none 0 0, .slice none 0 0] 34 (0, 0)) := (HK3.out (w.heap.size + 2) (by have := HSZ.out; omega) (by have := HLT.out; omega)).trans HZ.out
  go_wp2_with (refine wpList_store_row rfl 34 _ _ rfl (w.heap.size + 2) #[.slice (some ⟨gT, oT, none⟩) 5 cT, .slice (some ⟨g3, o3, none⟩) 5 c3] rfl rfl 34 _ hz ref_info rfl (by simp [Value.oneCell']) ?_)
  refine bodyPost_ret (results_row_tmp rfl _ _ (w.heap.size + 2) 34 _ (0, 0) _ rfl (setRow_heap _ _ _ _ 34 (0, 0) hz) Try.underlying34 rfl ref_info) rfl ?_
  have hos := only_setRow w3 (w.heap.size + 2) #[.slice (some ⟨gT, oT, none⟩) 5 cT, .slice (some ⟨g3, o3, none⟩) 5 c3]
  refine ⟨_, rfl, HA3.out.only hos (by have := HLT.out; omega), (H3.out.setRow (.inr rfl) _).less (fun b hb => .inl hb), (HT3.out.setRow (.inr rfl) _).less (fun b hb => .inl hb), ?_⟩
  exact ⟨HO3.out.os, HO3.out.tape, HO3.out.output, Nat.le_trans HO3.out.size hos.size, fun k hk hkB => (hos.block k (Nat.lt_of_lt_of_le hk HO3.out.size) (by omega)).trans (HO3.out.block k hk hkB)⟩
set_option maxRecDepth 100000 in
set_option maxHeartbeats 4000000 in
theorem step_busy (X : Nat → Prop) (B : Nat) (K L : List Nat) (vT vL : Value) (idle : Bool) (w : World) (hXB : X B) (hX : ∀ b, X b → b < w.heap.size) (h : At w B K L) (hT : Five w X vT K) (hL : Five w X vL L) :
    Calls Try.prog 12 #[.pointer (some ⟨B, 0, none⟩), .agg #[vT, vL], .agg #[.int .i64 5, .bool idle]] w (Good1 X B K vT w (busyL K L)) := by
  have HT := Lib.hid hT
  have HL := Lib.hid hL
  obtain ⟨gT, oT, cT, rfl, _, _⟩ := hT
  obtain ⟨gL, oL, cL, rfl, _, _⟩ := hL
  have HXB := Lib.hid hXB
  have HX := Lib.hid hX
  obtain ⟨W, hW⟩ : ∃ W, W = (((w.alloc (.cells #[.slice (some ⟨gT, oT, none⟩) 5 cT, .slice (some ⟨gL, oL, none⟩) 5 cL] 34)).alloc (.cells #[.int .i64 5, .bool idle] 39)).alloc (.cells #[.slice none 0 0, .slice none 0 0] 34)) := ⟨_, rfl⟩
  have HAL : Hid (Below w.heap.size w W) := Lib.hid (by rw [hW]; exact (((Below.refl _ w).alloc (Nat.le_refl _) _).alloc (by simp) _).alloc (by simp; omega) _)
  have HSZ : Hid (W.heap.size = w.heap.size + 3) := Lib.hid (by rw [hW]; simp)
  have HLT : Hid (B < w.heap.size) := Lib.hid h.lt
  have HZ : Hid (W.heap[w.heap.size + 2]? = some (.cells #[.slice none 0 0, .slice none 0 0] 34 (0, 0))) := Lib.hid (by rw [hW]; have := heap_alloc_new ((w.alloc (.cells #[.slice (some ⟨gT, oT, none⟩) 5 cT, .slice (some ⟨gL, oL, none⟩) 5 cL] 34)).alloc (.cells #[.int .i64 5, .bool idle] 39)) (.cells #[.slice none 0 0, .slice none 0 0] 34); simpa using this)
  have HBX : Hid (W.heap[w.heap.size]? = some (.cells #[.slice (some ⟨gT, oT, none⟩) 5 cT, .slice (some ⟨gL, oL, none⟩) 5 cL] 34 (0, 0))) := Lib.hid (by rw [hW]; exact (((Below.refl (w.heap.size + 2) _).alloc (by simp) _).block w.heap.size (by omega)).trans (heap_alloc2_old w _ _))
  have HBA : Hid (W.heap[w.heap.size + 1]? = some (.cells #[.int .i64 5, .bool idle] 39 (0, 0))) := Lib.hid (by rw [hW]; exact (((Below.refl (w.heap.size + 2) _).alloc (by simp) _).block (w.heap.size + 1) (by omega)).trans (heap_alloc2_new w _ _))
  have HAW := Lib.hid (h.below HAL.out)
  have HTW : Hid (Five W (And1 X (w.heap.size + 2)) (.slice (some ⟨gT, oT, none⟩) 5 cT) K) := Lib.hid ((HT.out.grow (N' := And1 X (w.heap.size + 2)) (fun b hb => by rcases hb with h | h; exact .inl h; exact .inr (by omega))).below HAL.out)
  have HLW : Hid (Five W (And1 X (w.heap.size + 2)) (.slice (some ⟨gL, oL, none⟩) 5 cL) L) := Lib.hid ((HL.out.grow (N' := And1 X (w.heap.size + 2)) (fun b hb => by rcases hb with h | h; exact .inl h; exact .inr (by omega))).below HAL.out)
  have HXW : Hid (∀ b, And1 X (w.heap.size + 2) b → b < W.heap.size) := Lib.hid (fun b hb => by
    have := HSZ.out
    rcases hb with h | h
    · have := hX b h; omega
    · omega)
  have hWX : True := trivial
  clear hXB hX h HT HL hWX
  go_enter Try.func12, Try.ntmps12
  go_wp2_with fail
  rw [← hW]
  clear hW
  refine (busy_any B K L _ HAW.out).mono ?_; rintro e w2 ⟨⟨v2, rfl⟩, ha2, ho2⟩
  have HA2 := Lib.hid ha2
  have HO2 := Lib.hid ho2
  have hbx := (ho2.block w.heap.size (by have := HSZ.out; omega) (by have := HLT.out; omega)).trans HBX.out
  have c0 : w2.cell? ⟨w.heap.size, 0, none⟩ = some (.slice (some ⟨gT, oT, none⟩) 5 cT) := (cell_of_row _ _ _ _ _ _ hbx).trans rfl
  have c1 : w2.cell? ⟨w.heap.size, 1, none⟩ = some (.slice (some ⟨gL, oL, none⟩) 5 cL) := (cell_of_row _ _ _ _ _ _ hbx).trans rfl
  clear hbx ha2 ho2
  go_wp2_with fail
  refine (rbusy_any (And1 X (w.heap.size + 2)) K L _ _ _ (fun b hb => Nat.lt_of_lt_of_le (HXW.out b hb) HO2.out.size) (HTW.out.only HO2.out (.inl HXB.out)) (HLW.out.only HO2.out (.inl HXB.out))).mono ?_; rintro e w3 ⟨v3, rfl, h3, hb3⟩
  have H3 := Lib.hid h3
  have HA3 := Lib.hid (HA2.out.below hb3)
  have HT3 := Lib.hid ((HTW.out.only HO2.out (.inl HXB.out)).below hb3)
  have HK3 : Hid (∀ k, k < W.heap.size → k ≠ B → w3.heap[k]? = W.heap[k]?) := Lib.hid (fun k hk hkB => (hb3.block k (Nat.lt_of_lt_of_le hk HO2.out.size)).trans (HO2.out.block k hk hkB))
  have HO3 : Hid (Only w w3 B) := Lib.hid (((Only.of_below HAL.out).trans HO2.out).trans (Only.of_below hb3))
  obtain ⟨g3, o3, c3, rfl, _, _⟩ := h3
  clear hb3 c0 c1 HA2 HO2
  have hz : w3.heap[w.heap.size + 2]? = some (.cells #[.slice none 0 0, .slice none 0 0] 34 (0, 0)) := (HK3.out (w.heap.size + 2) (by have := HSZ.out; omega) (by have := HLT.out; omega)).trans HZ.out
  go_wp2_with (refine wpList_store_row rfl 34 _ _ rfl (w.heap.size + 2) #[.slice (some ⟨gT, oT, none⟩) 5 cT, .slice (some ⟨g3, o3, none⟩) 5 c3] rfl rfl 34 _ hz ref_info rfl (by simp [Value.oneCell']) ?_)
  refine bodyPost_ret (results_row_tmp rfl _ _ (w.heap.size + 2) 34 _ (0, 0) _ rfl (setRow_heap _ _ _ _ 34 (0, 0) hz) Try.underlying34 rfl ref_info) rfl ?_
  have hos := only_setRow w3 (w.heap.size + 2) #[.slice (some ⟨gT, oT, none⟩) 5 cT, .slice (some ⟨g3, o3, none⟩) 5 c3]
  refine ⟨_, rfl, HA3.out.only hos (by have := HLT.out; omega), (H3.out.setRow (.inr rfl) _).less (fun b hb => .inl hb), (HT3.out.setRow (.inr rfl) _).less (fun b hb => .inl hb), ?_⟩
  exact ⟨HO3.out.os, HO3.out.tape, HO3.out.output, Nat.le_trans HO3.out.size hos.size, fun k hk hkB => (hos.block k (Nat.lt_of_lt_of_le hk HO3.out.size) (by omega)).trans (HO3.out.block k hk hkB)⟩
set_option maxRecDepth 100000 in
set_option maxHeartbeats 4000000 in
theorem step_polled (X : Nat → Prop) (B : Nat) (K L : List Nat) (vT vL : Value) (idle : Bool) (w : World) (hXB : X B) (hX : ∀ b, X b → b < w.heap.size) (h : At w B K L) (hT : Five w X vT K) (hL : Five w X vL L) :
    Calls Try.prog 12 #[.pointer (some ⟨B, 0, none⟩), .agg #[vT, vL], .agg #[.int .i64 6, .bool idle]] w (Good1 X B K vT w (polledL K L idle)) := by
  have HT := Lib.hid hT
  have HL := Lib.hid hL
  obtain ⟨gT, oT, cT, rfl, _, _⟩ := hT
  obtain ⟨gL, oL, cL, rfl, _, _⟩ := hL
  have HXB := Lib.hid hXB
  have HX := Lib.hid hX
  obtain ⟨W, hW⟩ : ∃ W, W = (((w.alloc (.cells #[.slice (some ⟨gT, oT, none⟩) 5 cT, .slice (some ⟨gL, oL, none⟩) 5 cL] 34)).alloc (.cells #[.int .i64 6, .bool idle] 39)).alloc (.cells #[.slice none 0 0, .slice none 0 0] 34)) := ⟨_, rfl⟩
  have HAL : Hid (Below w.heap.size w W) := Lib.hid (by rw [hW]; exact (((Below.refl _ w).alloc (Nat.le_refl _) _).alloc (by simp) _).alloc (by simp; omega) _)
  have HSZ : Hid (W.heap.size = w.heap.size + 3) := Lib.hid (by rw [hW]; simp)
  have HLT : Hid (B < w.heap.size) := Lib.hid h.lt
  have HZ : Hid (W.heap[w.heap.size + 2]? = some (.cells #[.slice none 0 0, .slice none 0 0] 34 (0, 0))) := Lib.hid (by rw [hW]; have := heap_alloc_new ((w.alloc (.cells #[.slice (some ⟨gT, oT, none⟩) 5 cT, .slice (some ⟨gL, oL, none⟩) 5 cL] 34)).alloc (.cells #[.int .i64 6, .bool idle] 39)) (.cells #[.slice none 0 0, .slice none 0 0] 34); simpa using this)
  have HBX : Hid (W.heap[w.heap.size]? = some (.cells #[.slice (some ⟨gT, oT, none⟩) 5 cT, .slice (some ⟨gL, oL, none⟩) 5 cL] 34 (0, 0))) := Lib.hid (by rw [hW]; exact (((Below.refl (w.heap.size + 2) _).alloc (by simp) _).block w.heap.size (by omega)).trans (heap_alloc2_old w _ _))
  have HBA : Hid (W.heap[w.heap.size + 1]? = some (.cells #[.int .i64 6, .bool idle] 39 (0, 0))) := Lib.hid (by rw [hW]; exact (((Below.refl (w.heap.size + 2) _).alloc (by simp) _).block (w.heap.size + 1) (by omega)).trans (heap_alloc2_new w _ _))
  have HAW := Lib.hid (h.below HAL.out)
  have HTW : Hid (Five W (And1 X (w.heap.size + 2)) (.slice (some ⟨gT, oT, none⟩) 5 cT) K) := Lib.hid ((HT.out.grow (N' := And1 X (w.heap.size + 2)) (fun b hb => by rcases hb with h | h; exact .inl h; exact .inr (by omega))).below HAL.out)
  have HLW : Hid (Five W (And1 X (w.heap.size + 2)) (.slice (some ⟨gL, oL, none⟩) 5 cL) L) := Lib.hid ((HL.out.grow (N' := And1 X (w.heap.size + 2)) (fun b hb => by rcases hb with h | h; exact .inl h; exact .inr (by omega))).below HAL.out)
  have HXW : Hid (∀ b, And1 X (w.heap.size + 2) b → b < W.heap.size) := Lib.hid (fun b hb => by
    have := HSZ.out
    rcases hb with h | h
    · have := hX b h; omega
    · omega)
  have hWX : True := trivial
  clear hXB hX h HT HL hWX
  go_enter Try.func12, Try.ntmps12
  go_wp2_with fail
  rw [← hW]
  clear hW
  refine (polled_any B K L _ idle HAW.out).mono ?_; rintro e w2 ⟨⟨v2, rfl⟩, ha2, ho2⟩
  have HA2 := Lib.hid ha2
  have HO2 := Lib.hid ho2
  have hbx := (ho2.block w.heap.size (by have := HSZ.out; omega) (by have := HLT.out; omega)).trans HBX.out
  have c0 : w2.cell? ⟨w.heap.size, 0, none⟩ = some (.slice (some ⟨gT, oT, none⟩) 5 cT) := (cell_of_row _ _ _ _ _ _ hbx).trans rfl
  have c1 : w2.cell? ⟨w.heap.size, 1, none⟩ = some (.slice (some ⟨gL, oL, none⟩) 5 cL) := (cell_of_row _ _ _ _ _ _ hbx).trans rfl
  have hba := (ho2.block (w.heap.size + 1) (by have := HSZ.out; omega) (by have := HLT.out; omega)).trans HBA.out
  have c2 : w2.cell? ⟨w.heap.size + 1, 1, none⟩ = some (.bool idle) := (cell_of_row _ _ _ _ _ _ hba).trans rfl
  clear hba
  clear hbx ha2 ho2
  go_wp2_with fail
  refine (rpolled_any (And1 X (w.heap.size + 2)) K L _ _ _ idle (fun b hb => Nat.lt_of_lt_of_le (HXW.out b hb) HO2.out.size) (HTW.out.only HO2.out (.inl HXB.out)) (HLW.out.only HO2.out (.inl HXB.out))).mono ?_; rintro e w3 ⟨v3, rfl, h3, hb3⟩
  have H3 := Lib.hid h3
  have HA3 := Lib.hid (HA2.out.below hb3)
  have HT3 := Lib.hid ((HTW.out.only HO2.out (.inl HXB.out)).below hb3)
  have HK3 : Hid (∀ k, k < W.heap.size → k ≠ B → w3.heap[k]? = W.heap[k]?) := Lib.hid (fun k hk hkB => (hb3.block k (Nat.lt_of_lt_of_le hk HO2.out.size)).trans (HO2.out.block k hk hkB))
  have HO3 : Hid (Only w w3 B) := Lib.hid (((Only.of_below HAL.out).trans HO2.out).trans (Only.of_below hb3))
  obtain ⟨g3, o3, c3, rfl, _, _⟩ := h3
  clear hb3 c0 c1 HA2 HO2
  have hz : w3.heap[w.heap.size + 2]? = some (.cells #[.slice none 0 0, .slice none 0 0] 34 (0, 0)) := (HK3.out (w.heap.size + 2) (by have := HSZ.out; omega) (by have := HLT.out; omega)).trans HZ.out
  go_wp2_with (refine wpList_store_row rfl 34 _ _ rfl (w.heap.size + 2) #[.slice (some ⟨gT, oT, none⟩) 5 cT, .slice (some ⟨g3, o3, none⟩) 5 c3] rfl rfl 34 _ hz ref_info rfl (by simp [Value.oneCell']) ?_)
  refine bodyPost_ret (results_row_tmp rfl _ _ (w.heap.size + 2) 34 _ (0, 0) _ rfl (setRow_heap _ _ _ _ 34 (0, 0) hz) Try.underlying34 rfl ref_info) rfl ?_
  have hos := only_setRow w3 (w.heap.size + 2) #[.slice (some ⟨gT, oT, none⟩) 5 cT, .slice (some ⟨g3, o3, none⟩) 5 c3]
  refine ⟨_, rfl, HA3.out.only hos (by have := HLT.out; omega), (H3.out.setRow (.inr rfl) _).less (fun b hb => .inl hb), (HT3.out.setRow (.inr rfl) _).less (fun b hb => .inl hb), ?_⟩
  exact ⟨HO3.out.os, HO3.out.tape, HO3.out.output, Nat.le_trans HO3.out.size hos.size, fun k hk hkB => (hos.block k (Nat.lt_of_lt_of_le hk HO3.out.size) (by omega)).trans (HO3.out.block k hk hkB)⟩
set_option maxRecDepth 100000 in
set_option maxHeartbeats 4000000 in
theorem step_answered (X : Nat → Prop) (B : Nat) (K L : List Nat) (vT vL : Value) (idle : Bool) (w : World) (hXB : X B) (hX : ∀ b, X b → b < w.heap.size) (h : At w B K L) (hT : Five w X vT K) (hL : Five w X vL L) :
    Calls Try.prog 12 #[.pointer (some ⟨B, 0, none⟩), .agg #[vT, vL], .agg #[.int .i64 7, .bool idle]] w (Good1 X B K vT w (answeredL K L idle)) := by
  have HT := Lib.hid hT
  have HL := Lib.hid hL
  obtain ⟨gT, oT, cT, rfl, _, _⟩ := hT
  obtain ⟨gL, oL, cL, rfl, _, _⟩ := hL
  have HXB := Lib.hid hXB
  have HX := Lib.hid hX
  obtain ⟨W, hW⟩ : ∃ W, W = (((w.alloc (.cells #[.slice (some ⟨gT, oT, none⟩) 5 cT, .slice (some ⟨gL, oL, none⟩) 5 cL] 34)).alloc (.cells #[.int .i64 7, .bool idle] 39)).alloc (.cells #[.slice none 0 0, .slice none 0 0] 34)) := ⟨_, rfl⟩
  have HAL : Hid (Below w.heap.size w W) := Lib.hid (by rw [hW]; exact (((Below.refl _ w).alloc (Nat.le_refl _) _).alloc (by simp) _).alloc (by simp; omega) _)
  have HSZ : Hid (W.heap.size = w.heap.size + 3) := Lib.hid (by rw [hW]; simp)
  have HLT : Hid (B < w.heap.size) := Lib.hid h.lt
  have HZ : Hid (W.heap[w.heap.size + 2]? = some (.cells #[.slice none 0 0, .slice none 0 0] 34 (0, 0))) := Lib.hid (by rw [hW]; have := heap_alloc_new ((w.alloc (.cells #[.slice (some ⟨gT, oT, none⟩) 5 cT, .slice (some ⟨gL, oL, none⟩) 5 cL] 34)).alloc (.cells #[.int .i64 7, .bool idle] 39)) (.cells #[.slice none 0 0, .slice none 0 0] 34); simpa using this)
  have HBX : Hid (W.heap[w.heap.size]? = some (.cells #[.slice (some ⟨gT, oT, none⟩) 5 cT, .slice (some ⟨gL, oL, none⟩) 5 cL] 34 (0, 0))) := Lib.hid (by rw [hW]; exact (((Below.refl (w.heap.size + 2) _).alloc (by simp) _).block w.heap.size (by omega)).trans (heap_alloc2_old w _ _))
  have HBA : Hid (W.heap[w.heap.size + 1]? = some (.cells #[.int .i64 7, .bool idle] 39 (0, 0))) := Lib.hid (by rw [hW]; exact (((Below.refl (w.heap.size + 2) _).alloc (by simp) _).block (w.heap.size + 1) (by omega)).trans (heap_alloc2_new w _ _))
  have HAW := Lib.hid (h.below HAL.out)
  have HTW : Hid (Five W (And1 X (w.heap.size + 2)) (.slice (some ⟨gT, oT, none⟩) 5 cT) K) := Lib.hid ((HT.out.grow (N' := And1 X (w.heap.size + 2)) (fun b hb => by rcases hb with h | h; exact .inl h; exact .inr (by omega))).below HAL.out)
  have HLW : Hid (Five W (And1 X (w.heap.size + 2)) (.slice (some ⟨gL, oL, none⟩) 5 cL) L) := Lib.hid ((HL.out.grow (N' := And1 X (w.heap.size + 2)) (fun b hb => by rcases hb with h | h; exact .inl h; exact .inr (by omega))).below HAL.out)
  have HXW : Hid (∀ b, And1 X (w.heap.size + 2) b → b < W.heap.size) := Lib.hid (fun b hb => by
    have := HSZ.out
    rcases hb with h | h
    · have := hX b h; omega
    · omega)
  have hWX : True := trivial
  clear hXB hX h HT HL hWX
  go_enter Try.func12, Try.ntmps12
  go_wp2_with fail
  rw [← hW]
  clear hW
  refine (answered_any B K L _ idle HAW.out).mono ?_; rintro e w2 ⟨⟨v2, rfl⟩, ha2, ho2⟩
  have HA2 := Lib.hid ha2
  have HO2 := Lib.hid ho2
  have hbx := (ho2.block w.heap.size (by have := HSZ.out; omega) (by have := HLT.out; omega)).trans HBX.out
  have c0 : w2.cell? ⟨w.heap.size, 0, none⟩ = some (.slice (some ⟨gT, oT, none⟩) 5 cT) := (cell_of_row _ _ _ _ _ _ hbx).trans rfl
  have c1 : w2.cell? ⟨w.heap.size, 1, none⟩ = some (.slice (some ⟨gL, oL, none⟩) 5 cL) := (cell_of_row _ _ _ _ _ _ hbx).trans rfl
  have hba := (ho2.block (w.heap.size + 1) (by have := HSZ.out; omega) (by have := HLT.out; omega)).trans HBA.out
  have c2 : w2.cell? ⟨w.heap.size + 1, 1, none⟩ = some (.bool idle) := (cell_of_row _ _ _ _ _ _ hba).trans rfl
  clear hba
  clear hbx ha2 ho2
  go_wp2_with fail
  refine (ranswered_any (And1 X (w.heap.size + 2)) K L _ _ _ idle (fun b hb => Nat.lt_of_lt_of_le (HXW.out b hb) HO2.out.size) (HTW.out.only HO2.out (.inl HXB.out)) (HLW.out.only HO2.out (.inl HXB.out))).mono ?_; rintro e w3 ⟨v3, rfl, h3, hb3⟩
  have H3 := Lib.hid h3
  have HA3 := Lib.hid (HA2.out.below hb3)
  have HT3 := Lib.hid ((HTW.out.only HO2.out (.inl HXB.out)).below hb3)
  have HK3 : Hid (∀ k, k < W.heap.size → k ≠ B → w3.heap[k]? = W.heap[k]?) := Lib.hid (fun k hk hkB => (hb3.block k (Nat.lt_of_lt_of_le hk HO2.out.size)).trans (HO2.out.block k hk hkB))
  have HO3 : Hid (Only w w3 B) := Lib.hid (((Only.of_below HAL.out).trans HO2.out).trans (Only.of_below hb3))
  obtain ⟨g3, o3, c3, rfl, _, _⟩ := h3
  clear hb3 c0 c1 HA2 HO2
  have hz : w3.heap[w.heap.size + 2]? = some (.cells #[.slice none 0 0, .slice none 0 0] 34 (0, 0)) := (HK3.out (w.heap.size + 2) (by have := HSZ.out; omega) (by have := HLT.out; omega)).trans HZ.out
  go_wp2_with (refine wpList_store_row rfl 34 _ _ rfl (w.heap.size + 2) #[.slice (some ⟨gT, oT, none⟩) 5 cT, .slice (some ⟨g3, o3, none⟩) 5 c3] rfl rfl 34 _ hz ref_info rfl (by simp [Value.oneCell']) ?_)
  refine bodyPost_ret (results_row_tmp rfl _ _ (w.heap.size + 2) 34 _ (0, 0) _ rfl (setRow_heap _ _ _ _ 34 (0, 0) hz) Try.underlying34 rfl ref_info) rfl ?_
  have hos := only_setRow w3 (w.heap.size + 2) #[.slice (some ⟨gT, oT, none⟩) 5 cT, .slice (some ⟨g3, o3, none⟩) 5 c3]
  refine ⟨_, rfl, HA3.out.only hos (by have := HLT.out; omega), (H3.out.setRow (.inr rfl) _).less (fun b hb => .inl hb), (HT3.out.setRow (.inr rfl) _).less (fun b hb => .inl hb), ?_⟩
  exact ⟨HO3.out.os, HO3.out.tape, HO3.out.output, Nat.le_trans HO3.out.size hos.size, fun k hk hkB => (hos.block k (Nat.lt_of_lt_of_le hk HO3.out.size) (by omega)).trans (HO3.out.block k hk hkB)⟩
set_option maxRecDepth 100000 in
set_option maxHeartbeats 4000000 in
theorem step_clone (X : Nat → Prop) (B : Nat) (K L : List Nat) (vT vL : Value) (idle : Bool) (w : World) (hXB : X B) (hX : ∀ b, X b → b < w.heap.size) (h : At w B K L) (hT : Five w X vT K) (hL : Five w X vL L) :
    Calls Try.prog 12 #[.pointer (some ⟨B, 0, none⟩), .agg #[vT, vL], .agg #[.int .i64 8, .bool idle]] w (Good1 X B K vT w (L)) := by
  have HT := Lib.hid hT
  have HL := Lib.hid hL
  obtain ⟨gT, oT, cT, rfl, _, _⟩ := hT
  obtain ⟨gL, oL, cL, rfl, _, _⟩ := hL
  have HXB := Lib.hid hXB
  have HX := Lib.hid hX
  obtain ⟨W, hW⟩ : ∃ W, W = (((w.alloc (.cells #[.slice (some ⟨gT, oT, none⟩) 5 cT, .slice (some ⟨gL, oL, none⟩) 5 cL] 34)).alloc (.cells #[.int .i64 8, .bool idle] 39)).alloc (.cells #[.slice none 0 0, .slice none 0 0] 34)) := ⟨_, rfl⟩
  have HAL : Hid (Below w.heap.size w W) := Lib.hid (by rw [hW]; exact (((Below.refl _ w).alloc (Nat.le_refl _) _).alloc (by simp) _).alloc (by simp; omega) _)
  have HSZ : Hid (W.heap.size = w.heap.size + 3) := Lib.hid (by rw [hW]; simp)
  have HLT : Hid (B < w.heap.size) := Lib.hid h.lt
  have HZ : Hid (W.heap[w.heap.size + 2]? = some (.cells #[.slice none 0 0, .slice none 0 0] 34 (0, 0))) := Lib.hid (by rw [hW]; have := heap_alloc_new ((w.alloc (.cells #[.slice (some ⟨gT, oT, none⟩) 5 cT, .slice (some ⟨gL, oL, none⟩) 5 cL] 34)).alloc (.cells #[.int .i64 8, .bool idle] 39)) (.cells #[.slice none 0 0, .slice none 0 0] 34); simpa using this)
  have HBX : Hid (W.heap[w.heap.size]? = some (.cells #[.slice (some ⟨gT, oT, none⟩) 5 cT, .slice (some ⟨gL, oL, none⟩) 5 cL] 34 (0, 0))) := Lib.hid (by rw [hW]; exact (((Below.refl (w.heap.size + 2) _).alloc (by simp) _).block w.heap.size (by omega)).trans (heap_alloc2_old w _ _))
  have HBA : Hid (W.heap[w.heap.size + 1]? = some (.cells #[.int .i64 8, .bool idle] 39 (0, 0))) := Lib.hid (by rw [hW]; exact (((Below.refl (w.heap.size + 2) _).alloc (by simp) _).block (w.heap.size + 1) (by omega)).trans (heap_alloc2_new w _ _))
  have HAW := Lib.hid (h.below HAL.out)
  have HTW : Hid (Five W (And1 X (w.heap.size + 2)) (.slice (some ⟨gT, oT, none⟩) 5 cT) K) := Lib.hid ((HT.out.grow (N' := And1 X (w.heap.size + 2)) (fun b hb => by rcases hb with h | h; exact .inl h; exact .inr (by omega))).below HAL.out)
  have HLW : Hid (Five W (And1 X (w.heap.size + 2)) (.slice (some ⟨gL, oL, none⟩) 5 cL) L) := Lib.hid ((HL.out.grow (N' := And1 X (w.heap.size + 2)) (fun b hb => by rcases hb with h | h; exact .inl h; exact .inr (by omega))).below HAL.out)
  have HXW : Hid (∀ b, And1 X (w.heap.size + 2) b → b < W.heap.size) := Lib.hid (fun b hb => by
    have := HSZ.out
    rcases hb with h | h
    · have := hX b h; omega
    · omega)
  have hWX : True := trivial
  clear hXB hX h HT HL hWX
  go_enter Try.func12, Try.ntmps12
  go_wp2_with fail
  rw [← hW]
  clear hW
  refine (clone_any _ B K L HAW.out).mono ?_; rintro e w2 ⟨C, rfl, hC, hc2, hb2⟩
  have HC := Lib.hid hC
  have HC2 := Lib.hid hc2
  have HB2 := Lib.hid hb2
  have hbx := (hb2.block w.heap.size (by have := HSZ.out; omega)).trans HBX.out
  have c0 : w2.cell? ⟨w.heap.size, 0, none⟩ = some (.slice (some ⟨gT, oT, none⟩) 5 cT) := (cell_of_row _ _ _ _ _ _ hbx).trans rfl
  have c1 : w2.cell? ⟨w.heap.size, 1, none⟩ = some (.slice (some ⟨gL, oL, none⟩) 5 cL) := (cell_of_row _ _ _ _ _ _ hbx).trans rfl
  clear hbx hC hc2 hb2
  go_wp2_with fail
  refine (is_any (And1 X (w.heap.size + 2)) C K L _ _ _ HC2.out (HTW.out.below HB2.out) (HLW.out.below HB2.out)).mono ?_; rintro e w3 ⟨rfl, hb3⟩
  have HB3 := Lib.hid (HB2.out.trans (hb3.mono HB2.out.size))
  have HC3 := Lib.hid (HC2.out.below hb3)
  clear hb3 HC2 HB2 c0 c1
  go_wp2_with fail
  refine (begin_any C K L _ HC3.out).mono ?_; rintro e w4 ⟨⟨v4, rfl⟩, hc4, ho4⟩
  have HB4 := Lib.hid (ho4.below HB3.out HB3.out.size HC.out)
  have HC4 := Lib.hid hc4
  clear hc4 ho4 HC3 HB3
  go_wp2_with fail
  refine (tick_at C K (beginL K L) _ HC4.out).mono ?_; rintro e w5 ⟨v5, rfl, _, _, ho5⟩
  have HB5 := Lib.hid (ho5.below HB4.out HB4.out.size HC.out)
  clear ho5 HC4 HB4
  have hbx := (HB5.out.block w.heap.size (by have := HSZ.out; omega)).trans HBX.out
  have c0 : w5.cell? ⟨w.heap.size, 0, none⟩ = some (.slice (some ⟨gT, oT, none⟩) 5 cT) := (cell_of_row _ _ _ _ _ _ hbx).trans rfl
  have c1 : w5.cell? ⟨w.heap.size, 1, none⟩ = some (.slice (some ⟨gL, oL, none⟩) 5 cL) := (cell_of_row _ _ _ _ _ _ hbx).trans rfl
  clear hbx
  have H3 := Lib.hid (HLW.out.below HB5.out)
  have HA3 := Lib.hid (HAW.out.below HB5.out)
  have HT3 := Lib.hid (HTW.out.below HB5.out)
  have HK3 : Hid (∀ k, k < W.heap.size → k ≠ B → w5.heap[k]? = W.heap[k]?) := Lib.hid (fun k hk _ => HB5.out.block k hk)
  have HO3 : Hid (Only w w5 B) := Lib.hid ((Only.of_below HAL.out).trans (Only.of_below HB5.out))
  have hz : w5.heap[w.heap.size + 2]? = some (.cells #[.slice none 0 0, .slice none 0 0] 34 (0, 0)) := (HK3.out (w.heap.size + 2) (by have := HSZ.out; omega) (by have := HLT.out; omega)).trans HZ.out
  go_wp2_with (refine wpList_store_row rfl 34 _ _ rfl (w.heap.size + 2) #[.slice (some ⟨gT, oT, none⟩) 5 cT, .slice (some ⟨gL, oL, none⟩) 5 cL] rfl rfl 34 _ hz ref_info rfl (by simp [Value.oneCell']) ?_)
  refine bodyPost_ret (results_row_tmp rfl _ _ (w.heap.size + 2) 34 _ (0, 0) _ rfl (setRow_heap _ _ _ _ 34 (0, 0) hz) Try.underlying34 rfl ref_info) rfl ?_
  have hos := only_setRow w5 (w.heap.size + 2) #[.slice (some ⟨gT, oT, none⟩) 5 cT, .slice (some ⟨gL, oL, none⟩) 5 cL]
  refine ⟨_, rfl, HA3.out.only hos (by have := HLT.out; omega), (H3.out.setRow (.inr rfl) _).less (fun b hb => .inl hb), (HT3.out.setRow (.inr rfl) _).less (fun b hb => .inl hb), ?_⟩
  exact ⟨HO3.out.os, HO3.out.tape, HO3.out.output, Nat.le_trans HO3.out.size hos.size, fun k hk hkB => (hos.block k (Nat.lt_of_lt_of_le hk HO3.out.size) (by omega)).trans (HO3.out.block k hk hkB)⟩
set_option maxRecDepth 100000 in
set_option maxHeartbeats 4000000 in
theorem step_tick (X : Nat → Prop) (B : Nat) (K L : List Nat) (vT vL : Value) (kind : Int) (idle : Bool) (w : World) (hk : kind ≠ 1 ∧ kind ≠ 2 ∧ kind ≠ 3 ∧ kind ≠ 4 ∧ kind ≠ 5 ∧ kind ≠ 6 ∧ kind ≠ 7 ∧ kind ≠ 8) (hXB : X B) (hX : ∀ b, X b → b < w.heap.size) (h : At w B K L) (hT : Five w X vT K) (hL : Five w X vL L) :
    Calls Try.prog 12 #[.pointer (some ⟨B, 0, none⟩), .agg #[vT, vL], .agg #[.int .i64 kind, .bool idle]] w (Good1 X B K vT w (tickL L)) := by
  obtain ⟨n1, n2, n3, n4, n5, n6, n7, n8⟩ := hk
  have k1 : (kind == 1) = false := by simpa using n1
  have k2 : (kind == 2) = false := by simpa using n2
  have k3 : (kind == 3) = false := by simpa using n3
  have k4 : (kind == 4) = false := by simpa using n4
  have k5 : (kind == 5) = false := by simpa using n5
  have k6 : (kind == 6) = false := by simpa using n6
  have k7 : (kind == 7) = false := by simpa using n7
  have k8 : (kind == 8) = false := by simpa using n8
  clear n1 n2 n3 n4 n5 n6 n7 n8
  have HTOP := Lib.hid h.bank.top
  have HT := Lib.hid hT
  have HL := Lib.hid hL
  obtain ⟨gT, oT, cT, rfl, _, _⟩ := hT
  obtain ⟨gL, oL, cL, rfl, _, _⟩ := hL
  have HXB := Lib.hid hXB
  have HX := Lib.hid hX
  obtain ⟨W, hW⟩ : ∃ W, W = (((w.alloc (.cells #[.slice (some ⟨gT, oT, none⟩) 5 cT, .slice (some ⟨gL, oL, none⟩) 5 cL] 34)).alloc (.cells #[.int .i64 kind, .bool idle] 39)).alloc (.cells #[.slice none 0 0, .slice none 0 0] 34)) := ⟨_, rfl⟩
  have HAL : Hid (Below w.heap.size w W) := Lib.hid (by rw [hW]; exact (((Below.refl _ w).alloc (Nat.le_refl _) _).alloc (by simp) _).alloc (by simp; omega) _)
  have HSZ : Hid (W.heap.size = w.heap.size + 3) := Lib.hid (by rw [hW]; simp)
  have HLT : Hid (B < w.heap.size) := Lib.hid h.lt
  have HZ : Hid (W.heap[w.heap.size + 2]? = some (.cells #[.slice none 0 0, .slice none 0 0] 34 (0, 0))) := Lib.hid (by rw [hW]; have := heap_alloc_new ((w.alloc (.cells #[.slice (some ⟨gT, oT, none⟩) 5 cT, .slice (some ⟨gL, oL, none⟩) 5 cL] 34)).alloc (.cells #[.int .i64 kind, .bool idle] 39)) (.cells #[.slice none 0 0, .slice none 0 0] 34); simpa using this)
  have HBX : Hid (W.heap[w.heap.size]? = some (.cells #[.slice (some ⟨gT, oT, none⟩) 5 cT, .slice (some ⟨gL, oL, none⟩) 5 cL] 34 (0, 0))) := Lib.hid (by rw [hW]; exact (((Below.refl (w.heap.size + 2) _).alloc (by simp) _).block w.heap.size (by omega)).trans (heap_alloc2_old w _ _))
  have HBA : Hid (W.heap[w.heap.size + 1]? = some (.cells #[.int .i64 kind, .bool idle] 39 (0, 0))) := Lib.hid (by rw [hW]; exact (((Below.refl (w.heap.size + 2) _).alloc (by simp) _).block (w.heap.size + 1) (by omega)).trans (heap_alloc2_new w _ _))
  have HAW := Lib.hid (h.below HAL.out)
  have HTW : Hid (Five W (And1 X (w.heap.size + 2)) (.slice (some ⟨gT, oT, none⟩) 5 cT) K) := Lib.hid ((HT.out.grow (N' := And1 X (w.heap.size + 2)) (fun b hb => by rcases hb with h | h; exact .inl h; exact .inr (by omega))).below HAL.out)
  have HLW : Hid (Five W (And1 X (w.heap.size + 2)) (.slice (some ⟨gL, oL, none⟩) 5 cL) L) := Lib.hid ((HL.out.grow (N' := And1 X (w.heap.size + 2)) (fun b hb => by rcases hb with h | h; exact .inl h; exact .inr (by omega))).below HAL.out)
  have HXW : Hid (∀ b, And1 X (w.heap.size + 2) b → b < W.heap.size) := Lib.hid (fun b hb => by
    have := HSZ.out
    rcases hb with h | h
    · have := hX b h; omega
    · omega)
  have hWX : True := trivial
  clear hXB hX h HT HL hWX
  go_enter Try.func12, Try.ntmps12
  go_wp2_with fail
  rw [← hW]
  clear hW k1 k2 k3 k4 k5 k6 k7 k8
  refine (rtick_any (And1 X (w.heap.size + 2)) K L _ _ _ HXW.out HTW.out HLW.out HTOP.out).mono ?_; rintro e w2 ⟨v2, u2, rfl, h2, hu2, hb2⟩
  have H2 := Lib.hid h2
  have HU2 := Lib.hid hu2
  have HB2 := Lib.hid hb2
  obtain ⟨g3, o3, c3, rfl, _, _⟩ := h2
  obtain ⟨a5, n5, c5, rfl, _, hr5⟩ := hu2.form
  have HR5 := Lib.hid hr5
  have HN5 : Hid (n5 ≤ 5) := Lib.hid (by rw [hr5.1]; exact overs_len L 5)
  clear hu2 hr5 hb2
  obtain ⟨W3, hW3⟩ : ∃ W3, W3 = w2.alloc (.cells #[.slice (some ⟨gT, oT, none⟩) 5 cT, .slice (some ⟨g3, o3, none⟩) 5 c3] 34) := ⟨_, rfl⟩
  have HB3 : Hid (Below w2.heap.size w2 W3) := Lib.hid (by rw [hW3]; exact (Below.refl _ _).alloc (Nat.le_refl _) _)
  have HBW3 : Hid (Below W.heap.size W W3) := Lib.hid (HB2.out.trans (HB3.out.mono HB2.out.size))
  have HB9 : Hid (W3.heap[w2.heap.size]? = some (.cells #[.slice (some ⟨gT, oT, none⟩) 5 cT, .slice (some ⟨g3, o3, none⟩) 5 c3] 34 (0, 0))) := Lib.hid (by rw [hW3]; exact heap_alloc_new w2 _)
  have HSZ3 : Hid (W3.heap.size = w2.heap.size + 1) := Lib.hid (by rw [hW3]; simp)
  have HS2 : Hid (W.heap.size ≤ w2.heap.size) := Lib.hid HB2.out.size
  have HA3 := Lib.hid ((HAW.out.below HB2.out).below HB3.out)
  have HX3 := Lib.hid (H2.out.below HB3.out)
  have HT3 := Lib.hid ((HTW.out.below HB2.out).below HB3.out)
  have HR53 := Lib.hid (HR5.out.below HB3.out)
  have HZ3 : Hid (W3.heap[w.heap.size + 2]? = some (.cells #[.slice none 0 0, .slice none 0 0] 34 (0, 0))) := Lib.hid ((HBW3.out.block _ (by have := HSZ.out; omega)).trans HZ.out)
  go_wp2_with fail
  rw [← hW3]
  clear hW3
  have b0 : W3.cell? ⟨w2.heap.size, 0, none⟩ = some (.slice (some ⟨gT, oT, none⟩) 5 cT) := (cell_of_row _ _ _ _ _ _ HB9.out).trans rfl
  have b1 : W3.cell? ⟨w2.heap.size, 1, none⟩ = some (.slice (some ⟨g3, o3, none⟩) 5 c3) := (cell_of_row _ _ _ _ _ _ HB9.out).trans rfl
  go_region_with (first
    | ((have _s := HT4)
       go_at_call 38
       refine (Ref.rsame_any a4 n4 c4 (oversL L) a5 n5 c5 (oversL L) _ HR4.out HR54.out (by have := HN4.out; omega) (by have := HN5.out; omega)).mono ?_; rintro e w5 ⟨rfl, hb5⟩
       (have hsame : decide (oversL L = oversL L) = true := by simp)
       rw [hsame]
       (have HB5 := Lib.hid hb5)
       (have hz5 := (hb5.block (w.heap.size + 2) (by have := HSZ.out; have := HS2.out; have := HSZ3.out; have := HO4.out.size; omega)).trans HZ4.out)
       (have hb9 := (hb5.block w2.heap.size (by have := HSZ3.out; have := HO4.out.size; omega)).trans HB94.out)
       (have d0 : w5.cell? ⟨w2.heap.size, 0, none⟩ = some (.slice (some ⟨gT, oT, none⟩) 5 cT) := (cell_of_row _ _ _ _ _ _ hb9).trans rfl)
       (have d1 : w5.cell? ⟨w2.heap.size, 1, none⟩ = some (.slice (some ⟨g3, o3, none⟩) 5 c3) := (cell_of_row _ _ _ _ _ _ hb9).trans rfl)
       (have z0 : w5.cell? ⟨w.heap.size + 2, 0, none⟩ = some (.slice none 0 0) := (cell_of_row _ _ _ _ _ _ hz5).trans rfl)
       (have z1 : w5.cell? ⟨w.heap.size + 2, 1, none⟩ = some (.slice none 0 0) := (cell_of_row _ _ _ _ _ _ hz5).trans rfl)
       (have f0 : w5.frozen? ⟨w.heap.size + 2, 0, none⟩ = false := frozen_of_row _ _ _ _ _ hz5)
       (have f1 : w5.frozen? ⟨w.heap.size + 2, 1, none⟩ = false := frozen_of_row _ _ _ _ _ hz5)
       clear hb5 hb9 hsame)
    | (go_at_call 20
       refine (tick_at B K L _ (HA3.out.drewN 1)).mono ?_; rintro e w4 ⟨v4, rfl, hv4, ha4, ho4'⟩
       (have ho4 : Only W3 w4 B := (Only.draw W3 B 1).trans ho4')
       clear ho4'
       (have HV4 := Lib.hid hv4)
       obtain ⟨a4, n4, c4, rfl, _, hr4⟩ := hv4.form
       (have HR4 := Lib.hid hr4)
       (have HN4 : Hid (n4 ≤ 5) := Lib.hid (by rw [hr4.1]; exact overs_len L 5))
       (have HA4 := Lib.hid ha4)
       (have HO4 := Lib.hid ho4)
       (have HT4 := Lib.hid (HT3.out.only ho4 (.inl HXB.out)))
       (have HX4 := Lib.hid (HX3.out.only ho4 (.inl HXB.out)))
       (have HR54 : Hid (RdI w4 a5 n5 (oversL L)) := Lib.hid (rd_own_only HU2.out HR53.out ho4 (by have := HLT.out; have := HSZ.out; omega)))
       (have HZ4 : Hid (w4.heap[w.heap.size + 2]? = some (.cells #[.slice none 0 0, .slice none 0 0] 34 (0, 0))) := Lib.hid ((ho4.block (w.heap.size + 2) (by have := HSZ.out; have := HS2.out; have := HSZ3.out; omega) (by have := HLT.out; omega)).trans HZ3.out))
       (have HB94 : Hid (w4.heap[w2.heap.size]? = some (.cells #[.slice (some ⟨gT, oT, none⟩) 5 cT, .slice (some ⟨g3, o3, none⟩) 5 c3] 34 (0, 0))) := Lib.hid ((ho4.block w2.heap.size (by have := HSZ3.out; omega) (by have := HLT.out; have := HS2.out; have := HSZ.out; omega)).trans HB9.out))
       (have q0 : w4.cell? ⟨w2.heap.size, 0, none⟩ = some (.slice (some ⟨gT, oT, none⟩) 5 cT) := (cell_of_row _ _ _ _ _ _ HB94.out).trans rfl)
       (have q1 : w4.cell? ⟨w2.heap.size, 1, none⟩ = some (.slice (some ⟨g3, o3, none⟩) 5 c3) := (cell_of_row _ _ _ _ _ _ HB94.out).trans rfl)
       clear hv4 hr4 ha4 ho4))
  all_goals
    rw [set2 (W := w5) (g := w.heap.size + 1 + 1) hz5]
    clear b0 b1 q0 q1 d0 d1 z0 z1 f0 f1
    go_wp2_with fail
    refine bodyPost_ret (results_row_tmp rfl _ _ (w.heap.size + 2) 34 _ (0, 0) _ rfl (setRow_heap _ _ _ _ 34 (0, 0) hz5) Try.underlying34 rfl ref_info) rfl ?_
    have hos := only_setRow w5 (w.heap.size + 2) #[.slice (some ⟨gT, oT, none⟩) 5 cT, .slice (some ⟨g3, o3, none⟩) 5 c3]
    have HO3 : Hid (Only w w5 B) := Lib.hid (((Only.of_below (HAL.out.trans (HBW3.out.mono HAL.out.size))).trans HO4.out).trans (Only.of_below HB5.out))
    refine ⟨_, rfl, (HA4.out.below HB5.out).only hos (by have := HLT.out; omega), ((HX4.out.below HB5.out).setRow (.inr rfl) _).less (fun b hb => .inl hb), ((HT4.out.below HB5.out).setRow (.inr rfl) _).less (fun b hb => .inl hb), ?_⟩
    exact ⟨HO3.out.os, HO3.out.tape, HO3.out.output, Nat.le_trans HO3.out.size hos.size, fun k hk hkB => (hos.block k (Nat.lt_of_lt_of_le hk HO3.out.size) (by omega)).trans (HO3.out.block k hk hkB)⟩
theorem step_any (X : Nat → Prop) (B : Nat) (K L : List Nat) (vT vL : Value) (kind : Int) (idle : Bool) (w : World) (hXB : X B) (hX : ∀ b, X b → b < w.heap.size) (h : At w B K L) (hT : Five w X vT K) (hL : Five w X vL L) :
    Calls Try.prog 12 #[.pointer (some ⟨B, 0, none⟩), .agg #[vT, vL], .agg #[.int .i64 kind, .bool idle]] w (Good1 X B K vT w (stepL K L kind idle)) := by
  unfold stepL
  by_cases h1 : kind = 1
  · subst h1; exact step_begin X B K L vT vL idle w hXB hX h hT hL
  rw [if_neg h1]
  by_cases h2 : kind = 2
  · subst h2; exact step_end X B K L vT vL idle w hXB hX h hT hL
  rw [if_neg h2]
  by_cases h3 : kind = 3
  · subst h3; exact step_again X B K L vT vL idle w hXB hX h hT hL
  rw [if_neg h3]
  by_cases h4 : kind = 4
  · subst h4; exact step_enough X B K L vT vL idle w hXB hX h hT hL
  rw [if_neg h4]
  by_cases h5 : kind = 5
  · subst h5; exact step_busy X B K L vT vL idle w hXB hX h hT hL
  rw [if_neg h5]
  by_cases h6 : kind = 6
  · subst h6; exact step_polled X B K L vT vL idle w hXB hX h hT hL
  rw [if_neg h6]
  by_cases h7 : kind = 7
  · subst h7; exact step_answered X B K L vT vL idle w hXB hX h hT hL
  rw [if_neg h7]
  by_cases h8 : kind = 8
  · subst h8; exact step_clone X B K L vT vL idle w hXB hX h hT hL
  rw [if_neg h8]
  exact step_tick X B K L vT vL kind idle w ⟨h1, h2, h3, h4, h5, h6, h7, h8⟩ hXB hX h hT hL
end Go.Proofs.Ytlfjndjbfbejkaa.Pace
