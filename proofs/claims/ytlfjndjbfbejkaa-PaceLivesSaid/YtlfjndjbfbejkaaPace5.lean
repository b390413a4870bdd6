/-
  The pace: the document's own calls.
-/
import Derived.Test.YtlfjndjbfbejkaaPace4
namespace Go.Proofs.Ytlfjndjbfbejkaa.Pace
open Go.RowKit View Bank

/-- the blocks to be avoided, and one more -/
def And1 (X : Nat → Prop) (g : Nat) (b : Nat) : Prop := X b ∨ b = g
section
variable (X : Nat → Prop) (K L : List Nat) (vT vL : Value) (w : World)
set_option maxRecDepth 100000 in
set_option maxHeartbeats 4000000 in
theorem rbegin_any (hX : ∀ b, X b → b < w.heap.size) (hT : Five w X vT K) (hL : Five w X vL L) :
    Calls Try.prog 15 #[.agg #[vT, vL]] w fun e w' => ∃ v, e = .returned (.agg #[vT, v]) ∧ Five w' X v (beginL K L) ∧ Below w.heap.size w w' := by
  have HT := Lib.hid hT
  have HL := Lib.hid hL
  obtain ⟨gT, oT, cT, rfl, _, hrT⟩ := hT
  obtain ⟨gL, oL, cL, rfl, _, hrL⟩ := hL
  have HRT := Lib.hid hrT
  have HRL := Lib.hid hrL
  clear hrT hrL
  obtain ⟨W, hW⟩ : ∃ W, W = ((w.alloc (.cells #[.slice (some ⟨gT, oT, none⟩) 5 cT, .slice (some ⟨gL, oL, none⟩) 5 cL] 34)).alloc (.cells #[.slice none 0 0, .slice none 0 0] 34)) := ⟨_, rfl⟩
  have HXW : Hid (∀ b, And1 X (w.heap.size + 1) b → b < W.heap.size) := Lib.hid (fun b hb => by
    rw [hW]; simp
    rcases hb with h | h
    · have := hX b h; omega
    · omega)
  have HAL : Hid (Below w.heap.size w W) := Lib.hid (by rw [hW]; exact ((Below.refl _ w).alloc (Nat.le_refl _) _).alloc (by simp) _)
  have HZ : Hid (W.heap[w.heap.size + 1]? = some (.cells #[.slice none 0 0, .slice none 0 0] 34 (0, 0))) := Lib.hid (by rw [hW]; exact heap_alloc2_new w _ _)
  have HSZ : Hid (W.heap.size = w.heap.size + 2) := Lib.hid (by rw [hW]; simp)
  have HT2 : Hid (Five W (And1 X (w.heap.size + 1)) (.slice (some ⟨gT, oT, none⟩) 5 cT) K) := Lib.hid ((HT.out.grow (N' := And1 X (w.heap.size + 1)) (fun b hb => by rcases hb with h | h; exact .inl h; exact .inr (by omega))).below HAL.out)
  have HL2 : Hid (Five W (And1 X (w.heap.size + 1)) (.slice (some ⟨gL, oL, none⟩) 5 cL) L) := Lib.hid ((HL.out.grow (N' := And1 X (w.heap.size + 1)) (fun b hb => by rcases hb with h | h; exact .inl h; exact .inr (by omega))).below HAL.out)
  clear hX HT HL
  go_enter Try.func15, Try.ntmps15
  go_wp2_with fail
  rw [← hW]
  have hba := (show Below W.heap.size W ((W.alloc (.cells #[.int .i64 1, .int .i64 3] 3)).alloc (.cells #[.int .i64 2, .int .i64 4] 3)) from (((Below.refl W.heap.size W).alloc (by simp) _).alloc (by simp) _))
  refine (rset_any (And1 X (w.heap.size + 1)) K L _ _ _ 2 _ [1, 3] _ 2 _ [2, 4] _ (fun b hb => Nat.lt_of_lt_of_le (HXW.out b hb) (by (try simp) <;> (try omega))) (HT2.out.below hba) (HL2.out.below hba) ((rd_lit _ [1, 3] _ _ rfl _ (by have := HSZ.out; (try simp) <;> (try omega))).alloc _) ((rd_lit _ [2, 4] _ _ rfl _ (by have := HSZ.out; (try simp) <;> (try omega)))) (by simp) (by simp) (by decide) (by decide)).mono ?_; rintro e w3 ⟨v3, rfl, h3, hb3⟩
  have HB3 : Hid (Below W.heap.size W w3) := Lib.hid (hba.trans (hb3.mono hba.size))
  clear hba hb3
  have hz : w3.heap[w.heap.size + 1]? = some (.cells #[.slice none 0 0, .slice none 0 0] 34 (0, 0)) := (HB3.out.block _ (by have := HSZ.out; omega)).trans HZ.out
  have H3 := Lib.hid h3
  obtain ⟨g3, o3, c3, rfl, _, _⟩ := h3
  have HBE : Hid (Below w.heap.size w w3) := Lib.hid (HAL.out.trans (HB3.out.mono HAL.out.size))
  go_wp2_with (refine wpList_store_row rfl 34 _ _ rfl (w.heap.size + 1) #[.slice (some ⟨gT, oT, none⟩) 5 cT, .slice (some ⟨g3, o3, none⟩) 5 c3] rfl rfl 34 _ hz ref_info rfl (by simp [Value.oneCell']) ?_)
  refine bodyPost_ret (results_cell_row rfl _ _ (w.heap.size + 1) 34 _ (0, 0) _ rfl (setRow_heap _ _ _ _ 34 (0, 0) hz) Try.underlying34 rfl ref_info) rfl ?_
  exact ⟨_, rfl, (H3.out.setRow (.inr rfl) _).less (fun b hb => .inl hb), below_setRow HBE.out (by omega) _⟩
set_option maxRecDepth 100000 in
set_option maxHeartbeats 4000000 in
theorem rend_any (hX : ∀ b, X b → b < w.heap.size) (hT : Five w X vT K) (hL : Five w X vL L) :
    Calls Try.prog 29 #[.agg #[vT, vL]] w fun e w' => ∃ v, e = .returned (.agg #[vT, v]) ∧ Five w' X v (endL L) ∧ Below w.heap.size w w' := by
  have HT := Lib.hid hT
  have HL := Lib.hid hL
  obtain ⟨gT, oT, cT, rfl, _, hrT⟩ := hT
  obtain ⟨gL, oL, cL, rfl, _, hrL⟩ := hL
  have HRT := Lib.hid hrT
  have HRL := Lib.hid hrL
  clear hrT hrL
  obtain ⟨W, hW⟩ : ∃ W, W = ((w.alloc (.cells #[.slice (some ⟨gT, oT, none⟩) 5 cT, .slice (some ⟨gL, oL, none⟩) 5 cL] 34)).alloc (.cells #[.slice none 0 0, .slice none 0 0] 34)) := ⟨_, rfl⟩
  have HXW : Hid (∀ b, And1 X (w.heap.size + 1) b → b < W.heap.size) := Lib.hid (fun b hb => by
    rw [hW]; simp
    rcases hb with h | h
    · have := hX b h; omega
    · omega)
  have HAL : Hid (Below w.heap.size w W) := Lib.hid (by rw [hW]; exact ((Below.refl _ w).alloc (Nat.le_refl _) _).alloc (by simp) _)
  have HZ : Hid (W.heap[w.heap.size + 1]? = some (.cells #[.slice none 0 0, .slice none 0 0] 34 (0, 0))) := Lib.hid (by rw [hW]; exact heap_alloc2_new w _ _)
  have HSZ : Hid (W.heap.size = w.heap.size + 2) := Lib.hid (by rw [hW]; simp)
  have HT2 : Hid (Five W (And1 X (w.heap.size + 1)) (.slice (some ⟨gT, oT, none⟩) 5 cT) K) := Lib.hid ((HT.out.grow (N' := And1 X (w.heap.size + 1)) (fun b hb => by rcases hb with h | h; exact .inl h; exact .inr (by omega))).below HAL.out)
  have HL2 : Hid (Five W (And1 X (w.heap.size + 1)) (.slice (some ⟨gL, oL, none⟩) 5 cL) L) := Lib.hid ((HL.out.grow (N' := And1 X (w.heap.size + 1)) (fun b hb => by rcases hb with h | h; exact .inl h; exact .inr (by omega))).below HAL.out)
  clear hX HT HL
  go_enter Try.func29, Try.ntmps29
  go_wp2_with fail
  rw [← hW]
  have hba := (show Below W.heap.size W (W.alloc (.cells #[.int .i64 1, .int .i64 2, .int .i64 3, .int .i64 4] 3)) from ((Below.refl W.heap.size W).alloc (by simp) _))
  refine (rset_any (And1 X (w.heap.size + 1)) K L _ _ _ 0 _ [] _ 4 _ [1, 2, 3, 4] _ (fun b hb => Nat.lt_of_lt_of_le (HXW.out b hb) (by (try simp) <;> (try omega))) (HT2.out.below hba) (HL2.out.below hba) (⟨rfl, fun h => by omega⟩) ((rd_lit _ [1, 2, 3, 4] _ _ rfl _ (by have := HSZ.out; (try simp) <;> (try omega)))) (by simp) (by simp) (by decide) (by decide)).mono ?_; rintro e w3 ⟨v3, rfl, h3, hb3⟩
  have HB3 : Hid (Below W.heap.size W w3) := Lib.hid (hba.trans (hb3.mono hba.size))
  clear hba hb3
  have hz : w3.heap[w.heap.size + 1]? = some (.cells #[.slice none 0 0, .slice none 0 0] 34 (0, 0)) := (HB3.out.block _ (by have := HSZ.out; omega)).trans HZ.out
  have H3 := Lib.hid h3
  obtain ⟨g3, o3, c3, rfl, _, _⟩ := h3
  have HBE : Hid (Below w.heap.size w w3) := Lib.hid (HAL.out.trans (HB3.out.mono HAL.out.size))
  go_wp2_with (refine wpList_store_row rfl 34 _ _ rfl (w.heap.size + 1) #[.slice (some ⟨gT, oT, none⟩) 5 cT, .slice (some ⟨g3, o3, none⟩) 5 c3] rfl rfl 34 _ hz ref_info rfl (by simp [Value.oneCell']) ?_)
  refine bodyPost_ret (results_cell_row rfl _ _ (w.heap.size + 1) 34 _ (0, 0) _ rfl (setRow_heap _ _ _ _ 34 (0, 0) hz) Try.underlying34 rfl ref_info) rfl ?_
  exact ⟨_, rfl, (H3.out.setRow (.inr rfl) _).less (fun b hb => .inl hb), below_setRow HBE.out (by omega) _⟩
set_option maxRecDepth 100000 in
set_option maxHeartbeats 4000000 in
theorem ragain_any (hX : ∀ b, X b → b < w.heap.size) (hT : Five w X vT K) (hL : Five w X vL L) :
    Calls Try.prog 31 #[.agg #[vT, vL]] w fun e w' => ∃ v, e = .returned (.agg #[vT, v]) ∧ Five w' X v (againL K L) ∧ Below w.heap.size w w' := by
  have HT := Lib.hid hT
  have HL := Lib.hid hL
  obtain ⟨gT, oT, cT, rfl, _, hrT⟩ := hT
  obtain ⟨gL, oL, cL, rfl, _, hrL⟩ := hL
  have HRT := Lib.hid hrT
  have HRL := Lib.hid hrL
  clear hrT hrL
  obtain ⟨W, hW⟩ : ∃ W, W = ((w.alloc (.cells #[.slice (some ⟨gT, oT, none⟩) 5 cT, .slice (some ⟨gL, oL, none⟩) 5 cL] 34)).alloc (.cells #[.slice none 0 0, .slice none 0 0] 34)) := ⟨_, rfl⟩
  have HXW : Hid (∀ b, And1 X (w.heap.size + 1) b → b < W.heap.size) := Lib.hid (fun b hb => by
    rw [hW]; simp
    rcases hb with h | h
    · have := hX b h; omega
    · omega)
  have HAL : Hid (Below w.heap.size w W) := Lib.hid (by rw [hW]; exact ((Below.refl _ w).alloc (Nat.le_refl _) _).alloc (by simp) _)
  have HZ : Hid (W.heap[w.heap.size + 1]? = some (.cells #[.slice none 0 0, .slice none 0 0] 34 (0, 0))) := Lib.hid (by rw [hW]; exact heap_alloc2_new w _ _)
  have HSZ : Hid (W.heap.size = w.heap.size + 2) := Lib.hid (by rw [hW]; simp)
  have HT2 : Hid (Five W (And1 X (w.heap.size + 1)) (.slice (some ⟨gT, oT, none⟩) 5 cT) K) := Lib.hid ((HT.out.grow (N' := And1 X (w.heap.size + 1)) (fun b hb => by rcases hb with h | h; exact .inl h; exact .inr (by omega))).below HAL.out)
  have HL2 : Hid (Five W (And1 X (w.heap.size + 1)) (.slice (some ⟨gL, oL, none⟩) 5 cL) L) := Lib.hid ((HL.out.grow (N' := And1 X (w.heap.size + 1)) (fun b hb => by rcases hb with h | h; exact .inl h; exact .inr (by omega))).below HAL.out)
  clear hX HT HL
  go_enter Try.func31, Try.ntmps31
  go_wp2_with fail
  rw [← hW]
  have hba := (show Below W.heap.size W (W.alloc (.cells #[.int .i64 0] 3)) from ((Below.refl W.heap.size W).alloc (by simp) _))
  refine (rset_any (And1 X (w.heap.size + 1)) K L _ _ _ 1 _ [0] _ 0 _ [] _ (fun b hb => Nat.lt_of_lt_of_le (HXW.out b hb) (by (try simp) <;> (try omega))) (HT2.out.below hba) (HL2.out.below hba) ((rd_lit _ [0] _ _ rfl _ (by have := HSZ.out; (try simp) <;> (try omega)))) (⟨rfl, fun h => by omega⟩) (by simp) (by simp) (by decide) (by decide)).mono ?_; rintro e w3 ⟨v3, rfl, h3, hb3⟩
  have HB3 : Hid (Below W.heap.size W w3) := Lib.hid (hba.trans (hb3.mono hba.size))
  clear hba hb3
  have hz : w3.heap[w.heap.size + 1]? = some (.cells #[.slice none 0 0, .slice none 0 0] 34 (0, 0)) := (HB3.out.block _ (by have := HSZ.out; omega)).trans HZ.out
  have H3 := Lib.hid h3
  obtain ⟨g3, o3, c3, rfl, _, _⟩ := h3
  have HBE : Hid (Below w.heap.size w w3) := Lib.hid (HAL.out.trans (HB3.out.mono HAL.out.size))
  go_wp2_with (refine wpList_store_row rfl 34 _ _ rfl (w.heap.size + 1) #[.slice (some ⟨gT, oT, none⟩) 5 cT, .slice (some ⟨g3, o3, none⟩) 5 c3] rfl rfl 34 _ hz ref_info rfl (by simp [Value.oneCell']) ?_)
  refine bodyPost_ret (results_cell_row rfl _ _ (w.heap.size + 1) 34 _ (0, 0) _ rfl (setRow_heap _ _ _ _ 34 (0, 0) hz) Try.underlying34 rfl ref_info) rfl ?_
  exact ⟨_, rfl, (H3.out.setRow (.inr rfl) _).less (fun b hb => .inl hb), below_setRow HBE.out (by omega) _⟩
set_option maxRecDepth 100000 in
set_option maxHeartbeats 4000000 in
theorem renough_any (hX : ∀ b, X b → b < w.heap.size) (hT : Five w X vT K) (hL : Five w X vL L) :
    Calls Try.prog 33 #[.agg #[vT, vL]] w fun e w' => ∃ v, e = .returned (.agg #[vT, v]) ∧ Five w' X v (enoughL L) ∧ Below w.heap.size w w' := by
  have HT := Lib.hid hT
  have HL := Lib.hid hL
  obtain ⟨gT, oT, cT, rfl, _, hrT⟩ := hT
  obtain ⟨gL, oL, cL, rfl, _, hrL⟩ := hL
  have HRT := Lib.hid hrT
  have HRL := Lib.hid hrL
  clear hrT hrL
  obtain ⟨W, hW⟩ : ∃ W, W = ((w.alloc (.cells #[.slice (some ⟨gT, oT, none⟩) 5 cT, .slice (some ⟨gL, oL, none⟩) 5 cL] 34)).alloc (.cells #[.slice none 0 0, .slice none 0 0] 34)) := ⟨_, rfl⟩
  have HXW : Hid (∀ b, And1 X (w.heap.size + 1) b → b < W.heap.size) := Lib.hid (fun b hb => by
    rw [hW]; simp
    rcases hb with h | h
    · have := hX b h; omega
    · omega)
  have HAL : Hid (Below w.heap.size w W) := Lib.hid (by rw [hW]; exact ((Below.refl _ w).alloc (Nat.le_refl _) _).alloc (by simp) _)
  have HZ : Hid (W.heap[w.heap.size + 1]? = some (.cells #[.slice none 0 0, .slice none 0 0] 34 (0, 0))) := Lib.hid (by rw [hW]; exact heap_alloc2_new w _ _)
  have HSZ : Hid (W.heap.size = w.heap.size + 2) := Lib.hid (by rw [hW]; simp)
  have HT2 : Hid (Five W (And1 X (w.heap.size + 1)) (.slice (some ⟨gT, oT, none⟩) 5 cT) K) := Lib.hid ((HT.out.grow (N' := And1 X (w.heap.size + 1)) (fun b hb => by rcases hb with h | h; exact .inl h; exact .inr (by omega))).below HAL.out)
  have HL2 : Hid (Five W (And1 X (w.heap.size + 1)) (.slice (some ⟨gL, oL, none⟩) 5 cL) L) := Lib.hid ((HL.out.grow (N' := And1 X (w.heap.size + 1)) (fun b hb => by rcases hb with h | h; exact .inl h; exact .inr (by omega))).below HAL.out)
  clear hX HT HL
  go_enter Try.func33, Try.ntmps33
  go_wp2_with fail
  rw [← hW]
  have hba := (show Below W.heap.size W (W.alloc (.cells #[.int .i64 0] 3)) from ((Below.refl W.heap.size W).alloc (by simp) _))
  refine (rset_any (And1 X (w.heap.size + 1)) K L _ _ _ 0 _ [] _ 1 _ [0] _ (fun b hb => Nat.lt_of_lt_of_le (HXW.out b hb) (by (try simp) <;> (try omega))) (HT2.out.below hba) (HL2.out.below hba) (⟨rfl, fun h => by omega⟩) ((rd_lit _ [0] _ _ rfl _ (by have := HSZ.out; (try simp) <;> (try omega)))) (by simp) (by simp) (by decide) (by decide)).mono ?_; rintro e w3 ⟨v3, rfl, h3, hb3⟩
  have HB3 : Hid (Below W.heap.size W w3) := Lib.hid (hba.trans (hb3.mono hba.size))
  clear hba hb3
  have hz : w3.heap[w.heap.size + 1]? = some (.cells #[.slice none 0 0, .slice none 0 0] 34 (0, 0)) := (HB3.out.block _ (by have := HSZ.out; omega)).trans HZ.out
  have H3 := Lib.hid h3
  obtain ⟨g3, o3, c3, rfl, _, _⟩ := h3
  have HBE : Hid (Below w.heap.size w w3) := Lib.hid (HAL.out.trans (HB3.out.mono HAL.out.size))
  go_wp2_with (refine wpList_store_row rfl 34 _ _ rfl (w.heap.size + 1) #[.slice (some ⟨gT, oT, none⟩) 5 cT, .slice (some ⟨g3, o3, none⟩) 5 c3] rfl rfl 34 _ hz ref_info rfl (by simp [Value.oneCell']) ?_)
  refine bodyPost_ret (results_cell_row rfl _ _ (w.heap.size + 1) 34 _ (0, 0) _ rfl (setRow_heap _ _ _ _ 34 (0, 0) hz) Try.underlying34 rfl ref_info) rfl ?_
  exact ⟨_, rfl, (H3.out.setRow (.inr rfl) _).less (fun b hb => .inl hb), below_setRow HBE.out (by omega) _⟩
set_option maxRecDepth 100000 in
set_option maxHeartbeats 4000000 in
theorem rwatch_any (hX : ∀ b, X b → b < w.heap.size) (hT : Five w X vT K) (hL : Five w X vL L) :
    Calls Try.prog 45 #[.agg #[vT, vL]] w fun e w' => ∃ v, e = .returned (.agg #[vT, v]) ∧ Five w' X v (listenL K L) ∧ Below w.heap.size w w' := by
  have HT := Lib.hid hT
  have HL := Lib.hid hL
  have HSELF := Lib.hid hL
  obtain ⟨gT, oT, cT, rfl, _, hrT⟩ := hT
  obtain ⟨gL, oL, cL, rfl, _, hrL⟩ := hL
  have HRT := Lib.hid hrT
  have HRL := Lib.hid hrL
  clear hrT hrL
  obtain ⟨W, hW⟩ : ∃ W, W = ((w.alloc (.cells #[.slice (some ⟨gT, oT, none⟩) 5 cT, .slice (some ⟨gL, oL, none⟩) 5 cL] 34)).alloc (.cells #[.slice none 0 0, .slice none 0 0] 34)) := ⟨_, rfl⟩
  have HXW : Hid (∀ b, And1 X (w.heap.size + 1) b → b < W.heap.size) := Lib.hid (fun b hb => by
    rw [hW]; simp
    rcases hb with h | h
    · have := hX b h; omega
    · omega)
  have HAL : Hid (Below w.heap.size w W) := Lib.hid (by rw [hW]; exact ((Below.refl _ w).alloc (Nat.le_refl _) _).alloc (by simp) _)
  have HZ : Hid (W.heap[w.heap.size + 1]? = some (.cells #[.slice none 0 0, .slice none 0 0] 34 (0, 0))) := Lib.hid (by rw [hW]; exact heap_alloc2_new w _ _)
  have HSZ : Hid (W.heap.size = w.heap.size + 2) := Lib.hid (by rw [hW]; simp)
  have HT2 : Hid (Five W (And1 X (w.heap.size + 1)) (.slice (some ⟨gT, oT, none⟩) 5 cT) K) := Lib.hid ((HT.out.grow (N' := And1 X (w.heap.size + 1)) (fun b hb => by rcases hb with h | h; exact .inl h; exact .inr (by omega))).below HAL.out)
  have HL2 : Hid (Five W (And1 X (w.heap.size + 1)) (.slice (some ⟨gL, oL, none⟩) 5 cL) L) := Lib.hid ((HL.out.grow (N' := And1 X (w.heap.size + 1)) (fun b hb => by rcases hb with h | h; exact .inl h; exact .inr (by omega))).below HAL.out)
  clear hX HT HL
  obtain ⟨x3, x3'⟩ : ∃ x, L.getD 3 0 = x := ⟨_, rfl⟩
  have k3 : ((w.alloc (.cells #[.slice (some ⟨gT, oT, none⟩) 5 cT, .slice (some ⟨gL, oL, none⟩) 5 cL] 34)).alloc (.cells #[.slice none 0 0, .slice none 0 0] 34)).cell? ⟨gL, oL + 3, none⟩ = some (.int .i64 (x3 : Int)) := by
    obtain ⟨b, off, e, _, hc⟩ := (HRL.out.below HAL.out).at_ (k := 3) (by decide)
    cases e
    rw [encZ_get, x3', hW] at hc
    exact hc
  unfold listenL
  by_cases hp : 0 < L.getD 3 0
  · rw [if_pos hp]
    rw [x3'] at hp
    have hd : decide (0 < x3) = true := decide_eq_true (by omega)
    clear hp
    go_enter Try.func45, Try.ntmps45
    go_wp2_with fail
    refine bodyPost_ret (results_cell_row rfl _ _ (w.heap.size + 1) 34 _ (0, 0) _ rfl (heap_alloc2_new w _ _) Try.underlying34 rfl ref_info) rfl ?_
    exact ⟨_, rfl, HSELF.out.below (((Below.refl _ w).alloc (Nat.le_refl _) _).alloc (by simp) _), ((Below.refl _ w).alloc (Nat.le_refl _) _).alloc (by simp) _⟩
  · rw [if_neg hp]
    rw [x3'] at hp
    have hd : decide (0 < x3) = false := decide_eq_false (by omega)
    clear hp
    go_enter Try.func45, Try.ntmps45
    go_wp2_with fail
    rw [← hW]
    have hba := (show Below W.heap.size W (W.alloc (.cells #[.int .i64 3] 3)) from ((Below.refl W.heap.size W).alloc (by simp) _))
    refine (rset_any (And1 X (w.heap.size + 1)) K L _ _ _ 1 _ [3] _ 0 _ [] _ (fun b hb => Nat.lt_of_lt_of_le (HXW.out b hb) (by (try simp) <;> (try omega))) (HT2.out.below hba) (HL2.out.below hba) ((rd_lit _ [3] _ _ rfl _ (by have := HSZ.out; (try simp) <;> (try omega)))) (⟨rfl, fun h => by omega⟩) (by simp) (by simp) (by decide) (by decide)).mono ?_; rintro e w3 ⟨v3, rfl, h3, hb3⟩
    have HB3 : Hid (Below W.heap.size W w3) := Lib.hid (hba.trans (hb3.mono hba.size))
    clear hba hb3
    have hz : w3.heap[w.heap.size + 1]? = some (.cells #[.slice none 0 0, .slice none 0 0] 34 (0, 0)) := (HB3.out.block _ (by have := HSZ.out; omega)).trans HZ.out
    have H3 := Lib.hid h3
    obtain ⟨g3, o3, c3, rfl, _, _⟩ := h3
    have HBE : Hid (Below w.heap.size w w3) := Lib.hid (HAL.out.trans (HB3.out.mono HAL.out.size))
    go_wp2_with (refine wpList_store_row rfl 34 _ _ rfl (w.heap.size + 1) #[.slice (some ⟨gT, oT, none⟩) 5 cT, .slice (some ⟨g3, o3, none⟩) 5 c3] rfl rfl 34 _ hz ref_info rfl (by simp [Value.oneCell']) ?_)
    refine bodyPost_ret (results_cell_row rfl _ _ (w.heap.size + 1) 34 _ (0, 0) _ rfl (setRow_heap _ _ _ _ 34 (0, 0) hz) Try.underlying34 rfl ref_info) rfl ?_
    exact ⟨_, rfl, (H3.out.setRow (.inr rfl) _).less (fun b hb => .inl hb), below_setRow HBE.out (by omega) _⟩
set_option maxRecDepth 100000 in
set_option maxHeartbeats 4000000 in
theorem rbusy_any (hX : ∀ b, X b → b < w.heap.size) (hT : Five w X vT K) (hL : Five w X vL L) :
    Calls Try.prog 34 #[.agg #[vT, vL]] w fun e w' => ∃ v, e = .returned (.agg #[vT, v]) ∧ Five w' X v (busyL K L) ∧ Below w.heap.size w w' := by
  have HT := Lib.hid hT
  have HL := Lib.hid hL
  have HSELF := Lib.hid hL
  obtain ⟨gT, oT, cT, rfl, _, hrT⟩ := hT
  obtain ⟨gL, oL, cL, rfl, _, hrL⟩ := hL
  have HRT := Lib.hid hrT
  have HRL := Lib.hid hrL
  clear hrT hrL
  obtain ⟨W, hW⟩ : ∃ W, W = ((w.alloc (.cells #[.slice (some ⟨gT, oT, none⟩) 5 cT, .slice (some ⟨gL, oL, none⟩) 5 cL] 34)).alloc (.cells #[.slice none 0 0, .slice none 0 0] 34)) := ⟨_, rfl⟩
  have HXW : Hid (∀ b, And1 X (w.heap.size + 1) b → b < W.heap.size) := Lib.hid (fun b hb => by
    rw [hW]; simp
    rcases hb with h | h
    · have := hX b h; omega
    · omega)
  have HAL : Hid (Below w.heap.size w W) := Lib.hid (by rw [hW]; exact ((Below.refl _ w).alloc (Nat.le_refl _) _).alloc (by simp) _)
  have HZ : Hid (W.heap[w.heap.size + 1]? = some (.cells #[.slice none 0 0, .slice none 0 0] 34 (0, 0))) := Lib.hid (by rw [hW]; exact heap_alloc2_new w _ _)
  have HSZ : Hid (W.heap.size = w.heap.size + 2) := Lib.hid (by rw [hW]; simp)
  have HT2 : Hid (Five W (And1 X (w.heap.size + 1)) (.slice (some ⟨gT, oT, none⟩) 5 cT) K) := Lib.hid ((HT.out.grow (N' := And1 X (w.heap.size + 1)) (fun b hb => by rcases hb with h | h; exact .inl h; exact .inr (by omega))).below HAL.out)
  have HL2 : Hid (Five W (And1 X (w.heap.size + 1)) (.slice (some ⟨gL, oL, none⟩) 5 cL) L) := Lib.hid ((HL.out.grow (N' := And1 X (w.heap.size + 1)) (fun b hb => by rcases hb with h | h; exact .inl h; exact .inr (by omega))).below HAL.out)
  clear hX HT HL
  obtain ⟨x2, x2'⟩ : ∃ x, L.getD 2 0 = x := ⟨_, rfl⟩
  have k2 : ((w.alloc (.cells #[.slice (some ⟨gT, oT, none⟩) 5 cT, .slice (some ⟨gL, oL, none⟩) 5 cL] 34)).alloc (.cells #[.slice none 0 0, .slice none 0 0] 34)).cell? ⟨gL, oL + 2, none⟩ = some (.int .i64 (x2 : Int)) := by
    obtain ⟨b, off, e, _, hc⟩ := (HRL.out.below HAL.out).at_ (k := 2) (by decide)
    cases e
    rw [encZ_get, x2', hW] at hc
    exact hc
  obtain ⟨x4, x4'⟩ : ∃ x, L.getD 4 0 = x := ⟨_, rfl⟩
  have k4 : ((w.alloc (.cells #[.slice (some ⟨gT, oT, none⟩) 5 cT, .slice (some ⟨gL, oL, none⟩) 5 cL] 34)).alloc (.cells #[.slice none 0 0, .slice none 0 0] 34)).cell? ⟨gL, oL + 4, none⟩ = some (.int .i64 (x4 : Int)) := by
    obtain ⟨b, off, e, _, hc⟩ := (HRL.out.below HAL.out).at_ (k := 4) (by decide)
    cases e
    rw [encZ_get, x4', hW] at hc
    exact hc
  unfold busyL
  by_cases h2 : 0 < L.getD 2 0
  · rw [if_pos (.inl h2)]
    rw [x2'] at h2
    have hd : ((x2 : Int) == 0) = false := by simp; omega
    clear h2
    go_enter Try.func34, Try.ntmps34
    go_wp2_with fail
    rw [← hW]
    have hba := (show Below W.heap.size W ((W.alloc (.cells #[.int .i64 1] 3)).alloc (.cells #[.int .i64 2, .int .i64 4] 3)) from (((Below.refl W.heap.size W).alloc (by simp) _).alloc (by simp) _))
    refine (rset_any (And1 X (w.heap.size + 1)) K L _ _ _ 1 _ [1] _ 2 _ [2, 4] _ (fun b hb => Nat.lt_of_lt_of_le (HXW.out b hb) (by (try simp) <;> (try omega))) (HT2.out.below hba) (HL2.out.below hba) ((rd_lit _ [1] _ _ rfl _ (by have := HSZ.out; (try simp) <;> (try omega))).alloc _) ((rd_lit _ [2, 4] _ _ rfl _ (by have := HSZ.out; (try simp) <;> (try omega)))) (by simp) (by simp) (by decide) (by decide)).mono ?_; rintro e w3 ⟨v3, rfl, h3, hb3⟩
    have HB3 : Hid (Below W.heap.size W w3) := Lib.hid (hba.trans (hb3.mono hba.size))
    clear hba hb3
    go_wp2_with fail
    refine (rwatch_any (And1 X (w.heap.size + 1)) K _ _ _ _ (fun b hb => Nat.lt_of_lt_of_le (HXW.out b hb) HB3.out.size) (HT2.out.below HB3.out) h3).mono ?_; rintro e w4 ⟨v4, rfl, h4, hb4⟩
    have HB4 : Hid (Below W.heap.size W w4) := Lib.hid (HB3.out.trans (hb4.mono HB3.out.size))
    clear hb4
    have hz : w4.heap[w.heap.size + 1]? = some (.cells #[.slice none 0 0, .slice none 0 0] 34 (0, 0)) := (HB4.out.block _ (by have := HSZ.out; omega)).trans HZ.out
    have H4 := Lib.hid h4
    obtain ⟨g4, o4, c4, rfl, _, _⟩ := h4
    have HBE : Hid (Below w.heap.size w w4) := Lib.hid (HAL.out.trans (HB4.out.mono HAL.out.size))
    go_wp2_with (refine wpList_store_row rfl 34 _ _ rfl (w.heap.size + 1) #[.slice (some ⟨gT, oT, none⟩) 5 cT, .slice (some ⟨g4, o4, none⟩) 5 c4] rfl rfl 34 _ hz ref_info rfl (by simp [Value.oneCell']) ?_)
    refine bodyPost_ret (results_cell_row rfl _ _ (w.heap.size + 1) 34 _ (0, 0) _ rfl (setRow_heap _ _ _ _ 34 (0, 0) hz) Try.underlying34 rfl ref_info) rfl ?_
    exact ⟨_, rfl, (H4.out.setRow (.inr rfl) _).less (fun b hb => .inl hb), below_setRow HBE.out (by omega) _⟩
  · by_cases h4 : 0 < L.getD 4 0
    · rw [if_pos (.inr h4)]
      rw [x2'] at h2
      rw [x4'] at h4
      obtain rfl : x2 = 0 := by omega
      have hd : ((x4 : Int) == 0) = false := by simp; omega
      clear h2 h4
      go_enter Try.func34, Try.ntmps34
      go_wp2_with fail
      rw [← hW]
      have hba := (show Below W.heap.size W ((W.alloc (.cells #[.int .i64 1] 3)).alloc (.cells #[.int .i64 2, .int .i64 4] 3)) from (((Below.refl W.heap.size W).alloc (by simp) _).alloc (by simp) _))
      refine (rset_any (And1 X (w.heap.size + 1)) K L _ _ _ 1 _ [1] _ 2 _ [2, 4] _ (fun b hb => Nat.lt_of_lt_of_le (HXW.out b hb) (by (try simp) <;> (try omega))) (HT2.out.below hba) (HL2.out.below hba) ((rd_lit _ [1] _ _ rfl _ (by have := HSZ.out; (try simp) <;> (try omega))).alloc _) ((rd_lit _ [2, 4] _ _ rfl _ (by have := HSZ.out; (try simp) <;> (try omega)))) (by simp) (by simp) (by decide) (by decide)).mono ?_; rintro e w3 ⟨v3, rfl, h3, hb3⟩
      have HB3 : Hid (Below W.heap.size W w3) := Lib.hid (hba.trans (hb3.mono hba.size))
      clear hba hb3
      go_wp2_with fail
      refine (rwatch_any (And1 X (w.heap.size + 1)) K _ _ _ _ (fun b hb => Nat.lt_of_lt_of_le (HXW.out b hb) HB3.out.size) (HT2.out.below HB3.out) h3).mono ?_; rintro e w4 ⟨v4, rfl, h4, hb4⟩
      have HB4 : Hid (Below W.heap.size W w4) := Lib.hid (HB3.out.trans (hb4.mono HB3.out.size))
      clear hb4
      have hz : w4.heap[w.heap.size + 1]? = some (.cells #[.slice none 0 0, .slice none 0 0] 34 (0, 0)) := (HB4.out.block _ (by have := HSZ.out; omega)).trans HZ.out
      have H4 := Lib.hid h4
      obtain ⟨g4, o4, c4, rfl, _, _⟩ := h4
      have HBE : Hid (Below w.heap.size w w4) := Lib.hid (HAL.out.trans (HB4.out.mono HAL.out.size))
      go_wp2_with (refine wpList_store_row rfl 34 _ _ rfl (w.heap.size + 1) #[.slice (some ⟨gT, oT, none⟩) 5 cT, .slice (some ⟨g4, o4, none⟩) 5 c4] rfl rfl 34 _ hz ref_info rfl (by simp [Value.oneCell']) ?_)
      refine bodyPost_ret (results_cell_row rfl _ _ (w.heap.size + 1) 34 _ (0, 0) _ rfl (setRow_heap _ _ _ _ 34 (0, 0) hz) Try.underlying34 rfl ref_info) rfl ?_
      exact ⟨_, rfl, (H4.out.setRow (.inr rfl) _).less (fun b hb => .inl hb), below_setRow HBE.out (by omega) _⟩
    · rw [if_neg (by rintro (h | h); exact h2 h; exact h4 h)]
      rw [x2'] at h2
      rw [x4'] at h4
      obtain rfl : x2 = 0 := by omega
      obtain rfl : x4 = 0 := by omega
      clear h2 h4
      go_enter Try.func34, Try.ntmps34
      go_wp2_with fail
      refine bodyPost_ret (results_cell_row rfl _ _ (w.heap.size + 1) 34 _ (0, 0) _ rfl (heap_alloc2_new w _ _) Try.underlying34 rfl ref_info) rfl ?_
      exact ⟨_, rfl, HSELF.out.below (((Below.refl _ w).alloc (Nat.le_refl _) _).alloc (by simp) _), ((Below.refl _ w).alloc (Nat.le_refl _) _).alloc (by simp) _⟩
theorem polled_eq {K L : List Nat} (h : L.length = 5) : polledL K L true = listenL K (setL K L [2] [1, 4]) ∧ polledL K L false = listenL K (setL K L [1] [2, 4]) := by
  obtain ⟨a, b, c, d, e, rfl⟩ := five_of h
  exact ⟨rfl, rfl⟩
set_option maxRecDepth 100000 in
set_option maxHeartbeats 4000000 in
theorem rpolled_any (idle : Bool) (hX : ∀ b, X b → b < w.heap.size) (hT : Five w X vT K) (hL : Five w X vL L) :
    Calls Try.prog 35 #[.agg #[vT, vL], .bool idle] w fun e w' => ∃ v, e = .returned (.agg #[vT, v]) ∧ Five w' X v (polledL K L idle) ∧ Below w.heap.size w w' := by
  have hl5 := hL.len
  cases idle
  · rw [(polled_eq hl5).2]
    have HT := Lib.hid hT
    have HL := Lib.hid hL
    have HSELF := Lib.hid hL
    obtain ⟨gT, oT, cT, rfl, _, hrT⟩ := hT
    obtain ⟨gL, oL, cL, rfl, _, hrL⟩ := hL
    have HRT := Lib.hid hrT
    have HRL := Lib.hid hrL
    clear hrT hrL
    obtain ⟨W, hW⟩ : ∃ W, W = ((w.alloc (.cells #[.slice (some ⟨gT, oT, none⟩) 5 cT, .slice (some ⟨gL, oL, none⟩) 5 cL] 34)).alloc (.cells #[.slice none 0 0, .slice none 0 0] 34)) := ⟨_, rfl⟩
    have HXW : Hid (∀ b, And1 X (w.heap.size + 1) b → b < W.heap.size) := Lib.hid (fun b hb => by
      rw [hW]; simp
      rcases hb with h | h
      · have := hX b h; omega
      · omega)
    have HAL : Hid (Below w.heap.size w W) := Lib.hid (by rw [hW]; exact ((Below.refl _ w).alloc (Nat.le_refl _) _).alloc (by simp) _)
    have HZ : Hid (W.heap[w.heap.size + 1]? = some (.cells #[.slice none 0 0, .slice none 0 0] 34 (0, 0))) := Lib.hid (by rw [hW]; exact heap_alloc2_new w _ _)
    have HSZ : Hid (W.heap.size = w.heap.size + 2) := Lib.hid (by rw [hW]; simp)
    have HT2 : Hid (Five W (And1 X (w.heap.size + 1)) (.slice (some ⟨gT, oT, none⟩) 5 cT) K) := Lib.hid ((HT.out.grow (N' := And1 X (w.heap.size + 1)) (fun b hb => by rcases hb with h | h; exact .inl h; exact .inr (by omega))).below HAL.out)
    have HL2 : Hid (Five W (And1 X (w.heap.size + 1)) (.slice (some ⟨gL, oL, none⟩) 5 cL) L) := Lib.hid ((HL.out.grow (N' := And1 X (w.heap.size + 1)) (fun b hb => by rcases hb with h | h; exact .inl h; exact .inr (by omega))).below HAL.out)
    clear hX HT HL
    go_enter Try.func35, Try.ntmps35
    go_wp2_with fail
    rw [← hW]
    have hba := (show Below W.heap.size W ((W.alloc (.cells #[.int .i64 1] 3)).alloc (.cells #[.int .i64 2, .int .i64 4] 3)) from (((Below.refl W.heap.size W).alloc (by simp) _).alloc (by simp) _))
    refine (rset_any (And1 X (w.heap.size + 1)) K L _ _ _ 1 _ [1] _ 2 _ [2, 4] _ (fun b hb => Nat.lt_of_lt_of_le (HXW.out b hb) (by (try simp) <;> (try omega))) (HT2.out.below hba) (HL2.out.below hba) ((rd_lit _ [1] _ _ rfl _ (by have := HSZ.out; (try simp) <;> (try omega))).alloc _) ((rd_lit _ [2, 4] _ _ rfl _ (by have := HSZ.out; (try simp) <;> (try omega)))) (by simp) (by simp) (by decide) (by decide)).mono ?_; rintro e w3 ⟨v3, rfl, h3, hb3⟩
    have HB3 : Hid (Below W.heap.size W w3) := Lib.hid (hba.trans (hb3.mono hba.size))
    clear hba hb3
    go_wp2_with fail
    refine (rwatch_any (And1 X (w.heap.size + 1)) K _ _ _ _ (fun b hb => Nat.lt_of_lt_of_le (HXW.out b hb) HB3.out.size) (HT2.out.below HB3.out) h3).mono ?_; rintro e w4 ⟨v4, rfl, h4, hb4⟩
    have HB4 : Hid (Below W.heap.size W w4) := Lib.hid (HB3.out.trans (hb4.mono HB3.out.size))
    clear hb4
    have hz : w4.heap[w.heap.size + 1]? = some (.cells #[.slice none 0 0, .slice none 0 0] 34 (0, 0)) := (HB4.out.block _ (by have := HSZ.out; omega)).trans HZ.out
    have H4 := Lib.hid h4
    obtain ⟨g4, o4, c4, rfl, _, _⟩ := h4
    have HBE : Hid (Below w.heap.size w w4) := Lib.hid (HAL.out.trans (HB4.out.mono HAL.out.size))
    go_wp2_with (refine wpList_store_row rfl 34 _ _ rfl (w.heap.size + 1) #[.slice (some ⟨gT, oT, none⟩) 5 cT, .slice (some ⟨g4, o4, none⟩) 5 c4] rfl rfl 34 _ hz ref_info rfl (by simp [Value.oneCell']) ?_)
    refine bodyPost_ret (results_cell_row rfl _ _ (w.heap.size + 1) 34 _ (0, 0) _ rfl (setRow_heap _ _ _ _ 34 (0, 0) hz) Try.underlying34 rfl ref_info) rfl ?_
    exact ⟨_, rfl, (H4.out.setRow (.inr rfl) _).less (fun b hb => .inl hb), below_setRow HBE.out (by omega) _⟩
  · rw [(polled_eq hl5).1]
    have HT := Lib.hid hT
    have HL := Lib.hid hL
    have HSELF := Lib.hid hL
    obtain ⟨gT, oT, cT, rfl, _, hrT⟩ := hT
    obtain ⟨gL, oL, cL, rfl, _, hrL⟩ := hL
    have HRT := Lib.hid hrT
    have HRL := Lib.hid hrL
    clear hrT hrL
    obtain ⟨W, hW⟩ : ∃ W, W = ((w.alloc (.cells #[.slice (some ⟨gT, oT, none⟩) 5 cT, .slice (some ⟨gL, oL, none⟩) 5 cL] 34)).alloc (.cells #[.slice none 0 0, .slice none 0 0] 34)) := ⟨_, rfl⟩
    have HXW : Hid (∀ b, And1 X (w.heap.size + 1) b → b < W.heap.size) := Lib.hid (fun b hb => by
      rw [hW]; simp
      rcases hb with h | h
      · have := hX b h; omega
      · omega)
    have HAL : Hid (Below w.heap.size w W) := Lib.hid (by rw [hW]; exact ((Below.refl _ w).alloc (Nat.le_refl _) _).alloc (by simp) _)
    have HZ : Hid (W.heap[w.heap.size + 1]? = some (.cells #[.slice none 0 0, .slice none 0 0] 34 (0, 0))) := Lib.hid (by rw [hW]; exact heap_alloc2_new w _ _)
    have HSZ : Hid (W.heap.size = w.heap.size + 2) := Lib.hid (by rw [hW]; simp)
    have HT2 : Hid (Five W (And1 X (w.heap.size + 1)) (.slice (some ⟨gT, oT, none⟩) 5 cT) K) := Lib.hid ((HT.out.grow (N' := And1 X (w.heap.size + 1)) (fun b hb => by rcases hb with h | h; exact .inl h; exact .inr (by omega))).below HAL.out)
    have HL2 : Hid (Five W (And1 X (w.heap.size + 1)) (.slice (some ⟨gL, oL, none⟩) 5 cL) L) := Lib.hid ((HL.out.grow (N' := And1 X (w.heap.size + 1)) (fun b hb => by rcases hb with h | h; exact .inl h; exact .inr (by omega))).below HAL.out)
    clear hX HT HL
    go_enter Try.func35, Try.ntmps35
    go_wp2_with fail
    rw [← hW]
    have hba := (show Below W.heap.size W ((W.alloc (.cells #[.int .i64 2] 3)).alloc (.cells #[.int .i64 1, .int .i64 4] 3)) from (((Below.refl W.heap.size W).alloc (by simp) _).alloc (by simp) _))
    refine (rset_any (And1 X (w.heap.size + 1)) K L _ _ _ 1 _ [2] _ 2 _ [1, 4] _ (fun b hb => Nat.lt_of_lt_of_le (HXW.out b hb) (by (try simp) <;> (try omega))) (HT2.out.below hba) (HL2.out.below hba) ((rd_lit _ [2] _ _ rfl _ (by have := HSZ.out; (try simp) <;> (try omega))).alloc _) ((rd_lit _ [1, 4] _ _ rfl _ (by have := HSZ.out; (try simp) <;> (try omega)))) (by simp) (by simp) (by decide) (by decide)).mono ?_; rintro e w3 ⟨v3, rfl, h3, hb3⟩
    have HB3 : Hid (Below W.heap.size W w3) := Lib.hid (hba.trans (hb3.mono hba.size))
    clear hba hb3
    go_wp2_with fail
    refine (rwatch_any (And1 X (w.heap.size + 1)) K _ _ _ _ (fun b hb => Nat.lt_of_lt_of_le (HXW.out b hb) HB3.out.size) (HT2.out.below HB3.out) h3).mono ?_; rintro e w4 ⟨v4, rfl, h4, hb4⟩
    have HB4 : Hid (Below W.heap.size W w4) := Lib.hid (HB3.out.trans (hb4.mono HB3.out.size))
    clear hb4
    have hz : w4.heap[w.heap.size + 1]? = some (.cells #[.slice none 0 0, .slice none 0 0] 34 (0, 0)) := (HB4.out.block _ (by have := HSZ.out; omega)).trans HZ.out
    have H4 := Lib.hid h4
    obtain ⟨g4, o4, c4, rfl, _, _⟩ := h4
    have HBE : Hid (Below w.heap.size w w4) := Lib.hid (HAL.out.trans (HB4.out.mono HAL.out.size))
    go_wp2_with (refine wpList_store_row rfl 34 _ _ rfl (w.heap.size + 1) #[.slice (some ⟨gT, oT, none⟩) 5 cT, .slice (some ⟨g4, o4, none⟩) 5 c4] rfl rfl 34 _ hz ref_info rfl (by simp [Value.oneCell']) ?_)
    refine bodyPost_ret (results_cell_row rfl _ _ (w.heap.size + 1) 34 _ (0, 0) _ rfl (setRow_heap _ _ _ _ 34 (0, 0) hz) Try.underlying34 rfl ref_info) rfl ?_
    exact ⟨_, rfl, (H4.out.setRow (.inr rfl) _).less (fun b hb => .inl hb), below_setRow HBE.out (by omega) _⟩
set_option maxRecDepth 100000 in
set_option maxHeartbeats 4000000 in
theorem ranswered_any (idle : Bool) (hX : ∀ b, X b → b < w.heap.size) (hT : Five w X vT K) (hL : Five w X vL L) :
    Calls Try.prog 36 #[.agg #[vT, vL], .bool idle] w fun e w' => ∃ v, e = .returned (.agg #[vT, v]) ∧ Five w' X v (answeredL K L idle) ∧ Below w.heap.size w w' := by
  have HT := Lib.hid hT
  have HL := Lib.hid hL
  have HSELF := Lib.hid hL
  obtain ⟨gT, oT, cT, rfl, _, hrT⟩ := hT
  obtain ⟨gL, oL, cL, rfl, _, hrL⟩ := hL
  have HRT := Lib.hid hrT
  have HRL := Lib.hid hrL
  clear hrT hrL
  obtain ⟨W, hW⟩ : ∃ W, W = ((w.alloc (.cells #[.slice (some ⟨gT, oT, none⟩) 5 cT, .slice (some ⟨gL, oL, none⟩) 5 cL] 34)).alloc (.cells #[.slice none 0 0, .slice none 0 0] 34)) := ⟨_, rfl⟩
  have HXW : Hid (∀ b, And1 X (w.heap.size + 1) b → b < W.heap.size) := Lib.hid (fun b hb => by
    rw [hW]; simp
    rcases hb with h | h
    · have := hX b h; omega
    · omega)
  have HAL : Hid (Below w.heap.size w W) := Lib.hid (by rw [hW]; exact ((Below.refl _ w).alloc (Nat.le_refl _) _).alloc (by simp) _)
  have HZ : Hid (W.heap[w.heap.size + 1]? = some (.cells #[.slice none 0 0, .slice none 0 0] 34 (0, 0))) := Lib.hid (by rw [hW]; exact heap_alloc2_new w _ _)
  have HSZ : Hid (W.heap.size = w.heap.size + 2) := Lib.hid (by rw [hW]; simp)
  have HT2 : Hid (Five W (And1 X (w.heap.size + 1)) (.slice (some ⟨gT, oT, none⟩) 5 cT) K) := Lib.hid ((HT.out.grow (N' := And1 X (w.heap.size + 1)) (fun b hb => by rcases hb with h | h; exact .inl h; exact .inr (by omega))).below HAL.out)
  have HL2 : Hid (Five W (And1 X (w.heap.size + 1)) (.slice (some ⟨gL, oL, none⟩) 5 cL) L) := Lib.hid ((HL.out.grow (N' := And1 X (w.heap.size + 1)) (fun b hb => by rcases hb with h | h; exact .inl h; exact .inr (by omega))).below HAL.out)
  clear hX HT HL
  obtain ⟨x2, x2'⟩ : ∃ x, L.getD 2 0 = x := ⟨_, rfl⟩
  have k2 : ((w.alloc (.cells #[.slice (some ⟨gT, oT, none⟩) 5 cT, .slice (some ⟨gL, oL, none⟩) 5 cL] 34)).alloc (.cells #[.slice none 0 0, .slice none 0 0] 34)).cell? ⟨gL, oL + 2, none⟩ = some (.int .i64 (x2 : Int)) := by
    obtain ⟨b, off, e, _, hc⟩ := (HRL.out.below HAL.out).at_ (k := 2) (by decide)
    cases e
    rw [encZ_get, x2', hW] at hc
    exact hc
  obtain ⟨x4, x4'⟩ : ∃ x, L.getD 4 0 = x := ⟨_, rfl⟩
  have k4 : ((w.alloc (.cells #[.slice (some ⟨gT, oT, none⟩) 5 cT, .slice (some ⟨gL, oL, none⟩) 5 cL] 34)).alloc (.cells #[.slice none 0 0, .slice none 0 0] 34)).cell? ⟨gL, oL + 4, none⟩ = some (.int .i64 (x4 : Int)) := by
    obtain ⟨b, off, e, _, hc⟩ := (HRL.out.below HAL.out).at_ (k := 4) (by decide)
    cases e
    rw [encZ_get, x4', hW] at hc
    exact hc
  unfold answeredL
  cases idle
  · rw [if_neg (by simp)]
    by_cases h4 : 0 < L.getD 4 0
    · rw [if_pos h4]
      rw [x4'] at h4
      have hd4 : decide (0 < x4) = true := decide_eq_true (by omega)
      clear h4
      go_enter Try.func36, Try.ntmps36
      go_wp2_with fail
      refine bodyPost_ret (results_cell_row rfl _ _ (w.heap.size + 1) 34 _ (0, 0) _ rfl (heap_alloc2_new w _ _) Try.underlying34 rfl ref_info) rfl ?_
      exact ⟨_, rfl, HSELF.out.below (((Below.refl _ w).alloc (Nat.le_refl _) _).alloc (by simp) _), ((Below.refl _ w).alloc (Nat.le_refl _) _).alloc (by simp) _⟩
    · rw [if_neg h4]
      rw [x4'] at h4
      have hd4 : decide (0 < x4) = false := decide_eq_false (by omega)
      clear h4
      go_enter Try.func36, Try.ntmps36
      go_wp2_with fail
      rw [← hW]
      have hba := (show Below W.heap.size W (W.alloc (.cells #[.int .i64 3] 3)) from ((Below.refl W.heap.size W).alloc (by simp) _))
      refine (rset_any (And1 X (w.heap.size + 1)) K L _ _ _ 1 _ [3] _ 0 _ [] _ (fun b hb => Nat.lt_of_lt_of_le (HXW.out b hb) (by (try simp) <;> (try omega))) (HT2.out.below hba) (HL2.out.below hba) ((rd_lit _ [3] _ _ rfl _ (by have := HSZ.out; (try simp) <;> (try omega)))) (⟨rfl, fun h => by omega⟩) (by simp) (by simp) (by decide) (by decide)).mono ?_; rintro e w3 ⟨v3, rfl, h3, hb3⟩
      have HB3 : Hid (Below W.heap.size W w3) := Lib.hid (hba.trans (hb3.mono hba.size))
      clear hba hb3
      have hz : w3.heap[w.heap.size + 1]? = some (.cells #[.slice none 0 0, .slice none 0 0] 34 (0, 0)) := (HB3.out.block _ (by have := HSZ.out; omega)).trans HZ.out
      have H3 := Lib.hid h3
      obtain ⟨g3, o3, c3, rfl, _, _⟩ := h3
      have HBE : Hid (Below w.heap.size w w3) := Lib.hid (HAL.out.trans (HB3.out.mono HAL.out.size))
      go_wp2_with (refine wpList_store_row rfl 34 _ _ rfl (w.heap.size + 1) #[.slice (some ⟨gT, oT, none⟩) 5 cT, .slice (some ⟨g3, o3, none⟩) 5 c3] rfl rfl 34 _ hz ref_info rfl (by simp [Value.oneCell']) ?_)
      refine bodyPost_ret (results_cell_row rfl _ _ (w.heap.size + 1) 34 _ (0, 0) _ rfl (setRow_heap _ _ _ _ 34 (0, 0) hz) Try.underlying34 rfl ref_info) rfl ?_
      exact ⟨_, rfl, (H3.out.setRow (.inr rfl) _).less (fun b hb => .inl hb), below_setRow HBE.out (by omega) _⟩
  · by_cases h2 : 0 < L.getD 2 0
    · rw [if_pos ⟨rfl, h2⟩]
      rw [x2'] at h2
      have hd : decide (0 < x2) = true := decide_eq_true (by omega)
      clear h2
      go_enter Try.func36, Try.ntmps36
      go_wp2_with fail
      rw [← hW]
      have hba := (show Below W.heap.size W ((W.alloc (.cells #[.int .i64 4] 3)).alloc (.cells #[.int .i64 2, .int .i64 3] 3)) from (((Below.refl W.heap.size W).alloc (by simp) _).alloc (by simp) _))
      refine (rset_any (And1 X (w.heap.size + 1)) K L _ _ _ 1 _ [4] _ 2 _ [2, 3] _ (fun b hb => Nat.lt_of_lt_of_le (HXW.out b hb) (by (try simp) <;> (try omega))) (HT2.out.below hba) (HL2.out.below hba) ((rd_lit _ [4] _ _ rfl _ (by have := HSZ.out; (try simp) <;> (try omega))).alloc _) ((rd_lit _ [2, 3] _ _ rfl _ (by have := HSZ.out; (try simp) <;> (try omega)))) (by simp) (by simp) (by decide) (by decide)).mono ?_; rintro e w3 ⟨v3, rfl, h3, hb3⟩
      have HB3 : Hid (Below W.heap.size W w3) := Lib.hid (hba.trans (hb3.mono hba.size))
      clear hba hb3
      have hz : w3.heap[w.heap.size + 1]? = some (.cells #[.slice none 0 0, .slice none 0 0] 34 (0, 0)) := (HB3.out.block _ (by have := HSZ.out; omega)).trans HZ.out
      have H3 := Lib.hid h3
      obtain ⟨g3, o3, c3, rfl, _, _⟩ := h3
      have HBE : Hid (Below w.heap.size w w3) := Lib.hid (HAL.out.trans (HB3.out.mono HAL.out.size))
      go_wp2_with (refine wpList_store_row rfl 34 _ _ rfl (w.heap.size + 1) #[.slice (some ⟨gT, oT, none⟩) 5 cT, .slice (some ⟨g3, o3, none⟩) 5 c3] rfl rfl 34 _ hz ref_info rfl (by simp [Value.oneCell']) ?_)
      refine bodyPost_ret (results_cell_row rfl _ _ (w.heap.size + 1) 34 _ (0, 0) _ rfl (setRow_heap _ _ _ _ 34 (0, 0) hz) Try.underlying34 rfl ref_info) rfl ?_
      exact ⟨_, rfl, (H3.out.setRow (.inr rfl) _).less (fun b hb => .inl hb), below_setRow HBE.out (by omega) _⟩
    · rw [if_neg (fun h => h2 h.2)]
      rw [x2'] at h2
      have hd : decide (0 < x2) = false := decide_eq_false (by omega)
      clear h2
      by_cases h4 : 0 < L.getD 4 0
      · rw [if_pos h4]
        rw [x4'] at h4
        have hd4 : decide (0 < x4) = true := decide_eq_true (by omega)
        clear h4
        go_enter Try.func36, Try.ntmps36
        go_wp2_with fail
        refine bodyPost_ret (results_cell_row rfl _ _ (w.heap.size + 1) 34 _ (0, 0) _ rfl (heap_alloc2_new w _ _) Try.underlying34 rfl ref_info) rfl ?_
        exact ⟨_, rfl, HSELF.out.below (((Below.refl _ w).alloc (Nat.le_refl _) _).alloc (by simp) _), ((Below.refl _ w).alloc (Nat.le_refl _) _).alloc (by simp) _⟩
      · rw [if_neg h4]
        rw [x4'] at h4
        have hd4 : decide (0 < x4) = false := decide_eq_false (by omega)
        clear h4
        go_enter Try.func36, Try.ntmps36
        go_wp2_with fail
        rw [← hW]
        have hba := (show Below W.heap.size W (W.alloc (.cells #[.int .i64 3] 3)) from ((Below.refl W.heap.size W).alloc (by simp) _))
        refine (rset_any (And1 X (w.heap.size + 1)) K L _ _ _ 1 _ [3] _ 0 _ [] _ (fun b hb => Nat.lt_of_lt_of_le (HXW.out b hb) (by (try simp) <;> (try omega))) (HT2.out.below hba) (HL2.out.below hba) ((rd_lit _ [3] _ _ rfl _ (by have := HSZ.out; (try simp) <;> (try omega)))) (⟨rfl, fun h => by omega⟩) (by simp) (by simp) (by decide) (by decide)).mono ?_; rintro e w3 ⟨v3, rfl, h3, hb3⟩
        have HB3 : Hid (Below W.heap.size W w3) := Lib.hid (hba.trans (hb3.mono hba.size))
        clear hba hb3
        have hz : w3.heap[w.heap.size + 1]? = some (.cells #[.slice none 0 0, .slice none 0 0] 34 (0, 0)) := (HB3.out.block _ (by have := HSZ.out; omega)).trans HZ.out
        have H3 := Lib.hid h3
        obtain ⟨g3, o3, c3, rfl, _, _⟩ := h3
        have HBE : Hid (Below w.heap.size w w3) := Lib.hid (HAL.out.trans (HB3.out.mono HAL.out.size))
        go_wp2_with (refine wpList_store_row rfl 34 _ _ rfl (w.heap.size + 1) #[.slice (some ⟨gT, oT, none⟩) 5 cT, .slice (some ⟨g3, o3, none⟩) 5 c3] rfl rfl 34 _ hz ref_info rfl (by simp [Value.oneCell']) ?_)
        refine bodyPost_ret (results_cell_row rfl _ _ (w.heap.size + 1) 34 _ (0, 0) _ rfl (setRow_heap _ _ _ _ 34 (0, 0) hz) Try.underlying34 rfl ref_info) rfl ?_
        exact ⟨_, rfl, (H3.out.setRow (.inr rfl) _).less (fun b hb => .inl hb), below_setRow HBE.out (by omega) _⟩
end
end Go.Proofs.Ytlfjndjbfbejkaa.Pace
