/-
  Gaps: the set whose pairs numbers are.
-/
import Derived.Test.YtdnikjjcgoilfaaGaps7
namespace Go.Proofs.Ytdnikjjcgoilfaa.Gaps
open Go.ChangeShapes Go.WideShapes Go.RowKit SpanMath

/-- the spans of the first pairs, counted from a base on -/
def spTo (b : Int) (L : List Int) : Nat → List Sp
  | 0 => []
  | k + 1 => spTo b L k ++ (if wayI (L.getD (2 * k) 0) (L.getD (2 * k + 1) 0) ≤ 8388608 then [(wayI b (L.getD (2 * k) 0), wayI b (L.getD (2 * k) 0) + wayI (L.getD (2 * k) 0) (L.getD (2 * k + 1) 0))] else [])
theorem spTo_len (b : Int) (L : List Int) : ∀ k, (spTo b L k).length ≤ k
  | 0 => Nat.le_refl _
  | k + 1 => by
    have := spTo_len b L k
    rw [spTo, List.length_append]; split <;> simp <;> omega
def spansOf (b : Int) (L : List Int) : List Sp := (List.range (L.length / 2)).map fun k => (wayI b (L.getD (2 * k) 0), wayI b (L.getD (2 * k + 1) 0))
theorem rise_at (b far : Int) : ∀ (L : List Int) (least : Int), riseL b far least L = true → (∀ i, i < L.length → least ≤ wayI b (L.getD i 0) ∧ wayI b (L.getD i 0) ≤ far) ∧ (∀ i, i + 1 < L.length → wayI b (L.getD i 0) < wayI b (L.getD (i + 1) 0))
  | [], _, _ => ⟨fun i h => by simp at h, fun i h => by simp at h⟩
  | x :: L, least, h => by
    rw [riseL] at h
    split at h
    · cases h
    · rename_i hno
      obtain ⟨h1, h2⟩ := rise_at b far L (wayI b x + 1) h
      refine ⟨fun i hi => ?_, fun i hi => ?_⟩
      · cases i with
        | zero => simp only [List.getD_cons_zero]; omega
        | succ i => simp only [List.getD_cons_succ]; have := h1 i (by simpa using hi); omega
      · cases i with
        | zero => simp only [List.getD_cons_zero, List.getD_cons_succ]; have := h1 0 (by simpa using hi); omega
        | succ i => simp only [List.getD_cons_succ]; exact h2 i (by simpa using hi)
theorem way_diff {b x y : Int} (h : wayI b x ≤ wayI b y) : wayI x y = wayI b y - wayI b x := by unfold wayI at *; omega
def goodS (b t : Int) (L : List Int) : Bool := decide (wayI b t ≤ 8388608) && (decide (L.length % 2 = 0) && riseL b (wayI b t) 0 L)
theorem sp_good {b t : Int} {L : List Int} (h : goodS b t L = true) : ∀ k, k ≤ L.length / 2 → spTo b L k = (List.range k).map fun k => (wayI b (L.getD (2 * k) 0), wayI b (L.getD (2 * k + 1) 0)) := by
  simp only [goodS, Bool.and_eq_true, decide_eq_true_eq] at h
  obtain ⟨h1, h2, h3⟩ := h
  obtain ⟨r1, r2⟩ := rise_at b _ L 0 h3
  intro k
  induction k with
  | zero => intro _; rfl
  | succ k ih =>
    intro hk
    have a1 := r1 (2 * k) (by omega)
    have a2 := r1 (2 * k + 1) (by omega)
    have a3 := r2 (2 * k) (by omega)
    have hd := way_diff (b := b) (x := L.getD (2 * k) 0) (y := L.getD (2 * k + 1) 0) (by omega)
    have hb := way_bounds b (L.getD (2 * k) 0)
    rw [spTo, ih (by omega), if_pos (by rw [hd]; omega), List.range_succ, List.map_append]
    simp only [List.map_cons, List.map_nil]
    rw [hd, show wayI b (L.getD (2 * k) 0) + (wayI b (L.getD (2 * k + 1) 0) - wayI b (L.getD (2 * k) 0)) = wayI b (L.getD (2 * k + 1) 0) from by omega]
theorem spans_norm {b t : Int} {L : List Int} (h : goodS b t L = true) : Norm (spansOf b L) ∧ ∀ x ∈ spansOf b L, 0 ≤ x.1 ∧ x.2 ≤ wayI b t := by
  simp only [goodS, Bool.and_eq_true, decide_eq_true_eq] at h
  obtain ⟨h1, h2, h3⟩ := h
  obtain ⟨r1, r2⟩ := rise_at b _ L 0 h3
  have hmono : ∀ i j, i < j → j < L.length → wayI b (L.getD i 0) < wayI b (L.getD j 0) := by
    intro i j hij
    induction j with
    | zero => omega
    | succ j ih =>
      intro hj
      have := r2 j hj
      by_cases he : i = j
      · subst he; exact this
      · have := ih (by omega) (by omega); omega
  refine ⟨⟨?_, ?_⟩, ?_⟩
  · unfold spansOf
    rw [List.pairwise_map]
    refine List.Pairwise.imp_of_mem ?_ (List.pairwise_lt_range)
    intro i j hi hj hij
    have := List.mem_range.1 hj
    exact hmono (2 * i + 1) (2 * j) (by omega) (by omega)
  · intro x hx
    obtain ⟨k, hk, rfl⟩ := List.mem_map.1 hx
    have := List.mem_range.1 hk
    exact hmono (2 * k) (2 * k + 1) (by omega) (by omega)
  · intro x hx
    obtain ⟨k, hk, rfl⟩ := List.mem_map.1 hx
    have := List.mem_range.1 hk
    exact ⟨(r1 (2 * k) (by omega)).1, (r1 (2 * k + 1) (by omega)).2⟩

/-- a base and a slice of spans that a call keeps in boxes -/
structure SS (S : World) (lo : Nat) (W : World) (gb gs : Nat) (b : Int) (v : Value) (N : List Sp) : Prop where
  gb1 : W.heap[gb]? = some (.cells #[.int .u32 b] 28 (0, 0))
  gs1 : W.heap[gs]? = some (.cells #[v] 22 (0, 0))
  own : View.OwnS W (gs + 1) v N
  below : Below lo S W
  low : lo ≤ gb ∧ gb < gs
theorem SS.drewN {S W : World} {lo gb gs : Nat} {b : Int} {v : Value} {N : List Sp} (h : SS S lo W gb gs b v N) (q : Nat) : SS S lo (W.drewN q) gb gs b v N :=
  ⟨h.gb1, h.gs1, h.own.below (View.below_drewN (Below.refl _ _) q), View.below_drewN h.below q, h.low⟩
theorem ownS_keep {w w' : World} {base : Nat} {v : Value} {L : List Sp} (h : View.OwnS w base v L) (hk : ∀ j, base ≤ j → j < w.heap.size → w'.heap[j]? = w.heap[j]?) : View.OwnS w' base v L := by
  refine ⟨h.1, ?_⟩
  rcases h.2 with hn | ⟨g, cap, cur, rfl, hg, hh, rest⟩
  · exact .inl hn
  · have hlt : g < w.heap.size := (Array.getElem?_eq_some_iff.1 hh).1
    exact .inr ⟨g, cap, cur, rfl, hg, (hk g hg hlt).trans hh, rest⟩
theorem SS.far {S W W' : World} {lo gb gs : Nat} {b : Int} {v : Value} {N : List Sp} {o : Obj} (h : SS S lo W gb gs b v N) (hg : (W.alloc o).grownBy W' v.ownBlock) :
    W'.heap[gb]? = some (.cells #[.int .u32 b] 28 (0, 0)) ∧ W'.heap[gs]? = some (.cells #[v] 22 (0, 0)) ∧ Below lo S W' := by
  have hb : Below W.heap.size W (W.alloc o) := (Below.refl _ _).alloc (Nat.le_refl _) _
  have hl := fun j hj => (h.own.lt j hj).1
  have hsz : gs < W.heap.size := (Array.getElem?_eq_some_iff.1 h.gs1).1
  have hlo := h.low
  have hk : ∀ j, j < gs + 1 → W'.heap[j]? = W.heap[j]? := fun j hj => (hg.block j (by simp; omega) (by
    intro e
    have := hl j e.symm
    omega)).trans (hb.block j (by omega))
  refine ⟨(hk gb (by omega)).trans h.gb1, (hk gs (by omega)).trans h.gs1, ?_⟩
  exact (h.below.alloc (by omega) _).grown hg (by simp; omega) (fun j hj => by have := hl j hj; omega)
set_option maxRecDepth 100000 in
set_option maxHeartbeats 2000000 in
theorem setC_any (S : World) (lo gb gs : Nat) (b : Int) (v : Value) (N : List Sp) (f n : Int) (w : World) (h : SS S lo w gb gs b v N) (hN : N.length ≤ 10000) (hn : 0 ≤ n ∧ n ≤ 16777216) :
    Calls Try.prog 41 #[.int .u32 f, .int .i64 n, .pointer (some ⟨gb, 0, none⟩), .pointer (some ⟨gs, 0, none⟩)] w fun e w' => (∃ v, e = .returned v) ∧ ∃ v', SS S lo w' gb gs b v' (N ++ [(wayI b f, wayI b f + n)]) := by
  obtain ⟨n0, n1⟩ := hn
  obtain ⟨a, q, cap, rfl, hft, hrd⟩ := h.own.form
  have k0 : w.cell? ⟨gb, 0, none⟩ = some (.int .u32 b) := Go.Joins.cell_of_block h.gb1 0
  have k1 : w.cell? ⟨gs, 0, none⟩ = some (.slice a q cap) := Go.Joins.cell_of_block h.gs1 0
  have H := Lib.hid h
  have HN := Lib.hid hN
  obtain ⟨r, hr⟩ : ∃ r, wayI b f = r := ⟨_, rfl⟩
  have hrb := way_bounds b f
  rw [hr] at hrb ⊢
  obtain ⟨r0, r1⟩ := hrb
  have HR : Hid ((f - b) % 16777216 = r) := Lib.hid hr
  have HSZ : Hid (gs + 1 ≤ w.heap.size) := Lib.hid (Array.getElem?_eq_some_iff.1 h.gs1).1
  clear h hN hft hrd hr
  go_enter Try.func41, Try.ntmps41
  go_wp2_with fail
  refine (SeqCalls.to_any _ _ _).mono ?_; rintro e w2 ⟨rfl, rfl⟩
  rw [HR.out]
  go_wp2_with (at_builtin; refine View.wpList_appS rfl (.tmp 10) (.tmp 16) 22 rfl Try.underlying22 (gs + 1) _ _ rfl (H.out.own.below ((Below.refl _ _).alloc (Nat.le_refl _) _)) _ 1 1 [(r, r + n)] rfl (View.rdS_lit1 _ _ _) (fun h => by cases h) (by have := HN.out; simp <;> omega) (by have := HSZ.out; simp; omega) ?_; intro v5 w5 hown5 hgrow5; obtain ⟨a5, q5, c5, rfl, _, _⟩ := hown5.form; have HO5 : Hid (View.OwnS w5 (gs + 1) (.slice a5 q5 c5) (N ++ [(r, r + n)])) := Lib.hid hown5; have HFAR := Lib.hid (H.out.far (o := .cells #[.int .i64 r, .int .i64 (r + n)] 56) hgrow5); have hz5 := HFAR.out.2.1; have hz6 : w5.frozen? ⟨gs, 0, none⟩ = false := frozen_of_row _ _ _ _ _ hz5; have hz7 : w5.cell? ⟨gs, 0, none⟩ = some (.slice a q cap) := Go.Joins.cell_of_block hz5 0; clear hown5 hgrow5 k0 k1)
  (try simp only [Exit.inBlock, Exit.then]); refine bodyPost_end (results_none rfl _ _ _) rfl ?_
  obtain ⟨f1, f2, f4⟩ := HFAR.out
  have hgl := Go.Joins.block_setCell (i := 0) f2 (.slice a5 q5 c5)
  have hlo := H.out.low
  exact ⟨⟨_, rfl⟩, _, (heap_setCell_other _ _ _ _ (by show gb ≠ gs; omega)).trans f1, by simpa using hgl, ownS_keep HO5.out (fun j hj _ => heap_setCell_other _ _ _ _ (by show j ≠ gs; omega)), f4.setCell (by show lo ≤ gs; omega) _, hlo⟩
end Go.Proofs.Ytdnikjjcgoilfaa.Gaps
