/-
  Events: a signal's text.
-/
import Derived.Test.YtcepiapidcofiaaDoorEvDig
import Derived.Test.YtcepiapidcofiaaDoorOwnStr
import Derived.Deep.DeepCutAuto
namespace Go.Proofs.YtcepiapidcofiaaDoor.Ev
open Go.ChangeShapes Go.WideShapes Go.RowKit Own

def wordS (k : Nat) : ByteArray := ⟨(lookOf k).1.toArray⟩
/-- the words of a signal's text -/
def wordsT (k : Nat) (d : ByteArray) (self : Bool) (code : Nat) (n : Int) : List ByteArray :=
  [wordS k] ++ (if k = 3 then [byS self] else []) ++ (if (lookOf k).2 then [hexS d] else []) ++ (if k = 12 then [⟨[UInt8.ofNat code].toArray⟩] else []) ++ (if k = 12 ∧ code = 86 then [⟨(Lib.itoa n).toArray⟩] else [])
def joinT (l : List ByteArray) : ByteArray := ⟨(Lib.join (l.map (·.data.toList)) [32]).toArray⟩
def textS (k : Nat) (d : ByteArray) (self : Bool) (code : Nat) (n : Int) : ByteArray := joinT (wordsT k d self code n)

/-- the signal and what its text begins with, as they lie in memory -/
structure SL (W : World) (g : Nat) (k : Int) (d : ByteArray) (sf : Bool) (code n : Int) (X : ByteArray) (b : Bool) : Prop where
  p0 : W.cell? ⟨g, 0, none⟩ = some (.int .i64 k)
  p1 : W.cell? ⟨g, 1, none⟩ = some (.string d)
  p2 : W.cell? ⟨g, 2, none⟩ = some (.bool sf)
  p3 : W.cell? ⟨g, 3, none⟩ = some (.int .u8 code)
  p4 : W.cell? ⟨g, 4, none⟩ = some (.int .i64 n)
  q0 : W.cell? ⟨g + 1, 0, none⟩ = some (.string X)
  q1 : W.cell? ⟨g + 1, 1, none⟩ = some (.bool b)
  lt : g + 2 ≤ W.heap.size
theorem SL.below {W W' : World} {g B : Nat} {k : Int} {d : ByteArray} {sf : Bool} {code n : Int} {X : ByteArray} {b : Bool} (h : SL W g k d sf code n X b) (hb : Below B W W') (hB : g + 2 ≤ B) : SL W' g k d sf code n X b := by
  have f : ∀ r o, r < g + 2 → W'.cell? ⟨r, o, none⟩ = W.cell? ⟨r, o, none⟩ := fun r o hr => hb.cell (p := ⟨r, o, none⟩) (by show r < B; omega)
  exact ⟨(f _ _ (by omega)).trans h.p0, (f _ _ (by omega)).trans h.p1, (f _ _ (by omega)).trans h.p2, (f _ _ (by omega)).trans h.p3, (f _ _ (by omega)).trans h.p4, (f _ _ (by omega)).trans h.q0, (f _ _ (by omega)).trans h.q1, Nat.le_trans h.lt hb.size⟩
theorem SL.new (w : World) (k : Int) (d : ByteArray) (sf : Bool) (code n : Int) (X : ByteArray) (b : Bool) (t t' : TypeId) :
    SL ((w.alloc (.cells #[.int .i64 k, .string d, .bool sf, .int .u8 code, .int .i64 n] t)).alloc (.cells #[.string X, .bool b] t')) w.heap.size k d sf code n X b := by
  have e0 := heap_alloc2_old w (.cells #[.int .i64 k, .string d, .bool sf, .int .u8 code, .int .i64 n] t) (.cells #[.string X, .bool b] t')
  have e1 := heap_alloc2_new w (.cells #[.int .i64 k, .string d, .bool sf, .int .u8 code, .int .i64 n] t) (.cells #[.string X, .bool b] t')
  exact ⟨Go.Joins.cell_of_block e0 0, Go.Joins.cell_of_block e0 1, Go.Joins.cell_of_block e0 2, Go.Joins.cell_of_block e0 3, Go.Joins.cell_of_block e0 4, Go.Joins.cell_of_block e1 0, Go.Joins.cell_of_block e1 1, by simp⟩

theorem cell_lit (w : World) (y : ByteArray) (t : TypeId) : (w.alloc (.cells #[.string y] t)).cell? ⟨w.heap.size, 0, none⟩ = some (.string y) := Go.Joins.cell_of_block (heap_alloc_new w _) 0
theorem cell_lit_at (w : World) (y : ByteArray) (t : TypeId) (g : Nat) (h : g = w.heap.size) : (w.alloc (.cells #[.string y] t)).cell? ⟨g, 0, none⟩ = some (.string y) := by subst h; exact cell_lit w y t
theorem below_grow (w : World) (k : Nat) (os : Array Obj) : Below w.heap.size w (Go.Sort.grow (w.drewN k) os) := by
  refine ⟨rfl, rfl, rfl, by simp [Go.Sort.grow], fun r hr => ?_⟩
  simp [Go.Sort.grow, Array.getElem?_append, hr]
theorem itoa_any (n : Int) (h1 : -9223372036854775808 ≤ n) (h2 : n ≤ 9223372036854775807) (w : World) (hT : Tabs w) :
    Calls Tryd.prog 11 #[.int .i64 n] w fun e w' => e = .returned (.string ⟨(Lib.itoa n).toArray⟩) ∧ Below w.heap.size w w' :=
  (Tryd.strconv_Itoa n h1 h2 w hT.pows.2).mono fun e w' ⟨he, k, os, hw⟩ => ⟨he, by rw [hw]; exact below_grow w k os⟩
theorem mem_more {w : World} {base : Nat} {v : Value} {L : List ByteArray} {y : ByteArray} (_ : OwnT w base v (L ++ [y])) (h : ∀ x ∈ L, x.size ≤ 20100) (hy : y.size ≤ 20100) : ∀ x ∈ L ++ [y], x.size ≤ 20100 := fun x hx => by
  rcases List.mem_append.1 hx with h1 | h1
  · exact h x h1
  · rw [List.mem_singleton.1 h1]; exact hy
theorem wordS_size (k : Nat) (h : k ≤ 12) : (wordS k).size ≤ 20100 := by
  match k, h with
  | 0, _ | 1, _ | 2, _ | 3, _ | 4, _ | 5, _ | 6, _ | 7, _ | 8, _ | 9, _ | 10, _ | 11, _ | 12, _ => decide
  | k + 13, h => exact absurd h (by omega)
theorem hex_size (d : ByteArray) (h : d.size ≤ 10000) : (hexS d).size ≤ 20100 := by
  unfold hexS
  split
  · decide
  · show (hexL d.data.toList).length ≤ 20100
    rw [hexL_length]
    have : d.data.toList.length = d.size := rfl
    omega
theorem by_size (b : Bool) : (byS b).size ≤ 20100 := by cases b <;> decide
theorem str_size1 (a : Int) : (strOfNums [a]).size ≤ 20100 := by rw [str1_size]; decide
theorem itoa_size (n : Int) (h1 : -9223372036854775808 ≤ n) (h2 : n ≤ 9223372036854775807) : (⟨(Lib.itoa n).toArray⟩ : ByteArray).size ≤ 20100 := by
  show (Lib.itoa n).length ≤ 20100
  by_cases h : 0 ≤ n
  · obtain ⟨N, rfl⟩ : ∃ N : Nat, n = (N : Int) := ⟨n.toNat, by omega⟩
    rw [Lib.itoa_nonneg, Lib.decDigits_length]
    exact Nat.le_trans (Lib.nDigits_le20 N (by omega)) (by decide)
  · obtain ⟨N, rfl, hN⟩ : ∃ N : Nat, n = -(N : Int) ∧ 1 ≤ N := ⟨n.natAbs, by omega, by omega⟩
    rw [Lib.itoa_neg N hN, List.length_cons, Lib.decDigits_length]
    exact Nat.le_trans (Nat.succ_le_succ (Lib.nDigits_le20 N (by omega))) (by decide)
theorem join_length : ∀ (L : List (List UInt8)), (∀ x ∈ L, x.length ≤ 20100) → (Lib.join L [32]).length ≤ L.length * 20101
  | [], _ => by decide
  | [x], h => by rw [Lib.join_one]; have := h x (by simp); simp; omega
  | x :: y :: r, h => by
    have ih := join_length (y :: r) (fun z hz => h z (by simp [hz]))
    have hx := h x (by simp)
    have e : Lib.join (x :: y :: r) [32] = x ++ [32] ++ Lib.join (y :: r) [32] := by simp [Lib.join, List.intercalate, List.intersperse]
    rw [e]
    simp only [List.length_append, List.length_cons, List.length_nil] at *
    omega
theorem join_room (L : List ByteArray) (h : ∀ x ∈ L, x.size ≤ 20100) (hl : L.length ≤ 10) : (Lib.join (L.map (·.data.toList)) (⟨#[32]⟩ : ByteArray).data.toList).length ≤ 140737488355328 := by
  have := join_length (L.map (·.data.toList)) (fun x hx => by
    obtain ⟨y, hy, rfl⟩ := List.mem_map.1 hx
    exact h y hy)
  rw [List.length_map] at this
  refine Nat.le_trans this ?_
  omega

set_option maxHeartbeats 2000000 in
theorem text_in (k : Nat) (d : ByteArray) (self : Bool) (code : Nat) (n : Int) (w : World) (hT : Tabs w) (hd : d.size ≤ 10000) (h1 : 1 ≤ k) (h2 : k ≤ 12) (hc : code < 256) (hn1 : -9223372036854775808 ≤ n) (hn2 : n ≤ 9223372036854775807) :
    Calls Tryd.prog 7 #[.agg #[.int .i64 (k : Int), .string d, .bool self, .int .u8 (code : Int), .int .i64 n]] w fun e w' => e = .returned (.string (textS k d self code n)) ∧ Below w.heap.size w w' := by
  obtain ⟨l0, l1⟩ := (hT.alloc (.cells #[.int .i64 (k : Int), .string d, .bool self, .int .u8 (code : Int), .int .i64 n] 23)).looks.row k (by omega)
  rw [show (⟨(lookOf k).1.toArray⟩ : ByteArray) = wordS k from rfl] at l0
  obtain ⟨X, hX⟩ : ∃ X, wordS k = X := ⟨_, rfl⟩
  obtain ⟨b, hb⟩ : ∃ b, (lookOf k).2 = b := ⟨_, rfl⟩
  rw [hX] at l0
  rw [hb] at l1
  have HX := Lib.hid hX
  have HB := Lib.hid hb
  have HT := Lib.hid hT
  clear hT hX hb
  go_enter Tryd.func7, Tryd.ntmps7
  go_upto_region 5 with (fail)
  have hsl0 := SL.new w (k : Int) d self (code : Int) n X b 23 34
  have hsz0 : ((w.alloc (.cells #[.int .i64 (k : Int), .string d, .bool self, .int .u8 (code : Int), .int .i64 n] 23)).alloc (.cells #[.string X, .bool b] 34)).heap.size = w.heap.size + 2 := by simp
  have hbw0 : Below w.heap.size w ((w.alloc (.cells #[.int .i64 (k : Int), .string d, .bool self, .int .u8 (code : Int), .int .i64 n] 23)).alloc (.cells #[.string X, .bool b] 34)) := ((Below.refl w.heap.size w).alloc (Nat.le_refl _) _).alloc (by simp) _
  clear l0 l1
  generalize (w.alloc (.cells #[.int .i64 (k : Int), .string d, .bool self, .int .u8 (code : Int), .int .i64 n] 23)).alloc (.cells #[.string X, .bool b] 34) = W0 at *
  have hown := ownT_lit W0 X W0.heap.size (Nat.le_refl _)
  rw [hsz0] at hown
  have hb := (Below.refl W0.heap.size W0).alloc (Nat.le_refl _) (.cells #[.string X] 9)
  rw [hsz0] at hb
  have hT := HT.out.below hbw0
  have HTT : Hid (∀ W, Below (w.heap.size + 2) W0 W → Tabs W) := Lib.hid fun W h => hT.below (by rw [hsz0]; exact h)
  have HSL : Hid (∀ W, Below (w.heap.size + 2) W0 W → SL W w.heap.size (k : Int) d self (code : Int) n X b) := Lib.hid fun W h => hsl0.below h (Nat.le_refl _)
  have HBW : Hid (∀ W, Below (w.heap.size + 2) W0 W → Below w.heap.size w W ∧ w.heap.size + 2 ≤ W.heap.size) := Lib.hid fun W h => ⟨hbw0.trans (h.mono (by omega)), by have := h.size; omega⟩
  rw [show w.heap.size + 1 + 1 = w.heap.size + 2 from rfl]
  clear hsl0 hbw0 hT HT
  generalize W0.alloc (.cells #[.string X] 9) = W1 at *
  generalize hg : w.heap.size = g at *
  obtain ⟨p0, p1, p2, p3, p4, q0, q1, _⟩ := HSL.out _ hb
  generalize Value.slice (some ⟨g + 2, 0, none⟩) 1 1 = v0 at *
  have hm : ∀ x ∈ [X], x.size ≤ 20100 := fun x hx => by obtain rfl := List.mem_singleton.1 hx; rw [← HX.out]; exact wordS_size k h2
  have hcv := conv1
  have hn1' := Lib.hid hn1
  have hn2' := Lib.hid hn2
  have HG := Lib.hid hg
  have HK2 := Lib.hid h2
  have HC := Lib.hid hc
  clear hn1 hn2 hg h2 h1 hc hsz0
  go_wp2_with (first
    | (at_builtin
       go_loud (refine wpList_appT rfl _ _ 36 rfl Tryd.underlying36 (g + 2) _ _ rfl (hown.below (by first | exact (Below.refl _ _).alloc (Nat.le_refl _) _ | exact ((Below.refl _ _).alloc (Nat.le_refl _) _).alloc (by simp) _)) _ _ rfl (cell_lit_at _ _ _ _ (by simp)) (by simp) (by have := (HBW.out _ hb).2; simp; omega) ?_)
       intro v2 w2 own2 grow2
       (have hb2 : Below (g + 2) W0 w2 := own_grown (by first | exact hb.alloc (HBW.out _ hb).2 _ | exact (hb.alloc (HBW.out _ hb).2 _).alloc (by have := (HBW.out _ hb).2; simp; omega) _) (by have := (HBW.out _ hb).2; simp; omega) grow2 (hown.below (by first | exact (Below.refl _ _).alloc (Nat.le_refl _) _ | exact ((Below.refl _ _).alloc (Nat.le_refl _) _).alloc (by simp) _)))
       (have hm2 := mem_more own2 hm (by first | exact hex_size d hd | exact by_size self | exact str_size1 _ | exact itoa_size n hn1'.out hn2'.out))
       clear hown hb hm grow2 p0 p1 p2 p3 p4 q0 q1
       (have hown := own2) 
       (have hb := hb2) 
       (have hm := hm2)
       clear own2 hb2 hm2
       obtain ⟨p0, p1, p2, p3, p4, q0, q1, _⟩ := HSL.out _ hb)
    | (go_at_call 9
       refine (by_any self _).mono ?_; rintro e w2 ⟨rfl, rfl⟩)
    | (go_at_call 10
       refine (hex_any d _ hd).mono ?_; rintro e w2 ⟨rfl, hb2⟩
       (have hown2 := hown.below hb2)
       (have hb3 := hb.trans (hb2.mono (HBW.out _ hb).2))
       clear hown hb hb2 p0 p1 p2 p3 p4 q0 q1
       (have hown := hown2)
       (have hb := hb3)
       clear hown2 hb3
       obtain ⟨p0, p1, p2, p3, p4, q0, q1, _⟩ := HSL.out _ hb)
    | (go_at_call 11
       refine (itoa_any n hn1'.out hn2'.out _ (HTT.out _ hb)).mono ?_; rintro e w2 ⟨rfl, hb2⟩
       (have hown2 := hown.below hb2)
       (have hb3 := hb.trans (hb2.mono (HBW.out _ hb).2))
       clear hown hb hb2 p0 p1 p2 p3 p4 q0 q1
       (have hown := hown2)
       (have hb := hb3)
       clear hown2 hb3
       obtain ⟨p0, p1, p2, p3, p4, q0, q1, _⟩ := HSL.out _ hb)
    | (go_at_call 12
       go_loud (obtain ⟨gg, cc, rfl, hcc, _, hlt, hcell⟩ := hown.form (by simp))
       go_loud (refine (Tryd.strings_Join gg 0 cc _ ⟨#[32]⟩ _ hcell hlt (by simp) hcc (join_room _ hm (by simp))).mono ?_); rintro e w2 ⟨rfl, hb2⟩
       (have hfin := (HBW.out _ hb).1.trans (hb2.mono (by have := (HBW.out _ hb).2; omega)))))
  all_goals first
    | (go_ret
       refine ⟨ret_str ?_, by rw [HG.out]; exact hfin⟩
       unfold textS joinT wordsT
       rw [HX.out, HB.out]
       simp only [beq_iff_eq, beq_eq_false_iff_ne, ne_eq] at *
       (repeat' split)
       all_goals first
         | rfl
         | (exfalso; omega)
         | (exfalso; simp_all; done)
         | (exfalso; simp_all; omega))


theorem text_out (k : Int) (d : ByteArray) (self : Bool) (code n : Int) (w : World) (h : k < 1 ∨ 12 < k) :
    Calls Tryd.prog 7 #[.agg #[.int .i64 k, .string d, .bool self, .int .u8 code, .int .i64 n]] w fun e w' => e = .returned (.string ⟨#[]⟩) ∧ Below w.heap.size w w' := by
  go_enter Tryd.func7, Tryd.ntmps7
  rcases h with h | h
  all_goals go_wp2_with fail
  all_goals first
    | (go_ret; exact ⟨rfl, (Below.refl _ _).alloc (Nat.le_refl _) _⟩)
    | (exfalso; omega)
end Go.Proofs.YtcepiapidcofiaaDoor.Ev
