/-
  Banks that a law made itself; what is over at a tick; the fixed fact.
-/
import Derived.Test.YtjcphdbfafjngaaTimer2
namespace Go.Proofs.Ytjcphdbfafjngaa.Bank
open Go.RowKit View

/-- a bank of the law's own -/
def Mine (w : World) (base B : Nat) (L : List Nat) (x : World) : Prop := Below base w x ∧ base ≤ x.heap.size ∧ base ≤ B ∧ BankAt x B 0 [] [] 25 L
section
variable {w x : World} {base B : Nat} {L : List Nat}
theorem Mine.only {x' : World} {B2 : Nat} (h : Mine w base B L x) (ho : Only x x' B2) (hn : B ≠ B2) (hB2 : base ≤ B2) : Mine w base B L x' :=
  ⟨ho.below h.1 h.2.1 hB2, Nat.le_trans h.2.1 ho.size, h.2.2.1, h.2.2.2.only ho hn⟩
theorem mine_of {x' : World} {L' : List Nat} (h : Mine w base B L x) (ho : Only x x' B) (hb : BankAt x' B 0 [] [] 25 L') : Mine w base B L' x' :=
  ⟨ho.below h.1 h.2.1 h.2.2.1, Nat.le_trans h.2.1 ho.size, h.2.2.1, hb⟩
theorem start_own (t n : Int) (h : Mine w base B L x) :
    Calls Try.prog 4 #[.pointer (some ⟨B, 0, none⟩), .int .i64 t, .int .i64 n] x fun e x' => (∃ v, e = .returned v) ∧ Mine w base B (startL L t n) x' ∧ Only x x' B :=
  (start_any B 0 [] [] _ L t n x h.2.2.2).mono fun _ _ ⟨h1, h2, h3⟩ => ⟨h1, mine_of h h3 h2, h3⟩
theorem tick_own (h : Mine w base B L x) :
    Calls Try.prog 5 #[.pointer (some ⟨B, 0, none⟩)] x fun e x' => ∃ a cap, e = .returned (.slice a (oversL L).length cap) ∧ RdI x' a (oversL L).length (oversL L) ∧ Mine w base B (tickL L) x' ∧ Only x x' B :=
  (tick_any B 0 [] [] _ L x h.2.2.2).mono fun _ _ ⟨v, h1, h0, h2, h3⟩ => by
    obtain ⟨a, n, cap, rfl, _, h6⟩ := h0.form
    have h7 := h6.1
    subst h7
    exact ⟨a, cap, h1, h6, mine_of h h3 h2, h3⟩
theorem left_own (t : Int) (h : Mine w base B L x) :
    Calls Try.prog 6 #[.pointer (some ⟨B, 0, none⟩), .int .i64 t] x fun e x' => e = .returned (.int .i64 (leftL L t : Nat)) ∧ x = x' := left_any B 0 [] [] _ L t x h.2.2.2
theorem next_own (h : Mine w base B L x) :
    Calls Try.prog 7 #[.pointer (some ⟨B, 0, none⟩)] x fun e x' => e = .returned (.tuple #[.int .i64 ((nextL L : Nat) : Int), .bool (decide (0 < nextL L))]) ∧ x = x' := next_any B 0 [] [] _ L x h.2.2.2
theorem mine_new (h : Below base w x) (hs : base ≤ x.heap.size) : Mine w base x.heap.size zeroL (x.alloc (.cells #[.int .i64 0, .int .i64 0, .int .i64 0, .int .i64 0, .int .i64 0] 25)) := by
  refine ⟨h.alloc hs _, by simp; omega, hs, ?_, rfl, rfl, fun i => ?_⟩
  · exact heap_alloc_new x _
  · rcases (show i = 0 ∨ i = 1 ∨ i = 2 ∨ i = 3 ∨ i = 4 ∨ 5 ≤ i by omega) with rfl | rfl | rfl | rfl | rfl | h5 <;> try (simp [zeroL])
    show (zeroL[i]?).getD 0 ≤ 1048576
    rw [List.getElem?_eq_none (by simpa [zeroL] using h5)]; simp
end

theorem bank_cells {w : World} {B : Nat} {pre post : List Value} {T : TypeId} {L : List Nat} (h : BankAt w B 0 pre post T L) : w.cell? ⟨B, 0, none⟩ = some (.int .i64 ((L.getD 0 0 : Nat) : Int)) ∧ w.cell? ⟨B, 1, none⟩ = some (.int .i64 ((L.getD 1 0 : Nat) : Int)) ∧
    w.cell? ⟨B, 2, none⟩ = some (.int .i64 ((L.getD 2 0 : Nat) : Int)) ∧ w.cell? ⟨B, 3, none⟩ = some (.int .i64 ((L.getD 3 0 : Nat) : Int)) ∧ w.cell? ⟨B, 4, none⟩ = some (.int .i64 ((L.getD 4 0 : Nat) : Int)) := by
  have c1 := h.cell (i := 1) (by omega)
  have c2 := h.cell (i := 2) (by omega)
  have c3 := h.cell (i := 3) (by omega)
  have c4 := h.cell (i := 4) (by omega)
  rw [Nat.zero_add] at c1 c2 c3 c4
  exact ⟨h.cell (i := 0) (by omega), c1, c2, c3, c4⟩

theorem mine_copy {w x : World} {base : Nat} {a b c d e : Nat} (h : Below base w x) (hs : base ≤ x.heap.size) (ht : ∀ i, ([a, b, c, d, e] : List Nat).getD i 0 ≤ 1048576) :
    Mine w base x.heap.size [a, b, c, d, e] (x.alloc (.cells #[.int .i64 (a : Int), .int .i64 (b : Int), .int .i64 (c : Int), .int .i64 (d : Int), .int .i64 (e : Int)] 25)) :=
  ⟨h.alloc hs _, by simp; omega, hs, heap_alloc_new x _, rfl, rfl, ht⟩

/-! ### what is over -/
theorem count_overs (L : List Nat) (t : Nat) : ∀ k, (oversTo L k).count (t : Int) = if t < k ∧ L.getD t 0 = 1 then 1 else 0
  | 0 => by simp [oversTo]
  | k + 1 => by
    have ih := count_overs L t k
    by_cases h : L.getD k 0 = 1
    · rw [overs_yes h, List.count_append, ih]
      by_cases hk : k = t
      · subst hk
        rw [if_neg (fun h3 => Nat.lt_irrefl _ h3.1), if_pos ⟨by omega, h⟩]; simp
      · rw [List.count_cons_of_ne (by omega), List.count_nil]
        by_cases h2 : t < k ∧ L.getD t 0 = 1
        · rw [if_pos h2, if_pos ⟨by omega, h2.2⟩]
        · rw [if_neg h2, if_neg (fun h3 => h2 ⟨by omega, h3.2⟩)]
    · rw [overs_no h, ih]
      by_cases h2 : t < k ∧ L.getD t 0 = 1
      · rw [if_pos h2, if_pos ⟨by omega, h2.2⟩]
      · rw [if_neg h2, if_neg (fun h3 => h2 ⟨by
          have : t ≠ k := fun e => h (by rw [← e]; exact h3.2)
          omega, h3.2⟩)]
theorem overs_none {L : List Nat} (h : ∀ i, i < 5 → L.getD i 0 ≠ 1) : oversL L = [] := by
  have : ∀ k, k ≤ 5 → oversTo L k = [] := by
    intro k
    induction k with
    | zero => intro _; rfl
    | succ k ih => intro hk; rw [overs_no (h k (by omega)), ih (by omega)]
  exact this 5 (Nat.le_refl _)
theorem overs_some {L : List Nat} {i : Nat} (hi : i < 5) (h : L.getD i 0 = 1) : 0 < (oversL L).length := by
  have h1 := count_overs L i 5
  rw [if_pos ⟨hi, h⟩] at h1
  have h2 := List.count_le_length (a := (i : Int)) (l := oversTo L 5)
  unfold oversL
  omega
theorem getD_tick (L : List Nat) (i : Nat) : (tickL L).getD i 0 = L.getD i 0 - 1 := by
  simp only [tickL, List.getD, List.getElem?_map]
  cases L[i]? <;> simp
theorem getD_start {L : List Nat} (hl : L.length = 5) (t i : Nat) (n : Int) (ht : t < 5) : (startL L (t : Int) n).getD i 0 = if i = t then clampN n else L.getD i 0 := by
  rw [startL, if_pos (by omega)]
  simp only [List.getD, List.getElem?_set, Int.toNat_natCast]
  by_cases h : t = i
  · subst h; simp [hl, ht]
  · rw [if_neg h, if_neg (fun e => h e.symm)]
theorem getD_stop {L : List Nat} (hl : L.length = 5) (t i : Nat) (ht : t < 5) : (stopL L (t : Int)).getD i 0 = if i = t then 0 else L.getD i 0 := by
  rw [stopL, if_pos (by omega)]
  simp only [List.getD, List.getElem?_set, Int.toNat_natCast]
  by_cases h : t = i
  · subst h; simp [hl, ht]
  · rw [if_neg h, if_neg (fun e => h e.symm)]
theorem getD_zero (i : Nat) : zeroL.getD i 0 = 0 := by
  rcases (show i = 0 ∨ i = 1 ∨ i = 2 ∨ i = 3 ∨ i = 4 ∨ 5 ≤ i by omega) with rfl | rfl | rfl | rfl | rfl | h5 <;> try rfl
  show (zeroL[i]?).getD 0 = 0
  rw [List.getElem?_eq_none (by simpa [zeroL] using h5)]; rfl
theorem clampN_of {n : Int} {N : Nat} (h : n = (N : Int)) (h1 : 1 ≤ N) (h2 : N ≤ 1048576) : clampN n = N := by unfold clampN; omega
theorem leftL_at (L : List Nat) (t : Nat) (ht : t < 5) : leftL L (t : Int) = L.getD t 0 := by rw [leftL, if_pos (by omega)]; rfl

end Go.Proofs.Ytjcphdbfafjngaa.Bank
