/-
  The mathematics of sets of whole numbers, written as spans: what the numbers of spans are, in one way.
-/
import Derived.Below
namespace Go.Proofs.Ytdnikjjcgoilfaa.SpanMath

abbrev Sp := Int × Int

def run (x : Sp) : List Int := (List.range (x.2 - x.1).toNat).map fun i : Nat => x.1 + (i : Int)
def nums (l : List Sp) : List Int := l.flatMap run

theorem mem_run {x : Sp} {n : Int} : n ∈ run x ↔ x.1 ≤ n ∧ n < x.2 := by
  unfold run
  simp only [List.mem_map, List.mem_range]
  constructor
  · rintro ⟨i, hi, rfl⟩; omega
  · rintro ⟨h1, h2⟩; exact ⟨(n - x.1).toNat, by omega, by omega⟩

theorem mem_nums {l : List Sp} {n : Int} : n ∈ nums l ↔ ∃ x ∈ l, x.1 ≤ n ∧ n < x.2 := by
  simp only [nums, List.mem_flatMap, mem_run]

theorem run_len (x : Sp) : (run x).length = (x.2 - x.1).toNat := by simp [run]
theorem nums_append (l m : List Sp) : nums (l ++ m) = nums l ++ nums m := by simp [nums]
theorem nums_cons (x : Sp) (l : List Sp) : nums (x :: l) = run x ++ nums l := by simp [nums]
theorem nums_nil : nums [] = [] := rfl
theorem nums_take (l : List Sp) (k : Nat) (h : k < l.length) : nums (l.take (k + 1)) = nums (l.take k) ++ run (l.getD k (0, 0)) := by
  rw [List.take_succ_eq_append_getElem h, nums_append, nums_cons, nums_nil, List.append_nil]
  simp [List.getD, h]

def Rising (l : List Int) : Prop := l.Pairwise (· < ·)

theorem rising_ext : ∀ {l m : List Int}, Rising l → Rising m → (∀ n, n ∈ l ↔ n ∈ m) → l = m
  | [], [], _, _, _ => rfl
  | [], b :: m, _, _, h => by have := (h b).2 (by simp); simp at this
  | a :: l, [], _, _, h => by have := (h a).1 (by simp); simp at this
  | a :: l, b :: m, hl, hm, h => by
    unfold Rising at hl hm
    rw [List.pairwise_cons] at hl hm
    have hab : a = b := by
      have h1 := (h a).1 (by simp)
      have h2 := (h b).2 (by simp)
      rw [List.mem_cons] at h1 h2
      rcases h1 with h1 | h1
      · exact h1
      · rcases h2 with h2 | h2
        · exact h2.symm
        · have := hm.1 a h1; have := hl.1 b h2; omega
    subst hab
    rw [rising_ext hl.2 hm.2 fun n => ?_]
    constructor
    · intro hn
      have h1 := (h n).1 (List.mem_cons_of_mem _ hn)
      rw [List.mem_cons] at h1
      rcases h1 with h1 | h1
      · have := hl.1 n hn; omega
      · exact h1
    · intro hn
      have h1 := (h n).2 (List.mem_cons_of_mem _ hn)
      rw [List.mem_cons] at h1
      rcases h1 with h1 | h1
      · have := hm.1 n hn; omega
      · exact h1

theorem rising_len : ∀ (l : List Int) (a b : Int), Rising l → (∀ n ∈ l, a ≤ n ∧ n < b) → l.length ≤ (b - a).toNat
  | [], _, _, _, _ => by simp
  | x :: l, a, b, h, hb => by
    unfold Rising at h
    rw [List.pairwise_cons] at h
    have h1 := rising_len l (x + 1) b h.2 fun n hn => ⟨by have := h.1 n hn; omega, (hb n (by simp [hn])).2⟩
    have h2 := hb x (by simp)
    simp only [List.length_cons]
    omega

theorem run_rising (x : Sp) : Rising (run x) := by
  unfold Rising run
  rw [List.pairwise_map]
  exact List.pairwise_lt_range.imp fun h => by omega

/-- the one way in which a set is written -/
def Norm (l : List Sp) : Prop := l.Pairwise (fun a b => a.2 < b.1) ∧ ∀ x ∈ l, x.1 < x.2

theorem norm_nil : Norm [] := ⟨List.Pairwise.nil, by simp⟩
theorem norm_cons {x : Sp} {l : List Sp} : Norm (x :: l) ↔ (∀ y ∈ l, x.2 < y.1) ∧ x.1 < x.2 ∧ Norm l := by
  unfold Norm
  rw [List.pairwise_cons]
  constructor
  · rintro ⟨⟨h1, h2⟩, h3⟩
    exact ⟨h1, h3 x (by simp), h2, fun y hy => h3 y (by simp [hy])⟩
  · rintro ⟨h1, h2, h3, h4⟩
    refine ⟨⟨h1, h3⟩, fun y hy => ?_⟩
    rw [List.mem_cons] at hy
    rcases hy with rfl | hy
    · exact h2
    · exact h4 y hy

theorem norm_rising : ∀ {l : List Sp}, Norm l → Rising (nums l)
  | [], _ => List.Pairwise.nil
  | x :: l, h => by
    rw [norm_cons] at h
    unfold Rising
    rw [nums_cons, List.pairwise_append]
    refine ⟨run_rising x, norm_rising h.2.2, fun a ha b hb => ?_⟩
    rw [mem_run] at ha
    obtain ⟨y, hy, hb1, _⟩ := mem_nums.1 hb
    have := h.1 y hy
    omega

/-! ### one span more, behind those that are there -/
def joinR : List Sp → Sp → List Sp
  | [], x => if x.2 ≤ x.1 then [] else [x]
  | y :: r, x => if x.2 ≤ x.1 then y :: r else if x.1 ≤ y.2 then (y.1, max y.2 x.2) :: r else x :: y :: r
theorem joinR_nil (x : Sp) : joinR [] x = if x.2 ≤ x.1 then [] else [x] := rfl
theorem joinR_cons (y : Sp) (r : List Sp) (x : Sp) : joinR (y :: r) x = if x.2 ≤ x.1 then y :: r else if x.1 ≤ y.2 then (y.1, max y.2 x.2) :: r else x :: y :: r := rfl
def join (l : List Sp) (x : Sp) : List Sp := (joinR l.reverse x).reverse

def NormR (r : List Sp) : Prop := r.Pairwise (fun a b => b.2 < a.1) ∧ ∀ x ∈ r, x.1 < x.2
theorem norm_reverse (l : List Sp) : NormR l.reverse ↔ Norm l := by
  unfold NormR Norm
  rw [List.pairwise_reverse]
  simp
theorem norm_reverse' (l : List Sp) : Norm l.reverse ↔ NormR l := by
  have := norm_reverse l.reverse
  rw [List.reverse_reverse] at this
  exact this.symm

theorem joinR_norm (r : List Sp) (x : Sp) (h : NormR r) (hx : ∀ y ∈ r, y.1 ≤ x.1) : NormR (joinR r x) := by
  obtain ⟨h1, h2⟩ := h
  cases r with
  | nil =>
    rw [joinR_nil]
    split
    · exact ⟨List.Pairwise.nil, by simp⟩
    · exact ⟨by simp, by simp; omega⟩
  | cons y r =>
    rw [joinR_cons]
    split
    · exact ⟨h1, h2⟩
    · rw [List.pairwise_cons] at h1
      have hy := h2 y (by simp)
      have hyx := hx y (by simp)
      split
      · refine ⟨by rw [List.pairwise_cons]; exact h1, fun z hz => ?_⟩
        rw [List.mem_cons] at hz
        rcases hz with rfl | hz
        · show y.1 < max y.2 x.2; omega
        · exact h2 z (by simp [hz])
      · refine ⟨?_, fun z hz => ?_⟩
        · rw [List.pairwise_cons, List.pairwise_cons]
          refine ⟨fun z hz => ?_, h1⟩
          rw [List.mem_cons] at hz
          rcases hz with rfl | hz
          · omega
          · have := h1.1 z hz; omega
        · rw [List.mem_cons] at hz
          rcases hz with rfl | hz
          · omega
          · exact h2 z hz

theorem joinR_mem (r : List Sp) (x : Sp) (n : Int) (hx : ∀ y ∈ r, y.1 ≤ x.1) :
    (∃ y ∈ joinR r x, y.1 ≤ n ∧ n < y.2) ↔ (∃ y ∈ r, y.1 ≤ n ∧ n < y.2) ∨ (x.1 ≤ n ∧ n < x.2) := by
  cases r with
  | nil =>
    rw [joinR_nil]
    split
    · simp; omega
    · simp
  | cons y r =>
    rw [joinR_cons]
    have hyx := hx y (by simp)
    split
    · constructor
      · exact fun h => .inl h
      · rintro (h | h)
        · exact h
        · omega
    · split
      · simp only [List.mem_cons, exists_eq_or_imp]
        constructor
        · rintro (h | h)
          · by_cases h' : n < y.2
            · exact .inl (.inl ⟨h.1, h'⟩)
            · exact .inr ⟨by omega, by omega⟩
          · exact .inl (.inr h)
        · rintro ((h | h) | h)
          · exact .inl ⟨h.1, by omega⟩
          · exact .inr h
          · exact .inl ⟨by omega, by omega⟩
      · simp only [List.mem_cons, exists_eq_or_imp]
        constructor
        · rintro (h | h | h)
          · exact .inr h
          · exact .inl (.inl h)
          · exact .inl (.inr h)
        · rintro ((h | h) | h)
          · exact .inr (.inl h)
          · exact .inr (.inr h)
          · exact .inl h

theorem joinR_all (r : List Sp) (x : Sp) (p : Sp → Prop) (h : ∀ y ∈ r, p y) (hx : p x) (hm : ∀ y ∈ r, p (y.1, max y.2 x.2)) : ∀ y ∈ joinR r x, p y := by
  cases r with
  | nil =>
    rw [joinR_nil]
    split
    · simp
    · simpa using hx
  | cons y r =>
    rw [joinR_cons]
    split
    · exact h
    · split
      · intro z hz
        rw [List.mem_cons] at hz
        rcases hz with rfl | hz
        · exact hm y (by simp)
        · exact h z (by simp [hz])
      · intro z hz
        rw [List.mem_cons] at hz
        rcases hz with rfl | hz
        · exact hx
        · exact h z hz

theorem joinR_len (r : List Sp) (x : Sp) : (joinR r x).length ≤ r.length + 1 := by
  cases r with
  | nil => rw [joinR_nil]; split <;> simp
  | cons y r => rw [joinR_cons]; split <;> (try split) <;> simp

theorem join_norm {l : List Sp} {x : Sp} (h : Norm l) (hx : ∀ y ∈ l, y.1 ≤ x.1) : Norm (join l x) := by
  unfold join
  rw [norm_reverse']
  exact joinR_norm _ _ ((norm_reverse l).2 h) fun y hy => hx y (by simpa using hy)
theorem join_mem {l : List Sp} {x : Sp} {n : Int} (hx : ∀ y ∈ l, y.1 ≤ x.1) : n ∈ nums (join l x) ↔ n ∈ nums l ∨ (x.1 ≤ n ∧ n < x.2) := by
  rw [mem_nums, mem_nums]
  have := joinR_mem l.reverse x n fun y hy => hx y (by simpa using hy)
  simpa [join] using this
theorem join_start {l : List Sp} {x : Sp} {b : Int} (h : ∀ y ∈ l, y.1 ≤ b) (hx : x.1 ≤ b) : ∀ y ∈ join l x, y.1 ≤ b := by
  intro y hy
  exact joinR_all l.reverse x (fun y => y.1 ≤ b) (fun z hz => h z (by simpa using hz)) hx (fun z hz => h z (by simpa using hz)) y (by simpa [join] using hy)
theorem join_len (l : List Sp) (x : Sp) : (join l x).length ≤ l.length + 1 := by
  have := joinR_len l.reverse x
  simpa [join] using this
/-- the three ways of it -/
theorem join_none (l : List Sp) (x : Sp) (h : x.2 ≤ x.1) : join l x = l := by
  unfold join
  cases hr : l.reverse with
  | nil => simp [joinR, h, ← hr]
  | cons y r => simp [joinR, h, ← hr]
theorem join_first (x : Sp) (h : x.1 < x.2) : join [] x = [x] := by
  simp [join, joinR]; omega
theorem join_last (l : List Sp) (y x : Sp) (h : x.1 < x.2) (hy : x.1 ≤ y.2) : join (l ++ [y]) x = l ++ [(y.1, max y.2 x.2)] := by
  simp [join, joinR, hy]; omega
theorem join_new (l : List Sp) (y x : Sp) (h : x.1 < x.2) (hy : y.2 < x.1) : join (l ++ [y]) x = l ++ [y] ++ [x] := by
  have h1 : ¬ x.1 ≤ y.2 := by omega
  have h2 : ¬ x.2 ≤ x.1 := by omega
  simp [join, joinR, h1, h2]

/-! ### sets -/
def IsSet (S : List Sp) (p : Int → Prop) : Prop := Norm S ∧ ∀ n, n ∈ nums S ↔ p n
def inSp (l : List Sp) (n : Int) : Prop := ∃ x ∈ l, x.1 ≤ n ∧ n < x.2

def SortedBy (l : List Sp) : Prop := l.Pairwise fun a b => a.1 ≤ b.1

theorem fold_join : ∀ (l s : List Sp), SortedBy l → Norm s → (∀ y ∈ s, ∀ x ∈ l, y.1 ≤ x.1) →
    Norm (l.foldl join s) ∧ ∀ n, n ∈ nums (l.foldl join s) ↔ n ∈ nums s ∨ inSp l n
  | [], s, _, hs, _ => ⟨hs, by simp [inSp]⟩
  | x :: l, s, hl, hs, hb => by
    unfold SortedBy at hl
    rw [List.pairwise_cons] at hl
    have hx : ∀ y ∈ s, y.1 ≤ x.1 := fun y hy => hb y hy x (by simp)
    have h := fold_join l (join s x) hl.2 (join_norm hs hx) fun y hy z hz => join_start (b := z.1) (fun u hu => hb u hu z (by simp [hz])) (hl.1 z hz) y hy
    refine ⟨h.1, fun n => ?_⟩
    rw [List.foldl_cons, h.2, join_mem hx]
    simp only [inSp, List.mem_cons, exists_eq_or_imp]
    constructor
    · rintro ((h | h) | h)
      · exact .inl h
      · exact .inr (.inl h)
      · exact .inr (.inr h)
    · rintro (h | h | h)
      · exact .inl (.inl h)
      · exact .inl (.inr h)
      · exact .inr h

/-! ### a rising list with a number -/
def putStep (x : Int) (s : List Int × Bool) (y : Int) : List Int × Bool := if s.2 = false ∧ x < y then (s.1 ++ [x, y], true) else (s.1 ++ [y], s.2)
def putFold (x : Int) (l : List Int) : List Int × Bool := l.foldl (putStep x) ([], false)
def putL (l : List Int) (x : Int) : List Int := if x ∈ l then l else if (putFold x l).2 = true then (putFold x l).1 else (putFold x l).1 ++ [x]

theorem putFold_take (x : Int) (l : List Int) (k : Nat) (h : k < l.length) : putFold x (l.take (k + 1)) = putStep x (putFold x (l.take k)) (l.getD k 0) := by
  unfold putFold
  rw [List.take_succ_eq_append_getElem h, List.foldl_append, List.foldl_cons, List.foldl_nil]
  simp [List.getD, h]

def PutInv (x : Int) (p : List Int) (s : List Int × Bool) : Prop :=
  Rising s.1 ∧ (∀ n, n ∈ s.1 ↔ n ∈ p ∨ (s.2 = true ∧ n = x)) ∧ (s.2 = true ↔ ∃ z ∈ p, x < z)

theorem put_inv (x : Int) : ∀ (l p : List Int) (s : List Int × Bool), Rising (p ++ l) → x ∉ p ++ l → PutInv x p s → PutInv x (p ++ l) (l.foldl (putStep x) s)
  | [], p, s, _, _, h => by simpa using h
  | y :: l, p, s, hr, hx, h => by
    have e : p ++ y :: l = (p ++ [y]) ++ l := by simp
    rw [e] at hr hx ⊢
    refine put_inv x l (p ++ [y]) (putStep x s y) hr hx ?_
    obtain ⟨h1, h2, h3⟩ := h
    have hp : Rising (p ++ [y]) := (List.pairwise_append.1 hr).1
    have hpy : ∀ z ∈ p, z < y := fun z hz => (List.pairwise_append.1 hp).2.2 z hz y (by simp)
    have hxp : x ∉ p := fun hh => hx (by simp [hh])
    have hxy : x ≠ y := fun hh => hx (by simp [hh])
    unfold putStep
    split
    · rename_i hc
      obtain ⟨hc1, hc2⟩ := hc
      have hn : ∀ z ∈ s.1, z < x := by
        intro z hz
        rw [h2] at hz
        rcases hz with hz | hz
        · have hnot : ¬ ∃ z ∈ p, x < z := by rw [← h3, hc1]; simp
          rcases Int.lt_trichotomy z x with h' | h' | h'
          · exact h'
          · subst h'; exact absurd hz hxp
          · exact absurd ⟨z, hz, h'⟩ hnot
        · rw [hc1] at hz; simp at hz
      refine ⟨?_, fun n => ?_, ?_⟩
      · show Rising (s.1 ++ [x, y])
        unfold Rising
        rw [List.pairwise_append]
        refine ⟨h1, by simp [hc2], fun a ha b hb => ?_⟩
        have := hn a ha
        simp only [List.mem_cons, List.not_mem_nil, or_false] at hb
        rcases hb with rfl | rfl <;> omega
      · show n ∈ s.1 ++ [x, y] ↔ _
        simp only [List.mem_append, List.mem_cons, List.not_mem_nil, or_false, h2, hc1]
        simp only [Bool.false_eq_true, false_and, or_false, true_and]
        constructor
        · rintro (h | h | h)
          · exact .inl (.inl h)
          · exact .inr h
          · exact .inl (.inr h)
        · rintro ((h | h) | h)
          · exact .inl h
          · exact .inr (.inr h)
          · exact .inr (.inl h)
      · simp only [true_iff]
        exact ⟨y, by simp, hc2⟩
    · rename_i hc
      refine ⟨?_, fun n => ?_, ?_⟩
      · show Rising (s.1 ++ [y])
        unfold Rising
        rw [List.pairwise_append]
        refine ⟨h1, by simp, fun a ha b hb => ?_⟩
        simp only [List.mem_cons, List.not_mem_nil, or_false] at hb
        subst hb
        rw [h2] at ha
        rcases ha with ha | ⟨ha, rfl⟩
        · exact hpy a ha
        · obtain ⟨z, hz, hlt⟩ := h3.1 ha
          have := hpy z hz
          omega
      · show n ∈ s.1 ++ [y] ↔ _
        simp only [List.mem_append, List.mem_cons, List.not_mem_nil, or_false, h2]
        constructor
        · rintro ((h | h) | h)
          · exact .inl (.inl h)
          · exact .inr h
          · exact .inl (.inr h)
        · rintro ((h | h) | h)
          · exact .inl (.inl h)
          · exact .inr h
          · exact .inl (.inr h)
      · show s.2 = true ↔ _
        constructor
        · intro h
          obtain ⟨z, hz, hlt⟩ := h3.1 h
          exact ⟨z, by simp [hz], hlt⟩
        · rintro ⟨z, hz, hlt⟩
          rw [List.mem_append] at hz
          rcases hz with hz | hz
          · exact h3.2 ⟨z, hz, hlt⟩
          · simp only [List.mem_cons, List.not_mem_nil, or_false] at hz
            subst hz
            cases hs : s.2 with
            | true => rfl
            | false => exact absurd ⟨hs, hlt⟩ hc

theorem putL_spec (l : List Int) (x : Int) (h : Rising l) : Rising (putL l x) ∧ ∀ n, n ∈ putL l x ↔ n ∈ l ∨ n = x := by
  unfold putL
  split
  · rename_i hx
    exact ⟨h, fun n => ⟨.inl, fun hh => by rcases hh with hh | rfl <;> assumption⟩⟩
  · rename_i hx
    have hi := put_inv x l [] ([], false) (by simpa using h) (by simpa using hx) ⟨List.Pairwise.nil, by simp, by simp⟩
    rw [List.nil_append] at hi
    change PutInv x l (putFold x l) at hi
    obtain ⟨h1, h2, h3⟩ := hi
    split
    · rename_i hd
      exact ⟨h1, fun n => by rw [h2, hd]; simp⟩
    · rename_i hd
      have hd' : (putFold x l).2 = false := by simpa using hd
      refine ⟨?_, fun n => ?_⟩
      · unfold Rising
        rw [List.pairwise_append]
        refine ⟨h1, by simp, fun a ha b hb => ?_⟩
        simp only [List.mem_cons, List.not_mem_nil, or_false] at hb
        subst hb
        rw [h2, hd'] at ha
        simp at ha
        have hnot : ¬ ∃ z ∈ l, b < z := by rw [← h3, hd']; simp
        rcases Int.lt_trichotomy a b with h' | h' | h'
        · exact h'
        · subst h'; exact absurd ha hx
        · exact absurd ⟨a, ha, h'⟩ hnot
      · rw [List.mem_append, h2, hd']
        simp

theorem putFold_len (x : Int) : ∀ (l : List Int) (s : List Int × Bool), (l.foldl (putStep x) s).1.length ≤ s.1.length + l.length + (if s.2 = true then 0 else 1)
  | [], s => by simp
  | y :: l, s => by
    have := putFold_len x l (putStep x s y)
    rw [List.foldl_cons]
    refine Nat.le_trans this ?_
    unfold putStep
    split
    · rename_i hc
      simp [hc.1]; omega
    · simp; omega
theorem putFold_le (x : Int) (l : List Int) : (putFold x l).1.length ≤ l.length + 1 := by
  have := putFold_len x l ([], false)
  simpa [putFold] using this

/-! ### the ends of the spans of a rising list -/
def spStep (s : List Int × Option Int) (x : Int) : List Int × Option Int := (if s.2 = some (x - 1) then s.1.dropLast ++ [x + 1] else s.1 ++ [x, x + 1], some x)
def spFold (l : List Int) : List Int × Option Int := l.foldl spStep ([], none)
def flat (S : List Sp) : List Int := S.flatMap fun x => [x.1, x.2]
theorem spFold_take (l : List Int) (k : Nat) (h : k < l.length) : spFold (l.take (k + 1)) = spStep (spFold (l.take k)) (l.getD k 0) := by
  unfold spFold
  rw [List.take_succ_eq_append_getElem h, List.foldl_append, List.foldl_cons, List.foldl_nil]
  simp [List.getD, h]
theorem spFold_snd (l : List Int) (k : Nat) (h : k < l.length) : (spFold (l.take (k + 1))).2 = some (l.getD k 0) := by
  rw [spFold_take l k h]; rfl

theorem run_succ (a : Int) (k : Nat) : run (a, a + (k : Int) + 1) = run (a, a + (k : Int)) ++ [a + (k : Int)] := by
  unfold run
  rw [show ((a, a + (k : Int) + 1).2 - (a, a + (k : Int) + 1).1).toNat = k + 1 from by show (a + (k : Int) + 1 - a).toNat = k + 1; omega]
  rw [show ((a, a + (k : Int)).2 - (a, a + (k : Int)).1).toNat = k from by show (a + (k : Int) - a).toNat = k; omega]
  rw [List.range_succ, List.map_append]
  rfl

theorem sp_run (a : Int) (out : List Int) (p : Option Int) (hp : p ≠ some (a - 1)) : ∀ k : Nat, (run (a, a + (k : Int) + 1)).foldl spStep (out, p) = (out ++ [a, a + (k : Int) + 1], some (a + (k : Int)))
  | 0 => by
    rw [show run (a, a + ((0 : Nat) : Int) + 1) = [a] from by
      unfold run
      rw [show ((a, a + ((0 : Nat) : Int) + 1).2 - (a, a + ((0 : Nat) : Int) + 1).1).toNat = 1 from by show (a + ((0 : Nat) : Int) + 1 - a).toNat = 1; omega]
      simp [List.range_succ]]
    simp [spStep, hp]
  | k + 1 => by
    rw [show a + ((k + 1 : Nat) : Int) + 1 = a + ((k + 1 : Nat) : Int) + 1 from rfl, run_succ a (k + 1), List.foldl_append]
    rw [show a + ((k + 1 : Nat) : Int) = a + (k : Int) + 1 from by omega, sp_run a out p hp k]
    simp [spStep]

theorem sp_nums : ∀ (S : List Sp) (out : List Int) (p : Option Int), Norm S → (∀ x ∈ S, ∀ q, p = some q → q + 1 < x.1) → ((nums S).foldl spStep (out, p)).1 = out ++ flat S
  | [], out, p, _, _ => by simp [nums, flat]
  | x :: S, out, p, h, hp => by
    rw [norm_cons] at h
    obtain ⟨h1, h2, h3⟩ := h
    obtain ⟨k, hk⟩ : ∃ k : Nat, x.2 = x.1 + (k : Int) + 1 := ⟨(x.2 - x.1 - 1).toNat, by omega⟩
    rw [nums_cons, List.foldl_append, show x = (x.1, x.1 + (k : Int) + 1) from by rw [← hk], sp_run x.1 out p (fun hh => by have := hp x (by simp) _ hh; omega) k]
    rw [sp_nums S _ _ h3 fun y hy q hq => ?_]
    · simp [flat]
    · have := h1 y hy
      injection hq with hq
      omega
theorem sp_flat (S : List Sp) (h : Norm S) : (spFold (nums S)).1 = flat S := by
  have := sp_nums S [] none h (by simp)
  simpa [spFold] using this
theorem spFold_le : ∀ (l : List Int) (s : List Int × Option Int), (l.foldl spStep s).1.length ≤ s.1.length + 2 * l.length
  | [], s => by simp
  | y :: l, s => by
    have := spFold_le l (spStep s y)
    rw [List.foldl_cons]
    refine Nat.le_trans this ?_
    unfold spStep
    split
    · simp; omega
    · simp; omega
theorem spFold_len (l : List Int) : (spFold l).1.length ≤ 2 * l.length := by
  have := spFold_le l ([], none)
  simpa [spFold] using this

theorem flat_inj : ∀ {S T : List Sp}, flat S = flat T → S = T
  | [], [], _ => rfl
  | [], y :: T, h => by simp [flat] at h
  | x :: S, [], h => by simp [flat] at h
  | x :: S, y :: T, h => by
    simp only [flat, List.flatMap_cons, List.cons_append, List.nil_append, List.cons.injEq] at h
    obtain ⟨h1, h2, h3⟩ := h
    rw [flat_inj h3, Prod.ext h1 h2]
theorem flat_len (S : List Sp) : (flat S).length = 2 * S.length := by
  induction S with
  | nil => rfl
  | cons x S ih => simp only [flat, List.flatMap_cons, List.length_append, List.length_cons, List.length_nil] at ih ⊢; rw [ih]; omega
theorem flat_at (S : List Sp) (i : Nat) (h : i < S.length) : (flat S).getD (2 * i) 0 = (S.getD i (0, 0)).1 ∧ (flat S).getD (2 * i + 1) 0 = (S.getD i (0, 0)).2 := by
  induction S generalizing i with
  | nil => simp at h
  | cons x S ih =>
    cases i with
    | zero => simp [flat]
    | succ i =>
      have h' := ih i (by simpa using h)
      simpa [flat, Nat.mul_add] using h'

theorem norm_ext {S T : List Sp} (hS : Norm S) (hT : Norm T) (h : ∀ n, n ∈ nums S ↔ n ∈ nums T) : S = T := by
  have e := rising_ext (norm_rising hS) (norm_rising hT) h
  apply flat_inj
  rw [← sp_flat S hS, ← sp_flat T hT, e]
theorem IsSet.ext {S T : List Sp} {p : Int → Prop} (hS : IsSet S p) (hT : IsSet T p) : S = T := norm_ext hS.1 hT.1 fun n => by rw [hS.2, hT.2]
theorem IsSet.nums {S : List Sp} {p : Int → Prop} {l : List Int} (hS : IsSet S p) (hl : Rising l) (h : ∀ n, n ∈ l ↔ p n) : nums S = l :=
  rising_ext (norm_rising hS.1) hl fun n => by rw [hS.2, h]

/-- small sets -/
def Small (S : List Sp) : Prop := S.length ≤ 1000 ∧ ∀ x ∈ S, -400 ≤ x.1 ∧ x.1 ≤ 400 ∧ -400 ≤ x.2 ∧ x.2 ≤ 400
theorem norm_len : ∀ {S : List Sp}, Norm S → S.length ≤ (nums S).length
  | [], _ => by simp
  | x :: S, h => by
    rw [norm_cons] at h
    have := norm_len h.2.2
    rw [nums_cons, List.length_append, run_len, List.length_cons]
    have := h.2.1
    omega
theorem small_of {S : List Sp} (h : Norm S) (hb : ∀ n ∈ nums S, -400 ≤ n ∧ n < 400) : Small S := by
  have hlen := rising_len _ _ _ (norm_rising h) hb
  have hl := norm_len h
  refine ⟨by omega, fun x hx => ?_⟩
  have hlt := h.2 x hx
  have h1 := hb x.1 (mem_nums.2 ⟨x, hx, by omega, by omega⟩)
  have h2 := hb (x.2 - 1) (mem_nums.2 ⟨x, hx, by omega, by omega⟩)
  omega
theorem small_nums {S : List Sp} (h : Small S) : ∀ n ∈ nums S, -400 ≤ n ∧ n < 400 := by
  intro n hn
  obtain ⟨x, hx, h1, h2⟩ := mem_nums.1 hn
  have := h.2 x hx
  omega
theorem small_len {S : List Sp} (hS : Small S) (h : Norm S) : (nums S).length ≤ 800 := by
  have := rising_len _ _ _ (norm_rising h) (small_nums hS)
  omega
theorem small_cons {x : Sp} {S : List Sp} (h : Small (x :: S)) : Small S := ⟨by have := h.1; simp at this; omega, fun y hy => h.2 y (by simp [hy])⟩

/-! ### gaps, and both -/
/-- what isn't there of x: the rounds over the set's spans, one behind the other -/
def gapStep (x2 : Int) (s : List Sp × Int) (y : Sp) : List Sp × Int := (join s.1 (s.2, min y.1 x2), max s.2 y.2)
def gapFold (x : Sp) (l : List Sp) : List Sp × Int := l.foldl (gapStep x.2) ([], x.1)
def gapsL (x : Sp) (S : List Sp) : List Sp := join (gapFold x S).1 ((gapFold x S).2, x.2)
theorem gapFold_take (x : Sp) (l : List Sp) (k : Nat) (h : k < l.length) : gapFold x (l.take (k + 1)) = gapStep x.2 (gapFold x (l.take k)) (l.getD k (0, 0)) := by
  unfold gapFold
  rw [List.take_succ_eq_append_getElem h, List.foldl_append, List.foldl_cons, List.foldl_nil]
  simp [List.getD, h]

def GapInv (x : Sp) (p : List Sp) (s : List Sp × Int) : Prop :=
  Norm s.1 ∧ (∀ y ∈ s.1, y.1 ≤ s.2) ∧ x.1 ≤ s.2 ∧ (∀ y ∈ p, y.2 ≤ s.2) ∧ (s.2 = x.1 ∨ ∃ y ∈ p, s.2 = y.2) ∧ ∀ n, n ∈ nums s.1 ↔ (x.1 ≤ n ∧ n < x.2 ∧ n < s.2 ∧ ¬ inSp p n)

theorem gap_inv (x : Sp) : ∀ (l p : List Sp) (s : List Sp × Int), Norm (p ++ l) → GapInv x p s → GapInv x (p ++ l) (l.foldl (gapStep x.2) s)
  | [], p, s, _, h => by simpa using h
  | y :: l, p, s, hn, h => by
    have e : p ++ y :: l = (p ++ [y]) ++ l := by simp
    rw [e] at hn ⊢
    refine gap_inv x l (p ++ [y]) (gapStep x.2 s y) hn ?_
    obtain ⟨h1, h2, h3, h4, h5, h6⟩ := h
    have hpw := (List.pairwise_append.1 (List.pairwise_append.1 hn.1).1).2.2
    have hpy : ∀ z ∈ p, z.2 < y.1 := fun z hz => hpw z hz y (by simp)
    have hyy : y.1 < y.2 := hn.2 y (by simp)
    unfold gapStep
    refine ⟨join_norm h1 h2, ?_, ?_, ?_, ?_, ?_⟩
    · intro z hz
      have := join_start (x := (s.2, min y.1 x.2)) h2 (Int.le_refl _) z hz
      show z.1 ≤ max s.2 y.2
      omega
    · show x.1 ≤ max s.2 y.2; omega
    · intro z hz
      rw [List.mem_append] at hz
      show z.2 ≤ max s.2 y.2
      rcases hz with hz | hz
      · have := h4 z hz; omega
      · simp only [List.mem_cons, List.not_mem_nil, or_false] at hz; subst hz; omega
    · show max s.2 y.2 = x.1 ∨ ∃ z ∈ p ++ [y], max s.2 y.2 = z.2
      by_cases hc : s.2 ≤ y.2
      · exact .inr ⟨y, by simp, by omega⟩
      · rcases h5 with h5 | ⟨z, hz, h5⟩
        · exact .inl (by omega)
        · exact .inr ⟨z, by simp [hz], by omega⟩
    · intro n
      show n ∈ nums (join s.1 (s.2, min y.1 x.2)) ↔ (x.1 ≤ n ∧ n < x.2 ∧ n < max s.2 y.2 ∧ ¬ inSp (p ++ [y]) n)
      rw [join_mem h2, h6]
      have hin : inSp (p ++ [y]) n ↔ inSp p n ∨ (y.1 ≤ n ∧ n < y.2) := by
        simp only [inSp, List.mem_append, List.mem_cons, List.not_mem_nil, or_false]
        constructor
        · rintro ⟨z, hz | rfl, hz2⟩
          · exact .inl ⟨z, hz, hz2⟩
          · exact .inr hz2
        · rintro (⟨z, hz, hz2⟩ | h)
          · exact ⟨z, .inl hz, hz2⟩
          · exact ⟨y, .inr rfl, h⟩
      rw [hin]
      have hps : ¬ n < s.2 → ¬ inSp p n := by
        rintro hlt ⟨z, hz, hz1, hz2⟩
        have := h4 z hz
        omega
      have hsy : s.2 < y.1 ∨ s.2 = x.1 := by
        rcases h5 with h5 | ⟨z, hz, h5⟩
        · exact .inr h5
        · exact .inl (by have := hpy z hz; omega)
      show (x.1 ≤ n ∧ n < x.2 ∧ n < s.2 ∧ ¬ inSp p n) ∨ (s.2 ≤ n ∧ n < min y.1 x.2) ↔ _
      constructor
      · rintro (⟨a, b, c, d⟩ | ⟨a, b⟩)
        · refine ⟨a, b, by omega, ?_⟩
          rintro (h | h)
          · exact d h
          · omega
        · refine ⟨by omega, by omega, by omega, ?_⟩
          rintro (h | h)
          · exact hps (by omega) h
          · omega
      · rintro ⟨a, b, c, d⟩
        by_cases hlt : n < s.2
        · exact .inl ⟨a, b, hlt, fun h => d (.inl h)⟩
        · refine .inr ⟨by omega, ?_⟩
          have : ¬ (y.1 ≤ n ∧ n < y.2) := fun h => d (.inr h)
          omega

theorem gaps_set (x : Sp) (S : List Sp) (h : Norm S) : IsSet (gapsL x S) fun n => (x.1 ≤ n ∧ n < x.2) ∧ n ∉ nums S := by
  have hi := gap_inv x S [] ([], x.1) (by simpa using h) ⟨norm_nil, by simp, Int.le_refl _, by simp, .inl rfl, fun n => by
    simp only [nums_nil, List.not_mem_nil, false_iff]
    intro hh
    have : n < x.1 := hh.2.2.1
    omega⟩
  rw [List.nil_append] at hi
  change GapInv x S (gapFold x S) at hi
  obtain ⟨h1, h2, h3, h4, h5, h6⟩ := hi
  refine ⟨join_norm h1 h2, fun n => ?_⟩
  show n ∈ nums (join (gapFold x S).1 ((gapFold x S).2, x.2)) ↔ (x.1 ≤ n ∧ n < x.2) ∧ n ∉ nums S
  rw [join_mem h2, h6, mem_nums]
  show _ ∨ ((gapFold x S).2 ≤ n ∧ n < x.2) ↔ _
  constructor
  · rintro (⟨a, b, c, d⟩ | ⟨a, b⟩)
    · exact ⟨⟨a, b⟩, d⟩
    · refine ⟨⟨by omega, b⟩, ?_⟩
      rintro ⟨z, hz, hz1, hz2⟩
      have := h4 z hz
      omega
  · rintro ⟨⟨a, b⟩, d⟩
    by_cases hlt : n < (gapFold x S).2
    · exact .inl ⟨a, b, hlt, d⟩
    · exact .inr ⟨by omega, b⟩

/-- the rounds over two sets -/
def BothInv (S0 T0 : List Sp) (l S T : List Sp) : Prop :=
  Norm l ∧ Norm S ∧ Norm T ∧ (∀ s ∈ S, ∀ t ∈ T, ∀ y ∈ l, y.1 ≤ max s.1 t.1) ∧ ∀ n, (n ∈ nums S0 ∧ n ∈ nums T0) ↔ n ∈ nums l ∨ (n ∈ nums S ∧ n ∈ nums T)
theorem both_start {S T : List Sp} (hS : Norm S) (hT : Norm T) : BothInv S T [] S T := ⟨norm_nil, hS, hT, by simp, fun n => by simp [nums_nil]⟩
theorem both_step {S0 T0 l S T : List Sp} {s t : Sp} (h : BothInv S0 T0 l (s :: S) (t :: T)) :
    (s.2 < t.2 → BothInv S0 T0 (join l (max s.1 t.1, min s.2 t.2)) S (t :: T)) ∧ (¬ s.2 < t.2 → BothInv S0 T0 (join l (max s.1 t.1, min s.2 t.2)) (s :: S) T) := by
  obtain ⟨h1, h2, h3, h4, h5⟩ := h
  have hb := h4 s (by simp) t (by simp)
  have hj := join_norm (x := (max s.1 t.1, min s.2 t.2)) h1 hb
  have hm := fun n => join_mem (x := (max s.1 t.1, min s.2 t.2)) (n := n) hb
  have hs := norm_cons.1 h2
  have ht := norm_cons.1 h3
  constructor
  · intro hlt
    refine ⟨hj, hs.2.2, h3, ?_, fun n => ?_⟩
    · intro a ha b hb' y hy
      refine join_start (b := max a.1 b.1) (fun z hz => ?_) ?_ y hy
      · exact h4 a (by simp [ha]) b hb' z hz
      · show max s.1 t.1 ≤ max a.1 b.1
        have h6 := hs.1 a ha
        have : t.1 ≤ b.1 := by
          rw [List.mem_cons] at hb'
          rcases hb' with rfl | hb'
          · omega
          · have := ht.1 b hb'; omega
        omega
    · rw [h5, hm, nums_cons s S, List.mem_append, mem_run]
      have key : (s.1 ≤ n ∧ n < s.2) → n ∈ nums (t :: T) → t.1 ≤ n := by
        intro _ hh
        obtain ⟨z, hz, hz1, hz2⟩ := mem_nums.1 hh
        rw [List.mem_cons] at hz
        rcases hz with rfl | hz
        · exact hz1
        · have := ht.1 z hz; omega
      constructor
      · rintro (h | ⟨h | h, h'⟩)
        · exact .inl (.inl h)
        · have := key h h'
          exact .inl (.inr ⟨by show max s.1 t.1 ≤ n; omega, by show n < min s.2 t.2; omega⟩)
        · exact .inr ⟨h, h'⟩
      · rintro ((h | ⟨h, h'⟩) | h)
        · exact .inl h
        · have e1 : max s.1 t.1 ≤ n := h
          have e2 : n < min s.2 t.2 := h'
          exact .inr ⟨.inl ⟨by omega, by omega⟩, mem_nums.2 ⟨t, by simp, by omega, by omega⟩⟩
        · exact .inr ⟨.inr h.1, h.2⟩
  · intro hlt
    refine ⟨hj, h2, ht.2.2, ?_, fun n => ?_⟩
    · intro a ha b hb' y hy
      refine join_start (b := max a.1 b.1) (fun z hz => ?_) ?_ y hy
      · exact h4 a ha b (by simp [hb']) z hz
      · show max s.1 t.1 ≤ max a.1 b.1
        have h6 := ht.1 b hb'
        have : s.1 ≤ a.1 := by
          rw [List.mem_cons] at ha
          rcases ha with rfl | ha
          · omega
          · have := hs.1 a ha; omega
        omega
    · rw [h5, hm, nums_cons t T, List.mem_append, mem_run]
      have key : (t.1 ≤ n ∧ n < t.2) → n ∈ nums (s :: S) → s.1 ≤ n ∧ n < s.2 := by
        intro h' hh
        obtain ⟨z, hz, hz1, hz2⟩ := mem_nums.1 hh
        rw [List.mem_cons] at hz
        rcases hz with rfl | hz
        · exact ⟨hz1, hz2⟩
        · have := hs.1 z hz; omega
      constructor
      · rintro (h | ⟨h', h | h⟩)
        · exact .inl (.inl h)
        · have := key h h'
          exact .inl (.inr ⟨by show max s.1 t.1 ≤ n; omega, by show n < min s.2 t.2; omega⟩)
        · exact .inr ⟨h', h⟩
      · rintro ((h | ⟨h, h'⟩) | h)
        · exact .inl h
        · have e1 : max s.1 t.1 ≤ n := h
          have e2 : n < min s.2 t.2 := h'
          exact .inr ⟨mem_nums.2 ⟨s, by simp, by omega, by omega⟩, .inl ⟨by omega, by omega⟩⟩
        · exact .inr ⟨h.1, .inr h.2⟩
theorem both_end {S0 T0 l S T : List Sp} (h : BothInv S0 T0 l S T) (he : S = [] ∨ T = []) : IsSet l fun n => n ∈ nums S0 ∧ n ∈ nums T0 := by
  obtain ⟨h1, _, _, _, h5⟩ := h
  refine ⟨h1, fun n => ?_⟩
  show n ∈ nums l ↔ (n ∈ nums S0 ∧ n ∈ nums T0)
  rw [h5]
  rcases he with rfl | rfl <;> simp [nums_nil]

/-- of any spans there is the set of their numbers -/
theorem exists_set (l : List Sp) : ∃ S, IsSet S (inSp l) := by
  have hp : (l.mergeSort fun a b => decide (a.1 ≤ b.1)).Perm l := List.mergeSort_perm _ _
  have hs : SortedBy (l.mergeSort fun a b => decide (a.1 ≤ b.1)) := by
    have := List.pairwise_mergeSort (le := fun a b : Sp => decide (a.1 ≤ b.1)) (fun a b c h1 h2 => by simp at *; omega) (fun a b => by simp; omega) l
    unfold SortedBy
    exact this.imp fun h => by simpa using h
  have h := fold_join _ [] hs norm_nil (by simp)
  refine ⟨_, h.1, fun n => ?_⟩
  rw [h.2]
  simp only [nums_nil, List.not_mem_nil, false_or, inSp]
  constructor
  · rintro ⟨x, hx, hh⟩; exact ⟨x, hp.mem_iff.1 hx, hh⟩
  · rintro ⟨x, hx, hh⟩; exact ⟨x, hp.mem_iff.2 hx, hh⟩
end Go.Proofs.Ytdnikjjcgoilfaa.SpanMath
