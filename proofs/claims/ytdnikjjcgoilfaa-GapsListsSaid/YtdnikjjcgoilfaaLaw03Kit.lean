/-
  What each law of sets begins with: a few spans, their set, and their numbers.
-/
import Derived.Test.YtdnikjjcgoilfaaBase4
import Derived.Test.YtdnikjjcgoilfaaLaw03Awake
import Derived.Test.YtdnikjjcgoilfaaLaw03Few
import Derived.Test.YtdnikjjcgoilfaaLaw03Is
import Derived.Maps.AppendAt
namespace Go.Proofs.Ytdnikjjcgoilfaa.Law03
open Go.RowKit SpanMath View SpanCalls

theorem rd_pairs {W : World} {v : Value} {D : List (Int × Int)} (h : Base.Pairs W v D) : ∃ a n cap, v = .slice a n cap ∧ Fit a n cap ∧ RdS W a n D := by
  obtain ⟨a, n, cap, rfl, h1, h2, h3, h4, _, h6⟩ := h
  exact ⟨a, n, cap, rfl, ⟨h2, h3, h4⟩, h1, h6⟩

theorem few_near (D : List Sp) : Near (fewL D) := ⟨by have := fewL_len D; omega, fun x hx => by have := fewL_bd D x hx; omega⟩
theorem few_set (D : List Sp) : ∃ S, IsSet S (inSp (fewL D)) ∧ Small S := by
  obtain ⟨S, hS⟩ := exists_set (fewL D)
  exact ⟨S, hS, small_of hS.1 fun z hz => by have := inSp_few D z ((hS.2 z).1 hz); omega⟩
theorem just_nums {S : List Sp} {A : List Int} {p : Int → Prop} (hS : IsSet S p) (hA : Just A p) : nums S = A := hS.nums hA.1 hA.2
theorem set_again {S D : List Sp} (h : IsSet S (inSp D)) : IsSet S (inSp S) := ⟨h.1, fun _ => mem_nums⟩
theorem near_small {S : List Sp} (h : Small S) : Near S := near_of (by have := h.1; omega) h.2
/-- an append under a guard that says yes -/
theorem wp_appS {w : World} {o : Oper} {a : Act} {K : Act → World → Prop} {Q : Exit → Act → World → Prop} (s x : Operand) (T : TypeId)
    (ho : o.op = .call { callee := .builtin .append, args := #[s, x], argTypes := #[T, T] }) (hT : Try.prog.underlying T = some (.slice 56)) (base : Nat)
    (v : Value) (L : List Sp) (hs : a.eval s = v) (hown : OwnS w base v L) (A : Option Addr) (m c : Nat) (M : List Sp) (hx : a.eval x = .slice A m c) (hr : RdS w A m M) (hf : A = none → c = 0)
    (hlen : L.length + m ≤ 1000000) (hbase : base ≤ w.heap.size)
    (h : ∀ v' w', OwnS w' base v' (L ++ M) → w.grownBy w' v.ownBlock → K (a.put o.dst v') w') : o.wp Try.prog a w K Q := by
  obtain ⟨i0, hi, hz0, hz1, hz2⟩ := info_parts spInfo
  have hlm := hr.1
  rcases Nat.eq_zero_or_pos m with h0 | h0
  · subst h0
    have hM : M = [] := List.eq_nil_of_length_eq_zero hlm.symm
    subst hM
    cases A with
    | none =>
      have hc := hf rfl
      subst hc
      have hrun := run_append_owned_none (P := Try.prog) (w := w) base T o.type 56 i0 2 hT hi v _ _ hown
      unfold Oper.wp
      simp [execOp, ho, resolve, invoke, builtin, hs, hx, hrun, Result.andThen]
      exact h v w (by rw [List.append_nil]; exact hown) (World.grownBy.refl w _)
    | some ad =>
      refine wp_append_own w s x T ho base 56 i0 _ 2 16 hT hi hz0 hz1 hz2 rfl (by decide) v _ _ hs hown ad 0 c [] hx rfl (by simp) (by simp) (by unfold maxLen; omega) (by omega) hbase ?_
      intro v' w' h1 h2 _
      exact h v' w' (by simpa [OwnS, encS] using h1) h2
  · obtain ⟨b, off, e, _⟩ := hr.2 h0
    subst e
    obtain ⟨e1, e2, e3⟩ := rdS_encS hr
    refine wp_append_own w s x T ho base 56 i0 _ 2 16 hT hi hz0 hz1 hz2 rfl (by decide) v _ _ hs hown _ m c (encS M) hx e1 e2 e3 (by unfold maxLen; omega) (by omega) hbase ?_
    intro v' w' h1 h2 _
    refine h v' w' ?_ h2
    unfold OwnS
    rw [List.length_append, ← hlm, encS_append]
    exact h1
theorem wpList_appS_on {w : World} {ops : Array Oper} {rest : List Oper} {o : Oper} {a : Act} {Q : Exit → Act → World → Prop} (hgd : Region.wanted o (yielded ops a.tmps) = true) (s x : Operand) (T : TypeId)
    (ho : o.op = .call { callee := .builtin .append, args := #[s, x], argTypes := #[T, T] }) (hT : Try.prog.underlying T = some (.slice 56)) (base : Nat)
    (v : Value) (L : List Sp) (hs : a.eval s = v) (hown : OwnS w base v L) (A : Option Addr) (m c : Nat) (M : List Sp) (hx : a.eval x = .slice A m c) (hr : RdS w A m M) (hf : A = none → c = 0)
    (hlen : L.length + m ≤ 1000000) (hbase : base ≤ w.heap.size)
    (h : ∀ v' w', OwnS w' base v' (L ++ M) → w.grownBy w' v.ownBlock → wpList Try.prog ops Q rest (a.put o.dst v') w') : wpList Try.prog ops Q (o :: rest) a w :=
  wpList_step fun K hK => by
    rw [if_pos hgd]
    exact wp_appS s x T ho hT base v L hs hown A m c M hx hr hf hlen hbase fun v' w' h1 h2 => hK _ _ (h v' w' h1 h2)
theorem apart_SS {w : World} {base : Nat} {u v : Value} {S : List Sp} (h : OwnS w base v S) (hlt : ∀ k, u.ownBlock = some k → k < base) : v.ownBlock = none ∨ v.ownBlock ≠ u.ownBlock := by
  rcases hv : v.ownBlock with _ | k
  · exact .inl rfl
  · refine .inr fun e => ?_
    have h1 := (h.lt k hv).1
    have h2 := hlt k e.symm
    omega
theorem set_few {S D : List Sp} (h : IsSet S (inSp D)) : IsSet S (inSp (D ++ D)) := ⟨h.1, fun z => by
  rw [h.2, inSp_append]
  constructor
  · exact .inl
  · rintro (h | h) <;> exact h⟩
theorem near_few2 (D : List Sp) : Near (fewL D ++ fewL D) := ⟨by have := fewL_len D; rw [List.length_append]; omega, fun x hx => by
  rw [List.mem_append, or_self] at hx
  have := fewL_bd D x hx
  omega⟩
/-- a set of just these numbers -/
theorem exists_of {L : List Int} {p : Int → Prop} (h : Just L p) : ∃ R, IsSet R p ∧ nums R = L := by
  obtain ⟨R, hR⟩ := exists_set (L.map fun z => (z, z + 1))
  have hp : IsSet R p := ⟨hR.1, fun z => by
    rw [hR.2, ← h.2]
    simp only [inSp, List.mem_map]
    constructor
    · rintro ⟨x, ⟨y, hy, rfl⟩, h1, h2⟩
      have : y = z := by
        have h1' : y ≤ z := h1
        have h2' : z < y + 1 := h2
        omega
      rw [← this]; exact hy
    · intro hz
      exact ⟨(z, z + 1), ⟨z, hz, rfl⟩, by show z ≤ z; omega, by show z < z + 1; omega⟩⟩
  exact ⟨R, hp, just_nums hp h⟩
theorem just_filter {A : List Int} {p : Int → Prop} (h : Just A p) (q : Int → Bool) : Just (A.filter q) fun z => p z ∧ q z = true :=
  ⟨List.Pairwise.sublist List.filter_sublist h.1, fun z => by rw [List.mem_filter, h.2]⟩
theorem filter_take {A : List Int} {q : Int → Bool} {k : Nat} {y : Int} (h : k < A.length) (hy : A.getD k 0 = y) : (A.take (k + 1)).filter q = (A.take k).filter q ++ (if q y = true then [y] else []) := by
  rw [take_succ' A 0 k h, List.filter_append, hy]
  cases hq : q y <;> simp [hq]
theorem filter_len {A : List Int} {q : Int → Bool} {k : Nat} : ((A.take k).filter q).length ≤ A.length := by
  have h1 := List.length_filter_le q (A.take k)
  have h2 : (A.take k).length ≤ A.length := by rw [List.length_take]; omega
  omega
def inL (B : List Int) (z : Int) : Bool := decide (z ∈ B)
def outL (B : List Int) (z : Int) : Bool := !decide (z ∈ B)
theorem small_just {R : List Sp} {L : List Int} {p : Int → Prop} (h : IsSet R p) (hL : nums R = L) (hb : ∀ z ∈ L, -100 ≤ z ∧ z < 100) : Small R := small_of h.1 fun z hz => by have := hb z (by rw [← hL]; exact hz); omega
theorem just_bd {A : List Int} {D : List Sp} (h : Just A (inSp (fewL D))) : ∀ z ∈ A, -100 ≤ z ∧ z < 100 := fun z hz => inSp_few D z ((h.2 z).1 hz)
/-- an append of one number, and where the row then lies -/
theorem wpList_appI_at {w : World} {ops : Array Oper} {rest : List Oper} {o : Oper} {a : Act} {Q : Exit → Act → World → Prop} (hgd : o.guard = none) (s x : Operand)
    (ho : o.op = .call { callee := .builtin .append, args := #[s, x], argTypes := #[24, 24] }) (base : Nat)
    (v : Value) (L : List Int) (hs : a.eval s = v) (hown : OwnI w base v L) (b off c : Nat) (y : Int) (hx : a.eval x = .slice (some ⟨b, off, none⟩) 1 c) (hr : RdI w (some ⟨b, off, none⟩) 1 [y])
    (hlen : L.length + 1 ≤ 1000000) (hbase : base ≤ w.heap.size)
    (h : ∀ v' w', OwnI w' base v' (L ++ [y]) → w.grownBy w' v.ownBlock → (v'.ownBlock = v.ownBlock ∨ v'.ownBlock = some w.heap.size) → wpList Try.prog ops Q rest (a.put o.dst v') w') : wpList Try.prog ops Q (o :: rest) a w := by
  obtain ⟨i0, hi, hz0, hz1, hz2⟩ := info_parts intInfo
  obtain ⟨e1, e2, e3⟩ := rdI_encI hr
  refine wpList_append_own_at w hgd s x 24 ho base 3 i0 _ 1 8 Try.underlying24 hi hz0 hz1 hz2 rfl (by decide) v _ _ hs hown _ 1 c (View.encI [y]) hx e1 e2 e3 (by unfold maxLen; omega) (by omega) hbase ?_
  intro v' w' h1 h2 _ h4
  refine h v' w' ?_ h2 h4
  unfold OwnI
  rw [List.length_append, show View.encI (L ++ [y]) = View.encI L ++ View.encI [y] from by simp [View.encI]]
  exact h1
/-- two rows of numbers that lie apart stay so -/
theorem own_kept {w w' : World} {b1 : Nat} {u v : Value} {L : List Int} (h : OwnI w b1 u L) (hg : w.grownBy w' v.ownBlock) (hne : u.ownBlock = none ∨ u.ownBlock ≠ v.ownBlock) : OwnI w' b1 u L := World.ownsRow.kept h hg hne
theorem rd_ints {W : World} {v : Value} {L : List Int} (h : Base.IntSlice .i64 8 W v L) : ∃ a cap, v = .slice a L.length cap ∧ RdI W a L.length L ∧ (∀ z ∈ L, -9223372036854775808 ≤ z ∧ z ≤ 9223372036854775807) ∧ L.length ≤ 140737488351232 := by
  obtain ⟨a, cap, rfl, hl, hw, hc⟩ := h
  refine ⟨a, cap, rfl, ⟨rfl, fun hn => ?_⟩, fun z hz => bounds_i64 (hw z hz), by omega⟩
  rcases hc with rfl | ⟨b, off, rfl, hb, hc⟩
  · simp at hn
  · exact ⟨b, off, rfl, hb, hc⟩
def Sub (X D : List Sp) : Prop := ∀ x ∈ X, x ∈ fewL D
theorem sub_small {T X D : List Sp} (h : IsSet T (inSp X)) (hX : Sub X D) : Small T := small_of h.1 fun z hz => by
  obtain ⟨x, hx, h1, h2⟩ := (h.2 z).1 hz
  have := fewL_bd D x (hX x hx)
  omega
theorem add_next {T X : List Sp} (h : IsSet T (inSp X)) (y : Sp) : ∃ T', IsSet T' (fun z => z ∈ nums T ∨ (y.1 ≤ z ∧ z < y.2)) ∧ IsSet T' (inSp (X ++ [y])) := by
  obtain ⟨T', hT'⟩ := exists_set (X ++ [y])
  refine ⟨T', ⟨hT'.1, fun z => ?_⟩, hT'⟩
  show z ∈ nums T' ↔ (z ∈ nums T ∨ (y.1 ≤ z ∧ z < y.2))
  rw [hT'.2, inSp_append, inSp_one, h.2]
theorem drop_next {T : List Sp} {p : Int → Prop} (h : IsSet T p) (y : Sp) : ∃ T', IsSet T' (fun z => z ∈ nums T ∧ ¬ (y.1 ≤ z ∧ z < y.2)) := by
  have hj : Just ((nums T).filter fun z => !decide (y.1 ≤ z ∧ z < y.2)) fun z => z ∈ nums T ∧ ¬ (y.1 ≤ z ∧ z < y.2) := by
    refine just_imp (just_filter (p := fun z => z ∈ nums T) ⟨norm_rising h.1, fun _ => Iff.rfl⟩ _) fun z => ?_
    show (z ∈ nums T ∧ (!decide (y.1 ≤ z ∧ z < y.2)) = true) ↔ _
    rw [Bool.not_eq_true', decide_eq_false_iff_not]
  obtain ⟨R, hR, _⟩ := exists_of hj
  exact ⟨R, hR⟩
theorem sub_add {X D : List Sp} {y : Sp} (h : Sub X D) (hy : y ∈ fewL D) : Sub (X ++ [y]) D := fun x hx => by
  rw [List.mem_append] at hx
  rcases hx with hx | hx
  · exact h x hx
  · simp only [List.mem_cons, List.not_mem_nil, or_false] at hx
    rw [hx]; exact hy
theorem getD_memS {D : List Sp} {k : Nat} (hk : k < D.length) : D.getD k (0, 0) ∈ D := by simp [List.getD, hk]
/-- every one is there, from the last one to the first -/
def Has (X D : List Sp) (k : Nat) : Prop := ∀ i, i < k → D.getD (D.length - 1 - i) (0, 0) ∈ X
theorem has_next {X D : List Sp} {k : Nat} {y : Sp} (h : Has X D k) (hy : D.getD (D.length - 1 - k) (0, 0) = y) : Has (X ++ [y]) D (k + 1) := fun i hi => by
  rw [List.mem_append]
  by_cases e : i = k
  · subst e; right; rw [hy]; simp
  · exact .inl (h i (by omega))
theorem has_all {X D : List Sp} (h : Has X (fewL D) (fewL D).length) (hX : Sub X D) (z : Int) : inSp X z ↔ inSp (fewL D) z := by
  constructor
  · rintro ⟨x, hx, hh⟩; exact ⟨x, hX x hx, hh⟩
  · rintro ⟨x, hx, hh⟩
    obtain ⟨i, hi, he⟩ := List.getElem_of_mem hx
    refine ⟨x, ?_, hh⟩
    have h1 := h ((fewL D).length - 1 - i) (by omega)
    rw [show (fewL D).length - 1 - ((fewL D).length - 1 - i) = i from by omega] at h1
    simpa [List.getD, hi, he] using h1
theorem rem_idx (q : Int) (n : Nat) (hn : 0 < n) : ∃ (r : Int) (j : Nat), q.tmod (n : Int) = r ∧ -(n : Int) < r ∧ r < (n : Int) ∧ (r + (n : Int)).tmod (n : Int) = (j : Int) ∧ (r + (n : Int)) % (n : Int) = (j : Int) ∧ j < n := by
  have h1 : (q.tmod (n : Int)) < n := Int.tmod_lt_of_pos q (by omega)
  have h2 : -(n : Int) < q.tmod (n : Int) := by
    have := Int.tmod_lt_of_pos (-q) (show (0 : Int) < n by omega)
    rw [Int.neg_tmod] at this
    omega
  have h3 := Int.emod_nonneg (q.tmod (n : Int) + n) (show (n : Int) ≠ 0 by omega)
  have h4 := Int.emod_lt_of_pos (q.tmod (n : Int) + n) (show (0 : Int) < n by omega)
  refine ⟨_, ((q.tmod (n : Int) + n) % n).toNat, rfl, h2, h1, ?_, by omega, by omega⟩
  rw [Int.tmod_eq_emod_of_nonneg (by omega)]
  omega
theorem inSp_take {D : List Sp} {k : Nat} {y : Sp} (h : k < D.length) (hy : D.getD k (0, 0) = y) (z : Int) : inSp (D.take (k + 1)) z ↔ inSp (D.take k) z ∨ (y.1 ≤ z ∧ z < y.2) := by
  rw [take_succ' D (0, 0) k h, inSp_append, inSp_one, hy]
theorem rdS_lit2 (w : World) (a b c d : Int) : RdS (w.alloc (.cells #[.int .i64 a, .int .i64 b, .int .i64 c, .int .i64 d] 56)) (some ⟨w.heap.size, 0, none⟩) 2 [(a, b), (c, d)] :=
  ⟨rfl, fun _ => ⟨_, 0, rfl, by simp, fun i hi => by
    rcases (show i = 0 ∨ i = 1 by omega) with rfl | rfl <;> simp⟩⟩
theorem filter_split (q : Int → Bool) : ∀ l : List Int, (l.filter q).length + (l.filter fun z => !q z).length = l.length
  | [] => rfl
  | x :: l => by
    have := filter_split q l
    cases h : q x <;> simp [h] <;> omega
/-- the cells of two boxes -/
theorem two_cells {W W' : World} {A B : Nat} {a1 a2 b1 b2 : Int} (hA : Box W A a1 a2) (hB : Box W B b1 b2) (h : Below W.heap.size W W') :
    W'.cell? ⟨A, 0, none⟩ = some (.int .i64 a1) ∧ W'.cell? ⟨A, 1, none⟩ = some (.int .i64 a2) ∧ W'.cell? ⟨B, 0, none⟩ = some (.int .i64 b1) ∧ W'.cell? ⟨B, 1, none⟩ = some (.int .i64 b2) := by
  have h1 := (hA.below h).cells
  have h2 := (hB.below h).cells
  exact ⟨h1.1, h1.2, h2.1, h2.2⟩
theorem len_split {S U G : List Sp} {p : Int → Prop} (hS : Norm S) (hU : IsSet U (fun z => z ∈ nums S ∨ p z)) (hG : IsSet G (fun z => p z ∧ z ∉ nums S)) : ((nums G).length : Int) = (nums U).length - (nums S).length := by
  have e1 : (nums U).filter (inL (nums S)) = nums S := by
    refine rising_ext (List.Pairwise.sublist List.filter_sublist (norm_rising hU.1)) (norm_rising hS) fun z => ?_
    rw [List.mem_filter, hU.2]
    show ((z ∈ nums S ∨ p z) ∧ inL (nums S) z = true) ↔ z ∈ nums S
    simp only [inL, decide_eq_true_iff]
    exact ⟨fun h => h.2, fun h => ⟨.inl h, h⟩⟩
  have e2 : (nums U).filter (fun z => !inL (nums S) z) = nums G := by
    refine rising_ext (List.Pairwise.sublist List.filter_sublist (norm_rising hU.1)) (norm_rising hG.1) fun z => ?_
    rw [List.mem_filter, hU.2, hG.2]
    show ((z ∈ nums S ∨ p z) ∧ (!inL (nums S) z) = true) ↔ (p z ∧ z ∉ nums S)
    simp only [inL, Bool.not_eq_true', decide_eq_false_iff_not]
    exact ⟨fun h => ⟨h.1.resolve_left h.2, h.2⟩, fun h => ⟨.inr h.1, h.2⟩⟩
  have e3 := filter_split (inL (nums S)) (nums U)
  rw [e1, e2] at e3
  omega
theorem exists_in {p : Int → Prop} (hp : ∀ z, p z → -100 ≤ z ∧ z < 100) : ∃ R, IsSet R p ∧ Small R := by
  have hj : Just ((run (-100, 100)).filter fun z => @decide (p z) (Classical.propDecidable _)) p := ⟨List.Pairwise.sublist List.filter_sublist (run_rising _), fun z => by
    rw [List.mem_filter, mem_run]
    constructor
    · rintro ⟨_, h⟩; exact @of_decide_eq_true _ (Classical.propDecidable _) h
    · intro h
      have := hp z h
      exact ⟨⟨by show -100 ≤ z; omega, by show z < 100; omega⟩, @decide_eq_true _ (Classical.propDecidable _) h⟩⟩
  obtain ⟨R, hR, _⟩ := exists_of hj
  exact ⟨R, hR, small_of hR.1 fun z hz => by have := hp z ((hR.2 z).1 hz); omega⟩
theorem twoBox (w : World) (a1 a2 b1 b2 : Int) : Box ((w.alloc (.cells #[.int .i64 a1, .int .i64 a2] 56)).alloc (.cells #[.int .i64 b1, .int .i64 b2] 56)).drew w.heap.size a1 a2 ∧
    Box ((w.alloc (.cells #[.int .i64 a1, .int .i64 a2] 56)).alloc (.cells #[.int .i64 b1, .int .i64 b2] 56)).drew (w.heap.size + 1) b1 b2 ∧
    Below w.heap.size w ((w.alloc (.cells #[.int .i64 a1, .int .i64 a2] 56)).alloc (.cells #[.int .i64 b1, .int .i64 b2] 56)).drew := by
  have h1 := (Box.new w a1 a2).below ((Below.refl _ _).alloc (Nat.le_refl _) (.cells #[.int .i64 b1, .int .i64 b2] 56))
  have h2 := Box.new (w.alloc (.cells #[.int .i64 a1, .int .i64 a2] 56)) b1 b2
  rw [World.size_alloc] at h2
  exact ⟨h1, h2, (((Below.refl _ w).alloc (Nat.le_refl _) _).alloc (by simp) _).drew⟩
end Go.Proofs.Ytdnikjjcgoilfaa.Law03
