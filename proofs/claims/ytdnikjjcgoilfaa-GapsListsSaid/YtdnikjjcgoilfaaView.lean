/-
  Slices of integers, and of spans: what is read in them, and what a call owns.
-/
import Derived.Test.YtdnikjjcgoilfaaSpanMath
import Derived.Test.YtdnikjjcgoilfaaBase
import Derived.WalkLawsBesides
import Derived.Lib.Hide
import Derived.Laws.OwnMore
import Derived.Deep.Draws
import Derived.OwnWalk
import Derived.Laws.AppendOwnNone
namespace Go.Proofs.Ytdnikjjcgoilfaa.View
open Go.RowKit SpanMath

theorem below_drewN {B : Nat} {a w : World} (h : Below B a w) (n : Nat) : Below B a (w.drewN n) := h.trans ⟨rfl, rfl, rfl, Nat.le_refl _, fun _ _ => rfl⟩
theorem cell_below {w w' : World} (hb : Below w.heap.size w w') {b o : Nat} (h : b < w.heap.size) : w'.cell? ⟨b, o, none⟩ = w.cell? ⟨b, o, none⟩ := hb.cell (p := ⟨b, o, none⟩) h

theorem intInfo : (Try.prog.info? 3).map (fun i => (i.zero, i.size, i.bytes)) = some (some (.int .i64 0), 1, 8) := by kernel_rfl
theorem spInfo : (Try.prog.info? 56).map (fun i => (i.zero, i.size, i.bytes)) = some (some (.agg #[.int .i64 0, .int .i64 0]), 2, 16) := by kernel_rfl

/-! ### reading -/
def RdI (w : World) (a : Option Addr) (n : Nat) (L : List Int) : Prop :=
  n = L.length ∧ (0 < n → ∃ b off, a = some ⟨b, off, none⟩ ∧ b < w.heap.size ∧ ∀ i, i < n → w.cell? ⟨b, off + i, none⟩ = some (.int .i64 (L.getD i 0)))
def RdS (w : World) (a : Option Addr) (n : Nat) (S : List Sp) : Prop :=
  n = S.length ∧ (0 < n → ∃ b off, a = some ⟨b, off, none⟩ ∧ b < w.heap.size ∧ ∀ i, i < n →
    w.cell? ⟨b, off + i * 2, none⟩ = some (.int .i64 (S.getD i (0, 0)).1) ∧ w.cell? ⟨b, off + i * 2 + 1, none⟩ = some (.int .i64 (S.getD i (0, 0)).2))

section
variable {w w' : World} {a : Option Addr} {n : Nat} {L : List Int} {S : List Sp}
theorem RdI.below (h : RdI w a n L) (hb : Below w.heap.size w w') : RdI w' a n L :=
  ⟨h.1, fun hn => by
    obtain ⟨b, off, e, hlt, hc⟩ := h.2 hn
    exact ⟨b, off, e, Nat.lt_of_lt_of_le hlt hb.size, fun i hi => (cell_below hb hlt).trans (hc i hi)⟩⟩
theorem RdS.below (h : RdS w a n S) (hb : Below w.heap.size w w') : RdS w' a n S :=
  ⟨h.1, fun hn => by
    obtain ⟨b, off, e, hlt, hc⟩ := h.2 hn
    exact ⟨b, off, e, Nat.lt_of_lt_of_le hlt hb.size, fun i hi => ⟨(cell_below hb hlt).trans (hc i hi).1, (cell_below hb hlt).trans (hc i hi).2⟩⟩⟩
theorem RdI.alloc (h : RdI w a n L) (o : Obj) : RdI (w.alloc o) a n L := h.below ((Below.refl _ w).alloc (Nat.le_refl _) o)
theorem RdS.alloc (h : RdS w a n S) (o : Obj) : RdS (w.alloc o) a n S := h.below ((Below.refl _ w).alloc (Nat.le_refl _) o)
theorem RdI.drewN (h : RdI w a n L) (k : Nat) : RdI (w.drewN k) a n L := h.below (below_drewN (Below.refl _ w) k)
theorem RdS.drewN (h : RdS w a n S) (k : Nat) : RdS (w.drewN k) a n S := h.below (below_drewN (Below.refl _ w) k)
theorem RdI.at_ {k : Nat} (h : RdI w a n L) (hk : k < n) : ∃ b off, a = some ⟨b, off, none⟩ ∧ b < w.heap.size ∧ w.cell? ⟨b, off + k, none⟩ = some (.int .i64 (L.getD k 0)) := by
  obtain ⟨b, off, e, hlt, hc⟩ := h.2 (by omega)
  exact ⟨b, off, e, hlt, hc k hk⟩
theorem RdS.at_ {k : Nat} (h : RdS w a n S) (hk : k < n) : ∃ b off, a = some ⟨b, off, none⟩ ∧ b < w.heap.size ∧
    w.cell? ⟨b, off + k * 2, none⟩ = some (.int .i64 (S.getD k (0, 0)).1) ∧ w.cell? ⟨b, off + k * 2 + 1, none⟩ = some (.int .i64 (S.getD k (0, 0)).2) := by
  obtain ⟨b, off, e, hlt, hc⟩ := h.2 (by omega)
  exact ⟨b, off, e, hlt, (hc k hk).1, (hc k hk).2⟩
end

/-! ### owning -/
def encI (L : List Int) : List Value := L.map (Value.int .i64)
def encS (S : List Sp) : List Value := S.flatMap fun x => [.int .i64 x.1, .int .i64 x.2]
theorem encS_len (S : List Sp) : (encS S).length = S.length * 2 := by
  induction S with
  | nil => rfl
  | cons x S ih => simp only [encS, List.flatMap_cons, List.length_append, List.length_cons, List.length_nil] at ih ⊢; rw [ih]; omega
theorem encS_append (S T : List Sp) : encS (S ++ T) = encS S ++ encS T := by simp [encS]
theorem encS_at : ∀ (S : List Sp) (i : Nat), i < S.length → (encS S)[i * 2]? = some (.int .i64 (S.getD i (0, 0)).1) ∧ (encS S)[i * 2 + 1]? = some (.int .i64 (S.getD i (0, 0)).2)
  | [], i, h => by simp at h
  | x :: S, 0, _ => by simp [encS]
  | x :: S, i + 1, h => by
    have h' := encS_at S i (by simpa using h)
    rw [show (i + 1) * 2 = i * 2 + 2 from by omega, show i * 2 + 2 + 1 = i * 2 + 1 + 2 from by omega]
    simpa [encS] using h'
theorem encS_one (S : List Sp) : ∀ u ∈ encS S, u.oneCell' = true := by
  intro u hu
  simp only [encS, List.mem_flatMap] at hu
  obtain ⟨x, _, hu⟩ := hu
  simp only [List.mem_cons, List.not_mem_nil, or_false] at hu
  rcases hu with rfl | rfl <;> rfl

def OwnI (w : World) (base : Nat) (v : Value) (L : List Int) : Prop := w.ownsRow base 3 1 v L.length (encI L)
def OwnS (w : World) (base : Nat) (v : Value) (S : List Sp) : Prop := w.ownsRow base 56 2 v S.length (encS S)

section
variable {w w' : World} {base size n : Nat} {v : Value} {e : TypeId} {xs : List Value} {L : List Int} {S : List Sp}
theorem own_below (h : w.ownsRow base e size v n xs) (hb : Below w.heap.size w w') : w'.ownsRow base e size v n xs := by
  refine ⟨h.1, ?_⟩
  rcases h.2 with hn | ⟨g, cap, cur, rfl, hg, hh, rest⟩
  · exact .inl hn
  · have hlt : g < w.heap.size := (Array.getElem?_eq_some_iff.1 hh).1
    exact .inr ⟨g, cap, cur, rfl, hg, (hb.block g hlt).trans hh, rest⟩
theorem own_base {base' : Nat} (h : w.ownsRow base e size v n xs) (hb : base' ≤ base) : w.ownsRow base' e size v n xs := by
  refine ⟨h.1, ?_⟩
  rcases h.2 with hn | ⟨g, cap, cur, rfl, hg, hh, rest⟩
  · exact .inl hn
  · exact .inr ⟨g, cap, cur, rfl, Nat.le_trans hb hg, hh, rest⟩
/-- how long a slice may be, and what it can hold -/
def Fit (a : Option Addr) (n cap : Nat) : Prop := n ≤ cap ∧ cap ≤ maxLen ∧ (a = none → cap = 0)
theorem own_form (h : w.ownsRow base e size v n xs) : ∃ a cap, v = .slice a n cap ∧ Fit a n cap ∧ (0 < n → ∃ g, a = some ⟨g, 0, none⟩ ∧ base ≤ g ∧ g < w.heap.size ∧ ∀ j u, xs[j]? = some u → w.cell? ⟨g, j, none⟩ = some u) := by
  rcases h.2 with ⟨rfl, rfl⟩ | ⟨g, cap, cur, rfl, hg, hh, hnc, hcm, _⟩
  · exact ⟨none, 0, rfl, ⟨Nat.le_refl _, by simp [maxLen], fun _ => rfl⟩, fun h => absurd h (by omega)⟩
  · refine ⟨_, cap, rfl, ⟨hnc, hcm, fun h => by cases h⟩, fun _ => ⟨g, rfl, hg, (Array.getElem?_eq_some_iff.1 hh).1, fun j u hu => ?_⟩⟩
    have := h.cells (g := g) rfl j u hu
    rw [Addr.add_lit, Nat.zero_add] at this
    exact this
theorem OwnI.below (h : OwnI w base v L) (hb : Below w.heap.size w w') : OwnI w' base v L := own_below h hb
theorem OwnS.below (h : OwnS w base v S) (hb : Below w.heap.size w w') : OwnS w' base v S := own_below h hb
theorem OwnI.lower {base' : Nat} (h : OwnI w base v L) (hb : base' ≤ base) : OwnI w base' v L := own_base h hb
theorem OwnS.lower {base' : Nat} (h : OwnS w base v S) (hb : base' ≤ base) : OwnS w base' v S := own_base h hb
theorem OwnI.nil : OwnI w base (.slice none 0 0) [] := World.ownsRow_nil _ _ _ _
theorem OwnS.nil : OwnS w base (.slice none 0 0) [] := World.ownsRow_nil _ _ _ _
theorem OwnI.form (h : OwnI w base v L) : ∃ a n cap, v = .slice a n cap ∧ Fit a n cap ∧ RdI w a n L := by
  obtain ⟨a, cap, rfl, h1, h3⟩ := own_form h
  refine ⟨a, _, cap, rfl, h1, rfl, fun hn => ?_⟩
  obtain ⟨g, rfl, _, hlt, hc⟩ := h3 hn
  refine ⟨g, 0, rfl, hlt, fun i hi => ?_⟩
  rw [Nat.zero_add]
  refine hc i _ ?_
  simp [encI, List.getD, hi]
theorem OwnS.form (h : OwnS w base v S) : ∃ a n cap, v = .slice a n cap ∧ Fit a n cap ∧ RdS w a n S := by
  obtain ⟨a, cap, rfl, h1, h3⟩ := own_form h
  refine ⟨a, _, cap, rfl, h1, rfl, fun hn => ?_⟩
  obtain ⟨g, rfl, _, hlt, hc⟩ := h3 hn
  refine ⟨g, 0, rfl, hlt, fun i hi => ?_⟩
  have := encS_at S i hi
  rw [Nat.zero_add]
  exact ⟨hc _ _ this.1, hc _ _ this.2⟩
/-- an empty slice of the call's own (a literal of none, or one that was cut to none) -/
theorem ownI_empty (w : World) (cur : Array Value) (hb : base ≤ w.heap.size) (hs : cur.size = 0) : OwnI (w.alloc (.cells cur 3)) base (.slice (some ⟨w.heap.size, 0, none⟩) 0 0) [] :=
  World.ownsRow_made w cur 0 hb (by simp [maxLen]) (by simpa using hs)
theorem own_grown {w0 : World} (hb : Below base w0 w) (hs : base ≤ w.heap.size) (h : w.grownBy w' v.ownBlock) (ho : w.ownsRow base e size v n xs) : Below base w0 w' :=
  hb.grown h hs (fun j hj => (ho.lt j hj).1)
end
theorem rdI_encI {w : World} {b off n : Nat} {M : List Int} (h : RdI w (some ⟨b, off, none⟩) n M) : (encI M).length = n * 1 ∧ (∀ j u, (encI M)[j]? = some u → w.cell? ((⟨b, off, none⟩ : Addr).add j) = some u) ∧ ∀ u ∈ encI M, u.oneCell' = true := by
  refine ⟨by rw [encI, List.length_map, h.1, Nat.mul_one], fun j u hu => ?_, fun u hu => ?_⟩
  · have hj : j < M.length := by
      have := (List.getElem?_eq_some_iff.1 hu).1
      simpa [encI] using this
    have h1 := h.1
    obtain ⟨b', off', e, _, hc⟩ := h.at_ (k := j) (by omega)
    cases e
    rw [Addr.add_lit, hc]
    simpa [encI, List.getD, hj] using hu
  · simp only [encI, List.mem_map] at hu
    obtain ⟨z, _, rfl⟩ := hu
    rfl
theorem rdS_encS {w : World} {b off n : Nat} {M : List Sp} (h : RdS w (some ⟨b, off, none⟩) n M) : (encS M).length = n * 2 ∧ (∀ j u, (encS M)[j]? = some u → w.cell? ((⟨b, off, none⟩ : Addr).add j) = some u) ∧ ∀ u ∈ encS M, u.oneCell' = true := by
  refine ⟨by rw [encS_len, h.1], fun j u hu => ?_, encS_one M⟩
  have hj : j < M.length * 2 := by
    have := (List.getElem?_eq_some_iff.1 hu).1
    rwa [encS_len] at this
  have h1 := h.1
  obtain ⟨b', off', e, _, hc1, hc2⟩ := h.at_ (k := j / 2) (by omega)
  cases e
  have hat := encS_at M (j / 2) (by omega)
  rw [Addr.add_lit]
  rcases Nat.mod_two_eq_zero_or_one j with hm | hm
  · have e : j = j / 2 * 2 := by omega
    rw [e] at hu ⊢
    rw [hat.1] at hu
    rw [hc1]
    exact hu
  · have e : j = j / 2 * 2 + 1 := by omega
    rw [e] at hu ⊢
    rw [hat.2] at hu
    rw [← Nat.add_assoc, hc2]
    exact hu

theorem wpList_appI {w : World} {ops : Array Oper} {rest : List Oper} {o : Oper} {a : Act} {Q : Exit → Act → World → Prop} (hgd : o.guard = none) (s x : Operand) (T : TypeId)
    (ho : o.op = .call { callee := .builtin .append, args := #[s, x], argTypes := #[T, T] }) (hT : Try.prog.underlying T = some (.slice 3)) (base : Nat)
    (v : Value) (L : List Int) (hs : a.eval s = v) (hown : OwnI w base v L) (A : Option Addr) (m c : Nat) (M : List Int) (hx : a.eval x = .slice A m c) (hr : RdI w A m M) (hf : A = none → c = 0)
    (hlen : L.length + m ≤ 1000000) (hbase : base ≤ w.heap.size)
    (h : ∀ v' w', OwnI w' base v' (L ++ M) → w.grownBy w' v.ownBlock → wpList Try.prog ops Q rest (a.put o.dst v') w') : wpList Try.prog ops Q (o :: rest) a w := by
  obtain ⟨i0, hi, hz0, hz1, hz2⟩ := info_parts intInfo
  have hlm := hr.1
  cases A with
  | none =>
    have hc := hf rfl
    subst hc
    have hm : m = 0 := by
      rcases Nat.eq_zero_or_pos m with h0 | h0
      · exact h0
      · obtain ⟨_, _, e, _⟩ := hr.2 h0; cases e
    subst hm
    have hM : M = [] := List.eq_nil_of_length_eq_zero hlm.symm
    subst hM
    refine wpList_append_own_none hgd s x T ho base 3 i0 1 hT hi v _ _ hs hown hx ?_
    exact h v w (by rw [List.append_nil]; exact hown) (World.grownBy.refl w _)
  | some ad =>
    rcases Nat.eq_zero_or_pos m with h0 | h0
    · subst h0
      have hM : M = [] := List.eq_nil_of_length_eq_zero hlm.symm
      subst hM
      refine wpList_append_own w hgd s x T ho base 3 i0 _ 1 8 hT hi hz0 hz1 hz2 rfl (by decide) v _ _ hs hown ad 0 c [] hx rfl (by simp) (by simp) (by unfold maxLen; omega) (by omega) hbase ?_
      intro v' w' h1 h2 _
      exact h v' w' (by simpa [OwnI, encI] using h1) h2
    · obtain ⟨b, off, e, _⟩ := hr.2 h0
      cases e
      obtain ⟨e1, e2, e3⟩ := rdI_encI hr
      refine wpList_append_own w hgd s x T ho base 3 i0 _ 1 8 hT hi hz0 hz1 hz2 rfl (by decide) v _ _ hs hown _ m c (encI M) hx e1 e2 e3 (by unfold maxLen; omega) (by omega) hbase ?_
      intro v' w' h1 h2 _
      refine h v' w' ?_ h2
      unfold OwnI
      rw [List.length_append, ← hlm, show encI (L ++ M) = encI L ++ encI M from by simp [encI]]
      exact h1

theorem wpList_appS {w : World} {ops : Array Oper} {rest : List Oper} {o : Oper} {a : Act} {Q : Exit → Act → World → Prop} (hgd : o.guard = none) (s x : Operand) (T : TypeId)
    (ho : o.op = .call { callee := .builtin .append, args := #[s, x], argTypes := #[T, T] }) (hT : Try.prog.underlying T = some (.slice 56)) (base : Nat)
    (v : Value) (L : List Sp) (hs : a.eval s = v) (hown : OwnS w base v L) (A : Option Addr) (m c : Nat) (M : List Sp) (hx : a.eval x = .slice A m c) (hr : RdS w A m M) (hf : A = none → c = 0)
    (hlen : L.length + m ≤ 1000000) (hbase : base ≤ w.heap.size)
    (h : ∀ v' w', OwnS w' base v' (L ++ M) → w.grownBy w' v.ownBlock → wpList Try.prog ops Q rest (a.put o.dst v') w') : wpList Try.prog ops Q (o :: rest) a w := by
  obtain ⟨i0, hi, hz0, hz1, hz2⟩ := info_parts spInfo
  have hlm := hr.1
  cases A with
  | none =>
    have hc := hf rfl
    subst hc
    have hm : m = 0 := by
      rcases Nat.eq_zero_or_pos m with h0 | h0
      · exact h0
      · obtain ⟨_, _, e, _⟩ := hr.2 h0; cases e
    subst hm
    have hM : M = [] := List.eq_nil_of_length_eq_zero hlm.symm
    subst hM
    refine wpList_append_own_none hgd s x T ho base 56 i0 2 hT hi v _ _ hs hown hx ?_
    exact h v w (by rw [List.append_nil]; exact hown) (World.grownBy.refl w _)
  | some ad =>
    rcases Nat.eq_zero_or_pos m with h0 | h0
    · subst h0
      have hM : M = [] := List.eq_nil_of_length_eq_zero hlm.symm
      subst hM
      refine wpList_append_own w hgd s x T ho base 56 i0 _ 2 16 hT hi hz0 hz1 hz2 rfl (by decide) v _ _ hs hown ad 0 c [] hx rfl (by simp) (by simp) (by unfold maxLen; omega) (by omega) hbase ?_
      intro v' w' h1 h2 _
      exact h v' w' (by simpa [OwnS, encS] using h1) h2
    · obtain ⟨b, off, e, _⟩ := hr.2 h0
      cases e
      obtain ⟨e1, e2, e3⟩ := rdS_encS hr
      refine wpList_append_own w hgd s x T ho base 56 i0 _ 2 16 hT hi hz0 hz1 hz2 rfl (by decide) v _ _ hs hown _ m c (encS M) hx e1 e2 e3 (by unfold maxLen; omega) (by omega) hbase ?_
      intro v' w' h1 h2 _
      refine h v' w' ?_ h2
      unfold OwnS
      rw [List.length_append, ← hlm, encS_append]
      exact h1

/-- what a literal of a few numbers, or of one span, reads as -/
theorem rdI_lit1 (w : World) (x : Int) : RdI (w.alloc (.cells #[.int .i64 x] 3)) (some ⟨w.heap.size, 0, none⟩) 1 [x] :=
  ⟨rfl, fun _ => ⟨_, 0, rfl, by simp, fun i hi => by obtain rfl : i = 0 := by omega
                                                     simp⟩⟩
theorem rdI_lit2 (w : World) (x y : Int) : RdI (w.alloc (.cells #[.int .i64 x, .int .i64 y] 3)) (some ⟨w.heap.size, 0, none⟩) 2 [x, y] :=
  ⟨rfl, fun _ => ⟨_, 0, rfl, by simp, fun i hi => by
    rcases (show i = 0 ∨ i = 1 by omega) with rfl | rfl <;> simp⟩⟩
theorem rdS_lit1 (w : World) (x y : Int) : RdS (w.alloc (.cells #[.int .i64 x, .int .i64 y] 56)) (some ⟨w.heap.size, 0, none⟩) 1 [(x, y)] :=
  ⟨rfl, fun _ => ⟨_, 0, rfl, by simp, fun i hi => by obtain rfl : i = 0 := by omega
                                                     simp⟩⟩
/-- numbers and spans never share memory -/
theorem apart_IS {w : World} {b1 b2 : Nat} {u v : Value} {L : List Int} {S : List Sp} (h : OwnI w b1 u L) (h' : OwnS w b2 v S) : u.ownBlock = none ∨ u.ownBlock ≠ v.ownBlock := by
  rcases h.2 with ⟨rfl, _⟩ | ⟨g, cap, cur, rfl, _, hh, _⟩
  · exact .inl rfl
  · rcases h'.2 with ⟨rfl, _⟩ | ⟨g', cap', cur', rfl, _, hh', _⟩
    · exact .inr (by simp [Value.ownBlock])
    · refine .inr fun e => ?_
      have : g = g' := by simpa [Value.ownBlock] using e
      subst this
      rw [hh] at hh'
      injection hh' with h1
      injection h1 with _ ht
      exact absurd ht (by decide)
theorem getD_take {α : Type} (l : List α) (d : α) (i k : Nat) (h : i < k) : (l.take k).getD i d = l.getD i d := by simp [List.getD, h]
theorem take_succ' {α : Type} (l : List α) (d : α) (k : Nat) (h : k < l.length) : l.take (k + 1) = l.take k ++ [l.getD k d] := by
  rw [List.take_succ_eq_append_getElem h]
  simp [List.getD, h]
end Go.Proofs.Ytdnikjjcgoilfaa.View
