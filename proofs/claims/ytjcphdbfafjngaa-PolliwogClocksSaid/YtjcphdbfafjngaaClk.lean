/-
  Five banks side by side in one array, and one bank for all.
-/
import Derived.Test.YtjcphdbfafjngaaLaw08
import Derived.Maps.OwnSet
namespace Go.Proofs.Ytjcphdbfafjngaa.Bank
open Go.RowKit View

def rowsE (P : Nat → Nat) : List Value := encN [P 0, 0, 0, 0, 0] ++ (encN [0, P 1, 0, 0, 0] ++ (encN [0, 0, P 2, 0, 0] ++ (encN [0, 0, 0, P 3, 0] ++ encN [0, 0, 0, 0, P 4])))
def preE (P : Nat → Nat) : Nat → List Value
  | 0 => []
  | 1 => encN [P 0, 0, 0, 0, 0]
  | 2 => encN [P 0, 0, 0, 0, 0] ++ encN [0, P 1, 0, 0, 0]
  | 3 => encN [P 0, 0, 0, 0, 0] ++ (encN [0, P 1, 0, 0, 0] ++ encN [0, 0, P 2, 0, 0])
  | _ => encN [P 0, 0, 0, 0, 0] ++ (encN [0, P 1, 0, 0, 0] ++ (encN [0, 0, P 2, 0, 0] ++ encN [0, 0, 0, P 3, 0]))
def postE (P : Nat → Nat) : Nat → List Value
  | 0 => encN [0, P 1, 0, 0, 0] ++ (encN [0, 0, P 2, 0, 0] ++ (encN [0, 0, 0, P 3, 0] ++ encN [0, 0, 0, 0, P 4]))
  | 1 => encN [0, 0, P 2, 0, 0] ++ (encN [0, 0, 0, P 3, 0] ++ encN [0, 0, 0, 0, P 4])
  | 2 => encN [0, 0, 0, P 3, 0] ++ encN [0, 0, 0, 0, P 4]
  | 3 => encN [0, 0, 0, 0, P 4]
  | _ => []
def oneL (i v : Nat) : List Nat := zeroL.set i v
def upd (P : Nat → Nat) (i v : Nat) : Nat → Nat := fun j => if j = i then v else P j
theorem rows_split (P : Nat → Nat) (i : Nat) (hi : i < 5) : rowsE P = preE P i ++ (encN (oneL i (P i)) ++ postE P i) := by
  match i, hi with
  | 0, _ | 1, _ | 2, _ | 3, _ | 4, _ => rfl
theorem rows_upd (P : Nat → Nat) (i v : Nat) (hi : i < 5) : rowsE (upd P i v) = preE P i ++ (encN (oneL i v) ++ postE P i) := by
  match i, hi with
  | 0, _ | 1, _ | 2, _ | 3, _ | 4, _ => rfl
theorem pre_len (P : Nat → Nat) (i : Nat) (hi : i < 5) : (preE P i).length = i * 5 := by
  match i, hi with
  | 0, _ | 1, _ | 2, _ | 3, _ | 4, _ => rfl
theorem one_len (i v : Nat) : (oneL i v).length = 5 := by simp [oneL, zeroL]
theorem one_get (i v j : Nat) (hi : i < 5) : (oneL i v).getD j 0 = if j = i then v else 0 := by
  unfold oneL
  simp only [List.getD, List.getElem?_set]
  by_cases h : i = j
  · subst h; simp [zeroL, hi]
  · rw [if_neg h, if_neg (fun e => h e.symm)]
    exact getD_zero j
theorem one_tick (i v : Nat) : tickL (oneL i v) = oneL i (v - 1) := by
  unfold tickL oneL
  rw [List.map_set]
  rfl
theorem one_start (i v : Nat) (n : Int) (hi : i < 5) : startL (oneL i v) (i : Int) n = oneL i (clampN n) := by
  unfold startL oneL
  rw [if_pos (by omega), Int.toNat_natCast, List.set_set]
theorem one_overs (i v : Nat) (hi : i < 5) : oversL (oneL i v) = if v = 1 then [(i : Int)] else [] := by
  by_cases h : v = 1
  · subst h
    rw [if_pos rfl]
    match i, hi with
    | 0, _ | 1, _ | 2, _ | 3, _ | 4, _ => rfl
  · rw [if_neg h]
    refine overs_none fun j hj => ?_
    rw [one_get i v j hi]
    split <;> omega

structure EachAt (w : World) (E : Nat) (P : Nat → Nat) : Prop where
  blk : w.heap[E]? = some (.cells (rowsE P).toArray 28 (0, 0))
  top : ∀ i, P i ≤ 1048576
section
variable {w x x' : World} {base A E : Nat} {L : List Nat} {P : Nat → Nat}
theorem EachAt.lt (h : EachAt w E P) : E < w.heap.size := (Array.getElem?_eq_some_iff.1 h.blk).1
theorem EachAt.bank (h : EachAt w E P) (i : Nat) (hi : i < 5) : BankAt w E (i * 5) (preE P i) (postE P i) 28 (oneL i (P i)) :=
  ⟨by rw [h.blk, rows_split P i hi], pre_len P i hi, one_len _ _, fun j => by rw [one_get _ _ _ hi]; have := h.top i; split <;> omega⟩
theorem each_of (h : EachAt x E P) (i : Nat) (hi : i < 5) (v : Nat) (hv : v ≤ 1048576) (hb : BankAt x' E (i * 5) (preE P i) (postE P i) 28 (oneL i v)) : EachAt x' E (upd P i v) :=
  ⟨by rw [hb.blk, rows_upd P i v hi], fun j => by unfold upd; split; exact hv; exact h.top j⟩
theorem EachAt.keep (h : EachAt x E P) (hk : x'.heap[E]? = x.heap[E]?) : EachAt x' E P := ⟨hk.trans h.blk, h.top⟩

/-- the bank for all, and the five -/
structure St (w : World) (base A E : Nat) (L : List Nat) (P : Nat → Nat) (x : World) : Prop where
  mine : Mine w base A L x
  each : EachAt x E P
  be : base ≤ E
  ne : A ≠ E
theorem St.below (h : St w base A E L P x) : Below base w x := h.mine.1
theorem St.base_le (h : St w base A E L P x) : base ≤ x.heap.size := h.mine.2.1
theorem St.next (h : St w base A E L P x) (hb : Below base w x') (hs : x.heap.size ≤ x'.heap.size) (hA : x'.heap[A]? = x.heap[A]?) (hE : x'.heap[E]? = x.heap[E]?) : St w base A E L P x' :=
  ⟨⟨hb, Nat.le_trans h.base_le hs, h.mine.2.2.1, h.mine.2.2.2.keep hA⟩, h.each.keep hE, h.be, h.ne⟩
theorem St.step (h : St w base A E L P x) (hb : Below x.heap.size x x') : St w base A E L P x' :=
  h.next (h.below.trans (hb.mono h.base_le)) hb.size (hb.block A h.mine.2.2.2.lt) (hb.block E h.each.lt)
theorem start_all (t n : Int) (h : St w base A E L P x) :
    Calls Try.prog 4 #[.pointer (some ⟨A, 0, none⟩), .int .i64 t, .int .i64 n] x fun e x' => (∃ v, e = .returned v) ∧ St w base A E (startL L t n) P x' :=
  (start_own t n h.mine).mono fun _ _ ⟨h1, h2, h3⟩ => ⟨h1, h2, h.each.keep (h3.block E h.each.lt (fun e => h.ne e.symm)), h.be, h.ne⟩
theorem start_one (i : Nat) (hi : i < 5) (n : Int) (h : St w base A E L P x) :
    Calls Try.prog 4 #[.pointer (some ⟨E, i * 5, none⟩), .int .i64 (i : Int), .int .i64 n] x fun e x' => (∃ v, e = .returned v) ∧ St w base A E L (upd P i (clampN n)) x' :=
  (start_any E (i * 5) _ _ _ _ (i : Int) n x (h.each.bank i hi)).mono fun _ x' ⟨h1, h2, h3⟩ => by
    rw [one_start i _ n hi] at h2
    exact ⟨h1, h.mine.only h3 h.ne h.be, each_of h.each i hi _ (by unfold clampN; omega) h2, h.be, h.ne⟩
theorem tick_all (h : St w base A E L P x) :
    Calls Try.prog 5 #[.pointer (some ⟨A, 0, none⟩)] x fun e x' => ∃ v, e = .returned v ∧ OwnI x' x.heap.size v (oversL L) ∧ St w base A E (tickL L) P x' ∧ Only x x' A :=
  (tick_any A 0 [] [] _ L x h.mine.2.2.2).mono fun _ _ ⟨v, h1, h0, h2, h3⟩ =>
    ⟨v, h1, h0, ⟨mine_of h.mine h3 h2, h.each.keep (h3.block E h.each.lt (fun e => h.ne e.symm)), h.be, h.ne⟩, h3⟩
theorem tick_one (i : Nat) (hi : i < 5) (h : St w base A E L P x) :
    Calls Try.prog 5 #[.pointer (some ⟨E, i * 5, none⟩)] x fun e x' => ∃ a cap, e = .returned (.slice a (if P i = 1 then [(i : Int)] else []).length cap) ∧ RdI x' a (if P i = 1 then [(i : Int)] else []).length (if P i = 1 then [(i : Int)] else []) ∧ St w base A E L (upd P i (P i - 1)) x' ∧ Only x x' E :=
  (tick_any E (i * 5) _ _ _ _ x (h.each.bank i hi)).mono fun _ x' ⟨v, h1, h0, h2, h3⟩ => by
    rw [one_overs i _ hi] at h0
    rw [one_tick] at h2
    obtain ⟨a, n, cap, rfl, _, h6⟩ := h0.form
    have h7 := h6.1
    subst h7
    exact ⟨a, cap, h1, h6, ⟨h.mine.only h3 h.ne h.be, each_of h.each i hi _ (by have := h.each.top i; omega) h2, h.be, h.ne⟩, h3⟩
theorem left_all (i : Nat) (hi : i < 5) (h : St w base A E L P x) :
    Calls Try.prog 6 #[.pointer (some ⟨A, 0, none⟩), .int .i64 (i : Int)] x fun e x' => e = .returned (.int .i64 (L.getD i 0 : Nat)) ∧ x = x' := by
  have := left_own (i : Int) h.mine
  rw [leftL_at L i hi] at this
  exact this
theorem left_one (i : Nat) (hi : i < 5) (h : St w base A E L P x) :
    Calls Try.prog 6 #[.pointer (some ⟨E, i * 5, none⟩), .int .i64 (i : Int)] x fun e x' => e = .returned (.int .i64 (P i : Nat)) ∧ x = x' := by
  have := left_any E (i * 5) _ _ _ _ (i : Int) x (h.each.bank i hi)
  rw [leftL_at _ i hi, one_get i _ i hi, if_pos rfl] at this
  exact this
end
/-! ### numbers -/
def getF (L : List Nat) : Nat → Nat := fun i => L.getD i 0
def mixF (L : List Nat) (k : Nat) : Nat → Nat := fun i => if i < k then L.getD i 0 - 1 else L.getD i 0
theorem mix_zero (L : List Nat) : mixF L 0 = getF L := by funext i; simp [mixF, getF]
theorem mix_succ (L : List Nat) (k : Nat) : upd (mixF L k) k (L.getD k 0 - 1) = mixF L (k + 1) := by
  funext i
  unfold upd mixF
  by_cases h : i = k
  · subst h; simp
  · rw [if_neg h]
    by_cases h2 : i < k
    · rw [if_pos h2, if_pos (by omega)]
    · rw [if_neg h2, if_neg (by omega)]
theorem mix_at (L : List Nat) (k : Nat) : mixF L k k = L.getD k 0 := by simp [mixF]
theorem mix_end (L : List Nat) (hl : L.length = 5) : mixF L 5 = getF (tickL L) := by
  funext i
  unfold mixF getF
  rw [getD_tick]
  split
  · rfl
  · have : L.getD i 0 = 0 := by simp [List.getD, List.getElem?_eq_none (show L.length ≤ i by omega)]
    omega
theorem start_get (L : List Nat) (hl : L.length = 5) (t : Nat) (n : Int) (ht : t < 5) : upd (getF L) t (clampN n) = getF (startL L (t : Int) n) := by
  funext i
  unfold upd getF
  rw [getD_start hl t i n ht]
def downL (L : List Nat) (j : Nat) : List Nat := L.map (· - j)
theorem down_tick (L : List Nat) (j : Nat) : tickL (downL L j) = downL L (j + 1) := by
  simp only [tickL, downL, List.map_map]
  exact List.map_congr_left fun x _ => by simp only [Function.comp]; omega
theorem down_zero (L : List Nat) : downL L 0 = L := by simp [downL]
theorem getD_down (L : List Nat) (i j : Nat) : (downL L j).getD i 0 = L.getD i 0 - j := by
  simp only [downL, List.getD, List.getElem?_map]
  cases L[i]? <;> simp
theorem nextTo_zero {L : List Nat} (h : ∀ i, L.getD i 0 = 0) : ∀ k, nextTo L k = 0
  | 0 => rfl
  | k + 1 => by rw [nextTo, h k, if_neg (by omega)]; exact nextTo_zero h k
/-- how many of a kind -/
def cntL (L : List Nat) (i : Nat) : Nat := if L.getD i 0 = 1 then 1 else 0
theorem cnt_overs (L : List Nat) (i : Nat) (hi : i < 5) : (oversL L).count (i : Int) = cntL L i := by
  have := count_overs L i 5
  unfold cntL
  rw [show oversL L = oversTo L 5 from rfl, this]
  by_cases h : L.getD i 0 = 1
  · rw [if_pos ⟨hi, h⟩, if_pos h]
  · rw [if_neg (fun e => h e.2), if_neg h]
end Go.Proofs.Ytjcphdbfafjngaa.Bank
