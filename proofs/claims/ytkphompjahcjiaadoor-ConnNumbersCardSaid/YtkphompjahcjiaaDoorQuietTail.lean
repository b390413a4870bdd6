/-
  A region that draws its order: operations that no world bears upon first, then a head of operations that only read (calls among them), then a chain of operations (stores) that wait for all of these: one walk in the order of the text serves every order.
-/
import Derived.Test.YtkphompjahcjiaaDoorProg
import Derived.StillTail
import Derived.Deep.Quiet
import Derived.OrdersHeld
import Derived.Deep.QuietTactic
import Derived.BigQuiet
namespace Go.Proofs.YtkphompjahcjiaaDoor.QT
section
variable {P : Program} {ops : Array Oper} {md : Region.Mode} {C : World → Prop}

/-- each operation of the head is waited for by one of the head behind it, or by the first of the tail; each of the tail waits for the one ahead -/
def sunk (md : Region.Mode) (ops : Array Oper) (hs ts : List Nat) : Bool :=
  (hs.all fun i => hs.any (fun j => decide (i < j) && Region.waitsFor md ops j i) || (ts.head?.any fun t => Region.waitsFor md ops t i)) &&
  ((ts.zip ts.tail).all fun x => Region.waitsFor md ops x.2 x.1)
/-- every operation has come up, or is of the head, or of the tail -/
def parted (ops : Array Oper) (hs ts : List Nat) (at0 : Array Bool) : Bool :=
  decide (at0.size = ops.size) && ((List.range ops.size).all fun i => at0.getD i false || hs.contains i || ts.contains i) && (hs.all fun i => !ts.contains i && decide (i < ops.size)) && (ts.all fun i => !(at0.getD i false))

structure Inv (md : Region.Mode) (ops : Array Oper) (ts : List Nat) (at0 listed : Array Bool) : Prop where
  size : listed.size = ops.size
  closed : ∀ j oj, ops[j]? = some oj → listed.getD j false = true → ∀ e ∈ oj.after, Region.binds md e = true → listed.getD e.on false = true
  tail : ∀ t, t ∈ ts → listed.getD t false = false
  more : ∀ i, at0.getD i false = true → listed.getD i false = true

theorem Inv.set {i : Nat} {ts : List Nat} {at0 listed : Array Bool} (inv : Inv md ops ts at0 listed) (hi : i ∈ Region.ready md ops listed) (hin : i ∉ ts) : Inv md ops ts at0 (listed.setIfInBounds i true) := by
  obtain ⟨_, oi, hoi, hall⟩ := mem_ready.1 hi
  have hlt : i < listed.size := by rw [inv.size]; exact (Array.getElem?_eq_some_iff.1 hoi).1
  refine ⟨by simp [inv.size], fun j oj hj hl e he hb => ?_, fun t ht => ?_, fun k hk => ?_⟩
  · by_cases hij : i = j
    · subst hij
      have : oj = oi := Option.some.inj (hj.symm.trans hoi)
      subst this
      exact getD_set_true (hall e he hb)
    · rw [getD_set_ne false hij] at hl
      exact getD_set_true (inv.closed j oj hj hl e he hb)
  · rw [getD_set_ne false (by intro h; subst h; exact hin ht)]; exact inv.tail t ht
  · by_cases h : i = k
    · subst h; simp [hlt]
    · rw [getD_set_ne false h]; exact inv.more k hk

theorem zip_mem : ∀ (ts : List Nat) (t : Nat), t ∈ ts → (ts.head? = some t) ∨ ∃ s, s ∈ ts ∧ (s, t) ∈ ts.zip ts.tail
  | [], _, h => by cases h
  | [x], t, h => by
    left
    simp at h
    simp [h]
  | x :: y :: r, t, h => by
    rcases List.mem_cons.1 h with rfl | h
    · exact .inl rfl
    · right
      rcases zip_mem (y :: r) t h with h1 | ⟨s, h1, h2⟩
      · simp at h1
        subst h1
        exact ⟨x, by simp, by simp⟩
      · exact ⟨s, by simp [h1], by simp only [List.tail_cons, List.zip_cons_cons]; exact List.mem_cons_of_mem _ h2⟩

theorem late {hs ts : List Nat} {at0 listed : Array Bool} (hB : sunk md ops hs ts = true) (inv : Inv md ops ts at0 listed) (hlt : ∀ i ∈ hs, i < ops.size) :
    ∀ (d i : Nat), ops.size - i = d → i ∈ hs → listed.getD i false = false → ∀ t, t ∈ ts → t ∉ Region.ready md ops listed := by
  simp only [sunk, Bool.and_eq_true] at hB
  intro d
  induction d using Nat.strongRecOn with
  | _ d ih =>
    intro i hd hi hun t ht hr
    obtain ⟨_, ot, hot, hall⟩ := mem_ready.1 hr
    rcases zip_mem ts t ht with h | ⟨s, hs1, hs2⟩
    · have h1 := List.all_eq_true.1 hB.1 i hi
      rw [Bool.or_eq_true] at h1
      rcases h1 with h1 | h1
      · obtain ⟨j, hj, hj2⟩ := List.any_eq_true.1 h1
        simp only [Bool.and_eq_true, decide_eq_true_eq] at hj2
        obtain ⟨oj, hoj, e, he, hb, hon⟩ := Region.waitsFor_spec hj2.2
        cases hl : listed.getD j false with
        | true =>
          have h2 := inv.closed j oj hoj hl e he hb
          rw [hon, hun] at h2
          cases h2
        | false =>
          have hjs := hlt j hj
          exact ih (ops.size - j) (by omega) j rfl hj hl t ht hr
      · rw [h] at h1
        obtain ⟨o', ho', e, he, hb, hon⟩ := Region.waitsFor_spec h1
        have : o' = ot := Option.some.inj (ho'.symm.trans hot)
        subst this
        have h2 := hall e he hb
        rw [hon, hun] at h2
        cases h2
    · have h1 := List.all_eq_true.1 hB.2 (s, t) hs2
      obtain ⟨o', ho', e, he, hb, hon⟩ := Region.waitsFor_spec h1
      have : o' = ot := Option.some.inj (ho'.symm.trans hot)
      subst this
      have h2 := hall e he hb
      rw [hon, inv.tail s hs1] at h2
      cases h2

def headQ (P : Program) (md : Region.Mode) (ops : Array Oper) (C : World → Prop) (hs : List Nat) (L : Array Bool → Act → Prop) : Nat → Array Bool → Act → Prop
  | 0, listed, a => L listed a
  | f + 1, listed, a =>
    Region.ready md ops listed ≠ [] ∧ ∀ i ∈ Region.ready md ops listed, i ∈ hs ∧ qOp P ops C i (headQ P md ops C hs L f (listed.setIfInBounds i true)) a

theorem any_of_head {hs : List Nat} {g : Nat} {L : Array Bool → Act → Prop} {Q' : Exit → Act → World → Prop} (hL : ∀ listed a w, C w → L listed a → wpAny P md ops Q' g listed a w) :
    ∀ (f : Nat) (listed : Array Bool) (a : Act) (w : World), C w → headQ P md ops C hs L f listed a → wpAny P md ops Q' (f + g) listed a w
  | 0, listed, a, w, hw, h => by rw [Nat.zero_add]; exact hL _ _ _ hw h
  | f + 1, listed, a, w, hw, h => by
    rw [show f + 1 + g = (f + g) + 1 by omega]
    exact ⟨fun h0 => absurd h0 h.1, fun i hi => wpOp_of_qOp hw (fun a' w' hw' h' => any_of_head hL f _ a' w' hw' h') (h.2 i hi).2⟩

structure Sure (md : Region.Mode) (ops : Array Oper) (hs ts : List Nat) (at0 : Array Bool) : Prop where
  sunk : sunk md ops hs ts = true
  lt : ∀ i ∈ hs, i < ops.size
  all : ∀ i, i < ops.size → at0.getD i false = true ∨ i ∈ hs ∨ i ∈ ts
  apart : ∀ i ∈ hs, i ∉ ts

theorem in_head {hs ts : List Nat} {at0 listed : Array Bool} (hS : Sure md ops hs ts at0) (inv : Inv md ops ts at0 listed) {i j : Nat} (hi : i ∈ hs) (hun : listed.getD i false = false) (hj : j ∈ Region.ready md ops listed) : j ∈ hs := by
  obtain ⟨hjun, oj, hoj, _⟩ := mem_ready.1 hj
  rcases hS.all j (Array.getElem?_eq_some_iff.1 hoj).1 with h | h | h
  · have := inv.more j h
    rw [getD_both hjun] at this
    cases this
  · exact h
  · exact absurd hj (late hS.sunk inv hS.lt _ i rfl hi hun j h)

theorem head_first {i : Nat} {oi : Oper} {v : Value} {hs ts : List Nat} {at0 : Array Bool} {L : Array Bool → Act → Prop} (hi : ops[i]? = some oi) (hsel : ∀ (j : Nat) (o : Oper) cs b, ops[j]? = some o → o.op ≠ .select cs b)
    (hS : Sure md ops hs ts at0) (hin : i ∈ hs) (hdone : ∀ listed a, L listed a → ∀ j ∈ Region.ready md ops listed, j ∉ hs) :
    ∀ (f : Nat) (listed : Array Bool) (a : Act), Inv md ops ts at0 listed →
      (∀ j oj, ops[j]? = some oj → j ≠ i → listed.getD j true = false → (∀ e ∈ oj.after, Region.binds md e = true → e.on ≠ i) → oi.apart ops oj = true) →
      i ∈ Region.ready md ops listed → YieldsIn P ops C oi v a →
      headQ P md ops C hs L f (listed.setIfInBounds i true) (a.put oi.dst v) → headQ P md ops C hs L (f + 1) listed a := by
  intro f
  induction f with
  | zero =>
    intro listed a inv _ hr hy H
    have hun := (mem_ready.1 hr).1
    refine ⟨fun h => (by rw [h] at hr; cases hr), fun j hj => ?_⟩
    have hjn := in_head hS inv hin (getD_both hun) hj
    refine ⟨hjn, ?_⟩
    by_cases hji : j = i
    · subst hji; exact hy.qOp hi H
    · exact absurd hjn (hdone _ _ H j (ready_mono hj hji))
  | succ f ih =>
    intro listed a inv hfree hr hy H
    have hun := (mem_ready.1 hr).1
    refine ⟨fun h => (by rw [h] at hr; cases hr), fun j hj => ?_⟩
    have hjn := in_head hS inv hin (getD_both hun) hj
    refine ⟨hjn, ?_⟩
    by_cases hji : j = i
    · subst hji; exact hy.qOp hi H
    · have h1 := (H.2 j (ready_mono hj hji)).2
      obtain ⟨hjun, oj, hoj, hall⟩ := mem_ready.1 hj
      have hnot : ∀ e ∈ oj.after, Region.binds md e = true → e.on ≠ i := fun e he hb heq => by
        have h1 := hall e he hb
        rw [heq, getD_both hun] at h1
        cases h1
      have h2 := qOp_put hoj (hfree j oj hoj hji hjun hnot) (fun cs b => hsel i oi cs b hi) (fun cs b => hsel j oj cs b hoj) hy h1
      have hfree' : ∀ k ok, ops[k]? = some ok → k ≠ i → (listed.setIfInBounds j true).getD k true = false →
          (∀ e ∈ ok.after, Region.binds md e = true → e.on ≠ i) → oi.apart ops ok = true := fun k ok hk hki hun hno => by
        refine hfree k ok hk hki ?_ hno
        by_cases hjk : j = k
        · subst hjk; exact hjun
        · rw [getD_set_ne true hjk] at hun; exact hun
      refine qOp_mono (fun a' h3 => ih (listed.setIfInBounds j true) a' (inv.set hj (hS.apart j hjn)) hfree' (ready_mono hr (Ne.symm hji)) h3.1 ?_) h2
      rw [Array.setIfInBounds_comm _ _ hji]
      exact h3.2

/-- the tail comes up in its order alone -/
def seqQ (md : Region.Mode) (ops : Array Oper) : List Nat → Array Bool → Bool
  | [], listed => (Region.ready md ops listed).isEmpty
  | t :: r, listed => decide (Region.ready md ops listed = [t]) && seqQ md ops r (listed.setIfInBounds t true)
/-- may the head's operations come up in this order, and then the tail in its own? -/
def lexQ (md : Region.Mode) (ops : Array Oper) (hs ts : List Nat) : List Nat → Array Bool → Bool
  | [], listed => seqQ md ops ts listed && decide (ts ≠ [])
  | k :: r, listed => hs.contains k && (Region.ready md ops listed).contains k && Region.free md ops listed k && lexQ md ops hs ts r (listed.setIfInBounds k true)
/-- the head's walk, in that order -/
def walkQ (P : Program) (ops : Array Oper) (C : World → Prop) (Q : Act → Prop) : List Nat → Act → Prop
  | [], a => Q a
  | k :: r, a => qOp P ops C k (walkQ P ops C Q r) a

theorem any_of_seq {Q' : Exit → Act → World → Prop} : ∀ (ts : List Nat) (os : List Oper) (listed : Array Bool) (a : Act) (w : World), ts.map (ops[·]?) = os.map some →
    seqQ md ops ts listed = true → wpList P ops Q' os a w → wpAny P md ops Q' ts.length listed a w
  | [], [], _, _, _, _, hB, h => ⟨by simpa [seqQ] using hB, h⟩
  | [], _ :: _, _, _, _, e, _, _ => by cases e
  | _ :: _, [], _, _, _, e, _, _ => by cases e
  | t :: ts, o :: os, listed, a, w, e, hB, h => by
    simp only [List.map_cons, List.cons.injEq] at e
    simp only [seqQ, Bool.and_eq_true, decide_eq_true_eq] at hB
    refine ⟨fun h1 => (by rw [hB.1] at h1; cases h1), fun i hi => ?_⟩
    rw [hB.1] at hi
    have hik : i = t := by simpa using hi
    subst hik
    have hw : wpOp P ops Q' i (wpList P ops Q' os) a w := by unfold wpOp; simp only [e.1]; exact h
    exact wpOp_mono (fun a' w' h' => any_of_seq ts os _ a' w' e.2 hB.2 h') hw

theorem head_lex {hs ts : List Nat} {at0 : Array Bool} {Lq : Act → Prop} (hsel : Region.noSelect ops = true) (hS : Sure md ops hs ts at0) :
    ∀ (l : List Nat) (listed : Array Bool) (a : Act), Inv md ops ts at0 listed → lexQ md ops hs ts l listed = true → walkQ P ops C Lq l a →
    headQ P md ops C hs (fun listed' a' => (seqQ md ops ts listed' = true ∧ ts ≠ []) ∧ Lq a') l.length listed a
  | [], listed, a, _, hB, h => by
    simp only [lexQ, Bool.and_eq_true, decide_eq_true_eq] at hB
    exact ⟨hB, h⟩
  | k :: l, listed, a, inv, hB, h => by
    simp only [lexQ, Bool.and_eq_true] at hB
    obtain ⟨⟨⟨hkn, hr⟩, hf⟩, hB'⟩ := hB
    have hkn' : k ∈ hs := by simpa using hkn
    have hr' : k ∈ Region.ready md ops listed := by simpa using hr
    obtain ⟨_, oi, h0, _⟩ := mem_ready.1 hr'
    obtain ⟨v, hy, hK⟩ := yieldsIn_of_qOp h0 h
    refine head_first h0 (Region.noSelect_spec hsel) hS hkn' (fun listed' a' hL j hj hjh => ?_) l.length listed a inv (Region.free_spec h0 hf) hr' hy
      (head_lex hsel hS l _ _ (inv.set hr' (hS.apart k hkn')) hB' hK)
    obtain ⟨⟨h1, h2⟩, _⟩ := hL
    cases ts with
    | nil => exact h2 rfl
    | cons t r =>
      simp only [seqQ, Bool.and_eq_true, decide_eq_true_eq] at h1
      rw [h1.1] at hj
      have : j = t := by simpa using hj
      subst this
      exact hS.apart j hjh (by simp)

/-- all that is asked of the order -/
def okQ (md : Region.Mode) (ops : Array Oper) (hs ts : List Nat) (listed : Array Bool) : Bool :=
  Region.noSelect ops && sunk md ops hs ts && parted ops hs ts listed &&
    ((List.range ops.size).all fun j => !(listed.getD j false) || (match ops[j]? with | some o => o.after.all (fun e => !(Region.binds md e) || listed.getD e.on false) | none => true)) &&
    lexQ md ops hs ts hs listed

theorem any_quiet_tail {Q : Exit → Act → World → Prop} {a : Act} {w : World} {listed : Array Bool} (hs ts : List Nat) (os : List Oper) (hB : okQ md ops hs ts listed = true) (ho : ts.map (ops[·]?) = os.map some) (hC : C w)
    (h : walkQ P ops C (fun a' => ∀ w', C w' → wpList P ops Q os a' w') hs a) : wpAny P md ops Q (hs.length + ts.length) listed a w := by
  simp only [okQ, parted, Bool.and_eq_true, decide_eq_true_eq] at hB
  obtain ⟨⟨⟨⟨hsel, hsk⟩, ⟨⟨hsz, hall⟩, hap⟩, htl⟩, hcl⟩, hlex⟩ := hB
  have hS : Sure md ops hs ts listed := by
    refine ⟨hsk, fun i hi => ?_, fun i hi => ?_, fun i hi ht => ?_⟩
    · have := List.all_eq_true.1 hap i hi
      simp only [Bool.and_eq_true, decide_eq_true_eq] at this
      exact this.2
    · have := List.all_eq_true.1 hall i (List.mem_range.2 hi)
      simp only [Bool.or_eq_true, List.contains_iff_mem] at this
      rcases this with (h1 | h1) | h1
      · exact .inl h1
      · exact .inr (.inl h1)
      · exact .inr (.inr h1)
    · have := List.all_eq_true.1 hap i hi
      simp only [Bool.and_eq_true, Bool.not_eq_true', decide_eq_true_eq] at this
      have h2 : ts.contains i = true := List.contains_iff_mem.2 ht
      rw [this.1] at h2
      cases h2
  have inv0 : Inv md ops ts listed listed := by
    refine ⟨hsz, fun j oj hj hl e he hb => ?_, fun t ht => ?_, fun i hi => hi⟩
    · have hjs : j < ops.size := (Array.getElem?_eq_some_iff.1 hj).1
      have h1 := List.all_eq_true.1 hcl j (List.mem_range.2 hjs)
      simp only [hl, Bool.not_true, Bool.false_or, hj] at h1
      have h2 := (Array.all_eq_true'.1 h1) e he
      simpa [hb] using h2
    · have := List.all_eq_true.1 htl t ht
      simpa using this
  have H := head_lex (P := P) (C := C) (Lq := fun a' => ∀ w', C w' → wpList P ops Q os a' w') hsel hS hs listed a inv0 hlex h
  exact any_of_head (g := ts.length) (fun listed' a' w' hw' hL => any_of_seq ts os listed' a' w' ho hL.1.1 (hL.2 w' hw')) _ _ _ _ hC H

theorem held_of_any {Q : Exit → Act → World → Prop} : ∀ (f : Nat) (listed : Array Bool) (a : Act) (w : World), wpAny P md ops Q f listed a w → wpAnyH P md ops Q (fun _ => True) f listed a w
  | 0, _, _, _, h => h
  | f + 1, _, _, _, h => ⟨h.1, fun i hi => wpOp_mono (fun a' w' h' => ⟨trivial, held_of_any f _ a' w' h'⟩) (h.2 i hi)⟩
theorem walk_of_list {Q : Act → Prop} : ∀ (l : List Nat) (os : List Oper) (a : Act), l.map (ops[·]?) = os.map some → wpQuiet P ops C Q os a → walkQ P ops C Q l a
  | [], [], _, _, h => h
  | [], _ :: _, _, e, _ => by cases e
  | _ :: _, [], _, e, _ => by cases e
  | k :: l, o :: os, a, e, h => by
    simp only [List.map_cons, List.cons.injEq] at e
    have hh : qOp P ops C k (wpQuiet P ops C Q os) a := by
      unfold qOp
      simp only [e.1]
      exact h
    exact qOp_mono (fun a' h' => walk_of_list l os a' e.2 h') hh

/-- the whole of it, from where some operations have come up -/
theorem held_quiet_tail {Q : Exit → Act → World → Prop} {a : Act} {w W : World} {listed : Array Bool} {f : Nat} (hs ts : List Nat) (os os' : List Oper) (hB : okQ md ops hs ts listed = true) (hf : f = hs.length + ts.length)
    (hl : hs.map (ops[·]?) = os.map some) (ho : ts.map (ops[·]?) = os'.map some) (hC : ∃ k, w = W.drewN k)
    (h : wpQuiet P ops (fun w' => ∃ k, w' = W.drewN k) (fun a' => ∀ w', (∃ k, w' = W.drewN k) → wpList P ops Q os' a' w') os a) : wpAnyH P md ops Q (fun _ => True) f listed a w := by
  subst hf
  exact held_of_any _ _ _ _ (any_quiet_tail hs ts os' hB ho hC (walk_of_list hs os a hl h))
/-- a region whose first n operations are the head, the others the tail -/
theorem region_quiet_tail {id : Nat} {Q : Exit → Act → World → Prop} {a : Act} {w : World} {l : List Oper} (n : Nat) (hm : P.follows .mixedOrders = true) (hn : n ≤ l.length)
    (hB : okQ .any l.toArray (List.range n) ((List.range (l.length - n)).map (· + n)) (Array.replicate l.toArray.size false) = true)
    (h : wpQuiet P l.toArray (fun w' => ∃ k, w' = w.drewN k) (fun a' => ∀ w', (∃ k, w' = w.drewN k) → wpList P l.toArray Q (l.drop n) a' w') (l.take n) a) : (Code.region id l.toArray true).wp P Q a w := by
  refine wp_region_any hm ?_
  have := any_quiet_tail (md := .any) (Q := Q) (List.range n) ((List.range (l.length - n)).map (· + n)) (l.drop n) hB (by
      apply List.ext_getElem?
      intro i
      by_cases hi : i < l.length - n
      · have h1 : i + n < l.length := by omega
        simp only [List.map_map, List.getElem?_map, List.getElem?_range hi, Option.map_some, Function.comp, List.getElem?_drop, List.getElem?_toArray, Nat.add_comm n i, List.getElem?_eq_getElem h1]
      · simp only [List.map_map, List.getElem?_map, List.getElem?_drop]
        rw [List.getElem?_eq_none (by simp; omega), List.getElem?_eq_none (by omega)]
        rfl)
    (C := fun w' => ∃ k, w' = w.drewN k) (w := { w with drawn := w.drawn + 1 }) ⟨1, rfl⟩ (walk_of_list (List.range n) (l.take n) a (by
      apply List.ext_getElem?
      intro i
      by_cases hi : i < n
      · have h1 : i < l.length := by omega
        simp only [List.getElem?_map, List.getElem?_range hi, Option.map_some, List.getElem?_take, if_pos hi, List.getElem?_toArray, List.getElem?_eq_getElem h1]
      · simp only [List.getElem?_map, List.getElem?_take, if_neg hi]
        rw [List.getElem?_eq_none (by simp; omega)]
        rfl) h)
  simp only [List.length_range, List.length_map] at this
  rw [show n + (l.length - n) = l.toArray.size by simp; omega] at this
  exact this
end
end Go.Proofs.YtkphompjahcjiaaDoor.QT
