/-
  Texts of signals: what is unlike in what is named has unlike texts.
-/
import Derived.Test.YtcepiapidcofiaaDoorEvUn
import Derived.Test.YtcepiapidcofiaaDoorEvBare
namespace Go.Proofs.YtcepiapidcofiaaDoor.Ev
open Go.ChangeShapes Go.WideShapes Go.RowKit Go.Sort Own

theorem split32 : ∀ (A B R S : List UInt8), (∀ x ∈ A, x ≠ 32) → (∀ x ∈ B, x ≠ 32) → (R = [] ∨ ∃ r, R = 32 :: r) → (S = [] ∨ ∃ s, S = 32 :: s) → A ++ R = B ++ S → A = B ∧ R = S
  | [], [], R, S, _, _, _, _, h => ⟨rfl, by simpa using h⟩
  | [], b :: B, R, S, _, hB, hR, _, h => by
    rcases hR with rfl | ⟨r, rfl⟩
    · simp at h
    · simp only [List.nil_append, List.cons_append, List.cons.injEq] at h
      exact absurd h.1.symm (hB b (by simp))
  | a :: A, [], R, S, hA, _, _, hS, h => by
    rcases hS with rfl | ⟨s, rfl⟩
    · simp at h
    · simp only [List.nil_append, List.cons_append, List.cons.injEq] at h
      exact absurd h.1 (hA a (by simp))
  | a :: A, b :: B, R, S, hA, hB, hR, hS, h => by
    simp only [List.cons_append, List.cons.injEq] at h
    obtain ⟨rfl, h2⟩ := h
    obtain ⟨rfl, h3⟩ := split32 A B R S (fun x hx => hA x (by simp [hx])) (fun x hx => hB x (by simp [hx])) hR hS h2
    exact ⟨rfl, h3⟩

/-! ### decimal digits -/
def valD (l : List UInt8) : Nat := l.foldl (fun a c => a * 10 + (c.toNat - 48)) 0
theorem dig_val (r : Nat) (h : r < 10) : (UInt8.ofNat (48 + r)).toNat = 48 + r := by simp; omega
theorem val_dec (u : Nat) : valD (Lib.decDigits u) = u := by
  induction u using Nat.strongRecOn with
  | _ u ih =>
    rw [Lib.decDigits]
    split
    · rename_i h
      simp only [valD, List.foldl_cons, List.foldl_nil]
      rw [dig_val u h]; omega
    · rename_i h
      have := ih (u / 10) (by omega)
      unfold valD at this ⊢
      rw [List.foldl_append, this]
      simp only [List.foldl_cons, List.foldl_nil]
      rw [dig_val (u % 10) (by omega)]; omega
theorem dec_big (u : Nat) : ∀ c ∈ Lib.decDigits u, 48 ≤ c.toNat := by
  induction u using Nat.strongRecOn with
  | _ u ih =>
    intro c hc
    rw [Lib.decDigits] at hc
    split at hc
    · rename_i h
      simp only [List.mem_singleton] at hc
      subst hc
      rw [dig_val u h]; omega
    · rename_i h
      rcases List.mem_append.1 hc with hc | hc
      · exact ih (u / 10) (by omega) c hc
      · simp only [List.mem_singleton] at hc
        subst hc
        rw [dig_val _ (by omega)]; omega
theorem dec_inj {u v : Nat} (h : Lib.decDigits u = Lib.decDigits v) : u = v := by
  rw [← val_dec u, h, val_dec]
theorem itoa_inj {a b : Int} (h : Lib.itoa a = Lib.itoa b) : a = b := by
  unfold Lib.itoa at h
  split at h
  · split at h
    · simp only [List.cons.injEq, true_and] at h
      have := dec_inj h
      omega
    · have := dec_big b.toNat 45 (by rw [← h]; simp)
      simp at this
  · split at h
    · have := dec_big a.toNat 45 (by rw [h]; simp)
      simp at this
    · have := dec_inj h
      omega

/-! ### data -/
def hxL (d : ByteArray) : List UInt8 := (hexS d).data.toList
theorem hx_inj {d e : ByteArray} (h : hxL d = hxL e) : d = e := by
  have hz : ∀ x : ByteArray, x.size = 0 → x = ⟨#[]⟩ := fun x hx => by
    cases x with
    | mk a => have : a = #[] := Array.eq_empty_of_size_eq_zero hx
              rw [this]
  have hl : ∀ x : ByteArray, x.size = x.data.toList.length := fun x => rfl
  unfold hxL hexS at h
  split at h
  · rename_i h1
    split at h
    · rename_i h2
      rw [hz d h1, hz e h2]
    · have := congrArg List.length h
      rw [hexL_length] at this
      simp at this
      omega
  · split at h
    · have := congrArg List.length h
      rw [hexL_length] at this
      simp at this
      omega
    · have h2 : hexL d.data.toList = hexL e.data.toList := by simpa using h
      have h3 := congrArg unL h2
      rw [un_hex, un_hex] at h3
      have h4 : d.data = e.data := Array.toList_inj.1 (Option.some.inj h3)
      exact ByteArray.ext h4

/-! ### the text as a list -/
def restL (k : Nat) (d : ByteArray) (self : Bool) (code : Nat) (n : Int) : List UInt8 :=
  if k = 3 then 32 :: ((byS self).data.toList ++ 32 :: hxL d) else if (lookOf k).2 then 32 :: hxL d else if k = 12 then 32 :: UInt8.ofNat code :: (if code = 86 then 32 :: Lib.itoa n else []) else []
theorem text_list (k : Nat) (d : ByteArray) (self : Bool) (code : Nat) (n : Int) : (textS k d self code n).data.toList = (lookOf k).1 ++ restL k d self code n := by
  have hj : ∀ l : List ByteArray, (joinT l).data.toList = Lib.join (l.map (·.data.toList)) [32] := fun l => by simp [joinT]
  have hw : (wordS k).data.toList = (lookOf k).1 := by simp [wordS]
  unfold textS restL
  rw [hj]
  by_cases h3 : k = 3
  · subst h3
    have e : wordsT 3 d self code n = [wordS 3, byS self, hexS d] := by
      unfold wordsT
      rw [if_pos rfl, if_pos (show (lookOf 3).2 = true from rfl), if_neg (by decide), if_neg (by omega)]; rfl
    rw [e, if_pos rfl, List.map_cons, Lib.join_cons, hw]
    simp only [List.map_cons, List.map_nil, Lib.joinTail, List.flatten_cons, List.flatten_nil, List.append_nil, List.cons_append, List.nil_append, hxL]
  · rw [if_neg h3]
    by_cases hl : (lookOf k).2 = true
    · have h12 : k ≠ 12 := fun h => by subst h; cases hl
      have e : wordsT k d self code n = [wordS k, hexS d] := by
        unfold wordsT
        rw [if_neg h3, if_pos hl, if_neg h12, if_neg (fun h => h12 h.1)]; rfl
      rw [e, if_pos hl, List.map_cons, Lib.join_cons, hw]
      simp only [List.map_cons, List.map_nil, Lib.joinTail, List.flatten_cons, List.flatten_nil, List.append_nil, List.cons_append, List.nil_append, hxL]
    · rw [if_neg hl]
      by_cases h12 : k = 12
      · rw [if_pos h12]
        by_cases hc : code = 86
        · have e : wordsT k d self code n = [wordS k, ⟨[UInt8.ofNat code].toArray⟩, ⟨(Lib.itoa n).toArray⟩] := by
            unfold wordsT
            rw [if_neg h3, if_neg hl, if_pos h12, if_pos ⟨h12, hc⟩]; rfl
          rw [e, if_pos hc, List.map_cons, Lib.join_cons, hw]
          simp only [List.map_cons, List.map_nil, Lib.joinTail, List.flatten_cons, List.flatten_nil, List.append_nil, List.cons_append, List.nil_append]
        · have e : wordsT k d self code n = [wordS k, ⟨[UInt8.ofNat code].toArray⟩] := by
            unfold wordsT
            rw [if_neg h3, if_neg hl, if_pos h12, if_neg (fun h => hc h.2)]; rfl
          rw [e, if_neg hc, List.map_cons, Lib.join_cons, hw]
          simp only [List.map_cons, List.map_nil, Lib.joinTail, List.flatten_cons, List.flatten_nil, List.append_nil, List.cons_append, List.nil_append]
      · have e : wordsT k d self code n = [wordS k] := by
          unfold wordsT
          rw [if_neg h3, if_neg hl, if_neg h12, if_neg (fun h => h12 h.1)]; rfl
        rw [e, if_neg h12, List.map_cons, Lib.join_cons, hw]
        simp only [List.map_nil, Lib.joinTail, List.flatten_nil, List.append_nil]
theorem rest_head (k : Nat) (d : ByteArray) (self : Bool) (code : Nat) (n : Int) : restL k d self code n = [] ∨ ∃ r, restL k d self code n = 32 :: r := by
  unfold restL
  split
  · exact .inr ⟨_, rfl⟩
  · split
    · exact .inr ⟨_, rfl⟩
    · split
      · exact .inr ⟨_, rfl⟩
      · exact .inl rfl
theorem look_no32 : ∀ k : Fin 13, ∀ x ∈ (lookOf k.val).1, x ≠ 32 := by decide +kernel
theorem look_inj : ∀ j k : Fin 13, 1 ≤ j.val → 1 ≤ k.val → (lookOf j.val).1 = (lookOf k.val).1 → j = k := by decide +kernel

theorem text_inj {j k : Nat} (j1 : 1 ≤ j) (j2 : j ≤ 12) (k1 : 1 ≤ k) (k2 : k ≤ 12) {d e : ByteArray} {s t : Bool} {c b : Nat} {m n : Int} (hc : c < 256) (hb : b < 256)
    (h : textS j (bareD j d) (bareS j s) (bareC j c) (bareN j c m) = textS k (bareD k e) (bareS k t) (bareC k b) (bareN k b n)) :
    j = k ∧ bareD j d = bareD k e ∧ bareS j s = bareS k t ∧ bareC j c = bareC k b ∧ bareN j c m = bareN k b n := by
  have h2 := congrArg (fun x : ByteArray => x.data.toList) h
  simp only [text_list j, text_list k] at h2
  obtain ⟨hw, hr⟩ := split32 _ _ _ _ (look_no32 ⟨j, by omega⟩) (look_no32 ⟨k, by omega⟩) (rest_head _ _ _ _ _) (rest_head _ _ _ _ _) h2
  have hjk : j = k := by
    have := look_inj ⟨j, by omega⟩ ⟨k, by omega⟩ j1 k1 hw
    simpa using this
  subst hjk
  refine ⟨rfl, ?_⟩
  clear h h2 hw k1 k2
  by_cases h3 : j = 3
  · subst h3
    simp only [restL, if_pos, List.cons.injEq, true_and] at hr
    have hl : (byS (bareS 3 s)).data.toList.length = (byS (bareS 3 t)).data.toList.length := by cases s <;> cases t <;> rfl
    obtain ⟨e1, e2⟩ := List.append_inj hr hl
    simp only [List.cons.injEq, true_and] at e2
    refine ⟨hx_inj e2, ?_, by simp [bareC], by simp [bareN]⟩
    cases s <;> cases t <;> first | rfl | (exfalso; revert e1; decide)
  by_cases h12 : j = 12
  · subst h12
    have hcc : bareC 12 c = c := by simp [bareC]
    have hbb : bareC 12 b = b := by simp [bareC]
    simp only [restL, lookOf, hcc, hbb] at hr
    simp only [show ¬ (12 : Nat) = 3 by decide, if_false, if_true, List.cons.injEq, true_and, Bool.false_eq_true] at hr
    obtain ⟨e1, e2⟩ := hr
    have hcb : c = b := by
      have := congrArg UInt8.toNat e1
      simp at this
      omega
    subst hcb
    refine ⟨by simp [bareD], by simp [bareS], rfl, ?_⟩
    by_cases hv : c = 86
    · rw [if_pos hv, if_pos hv] at e2
      simp only [List.cons.injEq, true_and] at e2
      exact itoa_inj e2
    · simp [bareN, hv]
  · have hS : ∀ x, bareS j x = false := fun x => by simp [bareS, h3]
    have hC : ∀ x, bareC j x = 0 := fun x => by simp [bareC, h12]
    have hN : ∀ x y, bareN j x y = 0 := fun x y => by simp [bareN, h12]
    refine ⟨?_, by rw [hS, hS], by rw [hC, hC], by rw [hN, hN]⟩
    by_cases hd : (lookOf j).2 = true
    · unfold restL at hr
      rw [if_neg h3, if_pos hd, if_neg h3, if_pos hd] at hr
      simp only [List.cons.injEq, true_and] at hr
      exact hx_inj hr
    · have : ∀ x, bareD j x = ⟨#[]⟩ := fun x => by
        unfold bareD
        rw [if_pos]
        rcases (show j = 1 ∨ j = 2 ∨ j = 4 ∨ j = 5 ∨ j = 6 ∨ j = 7 ∨ j = 8 ∨ j = 9 ∨ j = 10 ∨ j = 11 by omega) with rfl | rfl | rfl | rfl | rfl | rfl | rfl | rfl | rfl | rfl <;> first | omega | (exact absurd rfl hd)
      rw [this, this]
end Go.Proofs.YtcepiapidcofiaaDoor.Ev
