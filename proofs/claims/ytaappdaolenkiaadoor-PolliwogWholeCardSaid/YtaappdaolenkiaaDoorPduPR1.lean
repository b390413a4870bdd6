/-
  The document's own words on units: what is read of a text's words, counted from behind.
-/
import Derived.Test.YtaappdaolenkiaaDoorPduTurn
namespace Go.Proofs.YtaappdaolenkiaaDoor.Pdu
open Go.ChangeShapes Go.WideShapes Go.RowKit Own

/-- the j-th word from behind -/
def wd (s : ByteArray) (j : Nat) : Int := (word4 ((s.data.toList.drop (s.size - 4 - 4 * j)).take 4) : Nat)
theorem extract_self (s : ByteArray) (n : Nat) (h : s.size ≤ n) : s.extract 0 n = s := by
  apply str_ext
  rw [extract_list, List.take_of_length_le (by simpa using h)]
theorem size_cut (s : ByteArray) (n : Nat) (h : n ≤ s.size) : (s.extract 0 n).size = n := by rw [ByteArray.size_extract]; omega
theorem cut_cut (s : ByteArray) (n m : Nat) (h : m ≤ n) : (s.extract 0 n).extract 0 m = s.extract 0 m := by
  apply str_ext
  rw [extract_list, extract_list, extract_list, List.take_take, Nat.min_eq_left h]
theorem take_at (s : ByteArray) (j : Nat) (b : Bool) (h : 4 * (j + 1) ≤ s.size) : takeW (s.extract 0 (s.size - 4 * j), b) = (wd s j, (s.extract 0 (s.size - 4 * (j + 1)), b)) := by
  have hs := size_cut s (s.size - 4 * j) (by omega)
  unfold takeW
  dsimp only
  rw [hs, if_neg (by omega), cut_cut _ _ _ (by omega), extract_list, List.drop_take]
  rw [show s.size - 4 * j - (s.size - 4 * j - 4) = 4 from by omega, show s.size - 4 * j - 4 = s.size - 4 - 4 * j from by omega, show s.size - 4 - 4 * j = s.size - 4 * (j + 1) from by omega]
  unfold wd
  rw [show s.size - 4 - 4 * j = s.size - 4 * (j + 1) from by omega]
theorem take_none (s : ByteArray) (n : Nat) (b : Bool) (h : n < 4) : takeW (s.extract 0 n, b) = (0, (s.extract 0 n, true)) := by
  unfold takeW
  rw [if_pos (by rw [ByteArray.size_extract]; omega)]
theorem takeW_wants (st : St) (h : st.2 = true) : (takeW st).2.2 = true := by
  unfold takeW; split <;> simp [h]
theorem takeN_wants (n : Nat) (st : St) (h : st.2 = true) : (takeN n st).2.2 = true := by
  induction n with
  | zero => exact h
  | succ n ih => rw [takeN]; exact takeW_wants _ ih
theorem takeN_at (s : ByteArray) (j : Nat) : ∀ n, 4 * (j + n) ≤ s.size → takeN n (s.extract 0 (s.size - 4 * j), false) = ((List.range n).map (fun i => wd s (j + i)), (s.extract 0 (s.size - 4 * (j + n)), false))
  | 0, _ => rfl
  | n + 1, h => by
    rw [takeN, takeN_at s j n (by omega)]
    dsimp only
    rw [take_at s (j + n) false (by omega), List.range_succ, List.map_append]
    rfl
theorem last_at (s : ByteArray) (h : 4 ≤ s.size) : takeW (s, false) = (wd s 0, (s.extract 0 (s.size - 4), false)) := by
  have := take_at s 0 false (by omega)
  rw [Nat.mul_zero, Nat.sub_zero, extract_self s _ (Nat.le_refl _)] at this
  exact this
def needN (k : Nat) : Nat := if k = 11 then 3 else if k = 12 then 4 else if hasSQ (k : Int) = true ∨ k = 10 then 2 else 1
def listR (s : ByteArray) (m : Nat) : List Int := (List.range m).map fun i => wd s (s.size / 4 - 1 - i)
theorem listR_succ (s : ByteArray) (m : Nat) : listR s m ++ [wd s (s.size / 4 - 1 - m)] = listR s (m + 1) := by unfold listR; rw [List.range_succ, List.map_append]; rfl
theorem listR_len (s : ByteArray) (m : Nat) : (listR s m).length = m := by simp [listR]
def restN (s : ByteArray) (k : Nat) : Nat := if k = 11 then 0 else 4 * (s.size / 4 - needN k)
def sqR (s : ByteArray) (k : Nat) : Int := if hasSQ (k : Int) = true then wd s 1 else 0
def psR (s : ByteArray) (k : Nat) : Int := if k = 10 then wd s 1 else if k = 11 then wd s 2 else 0
def mrR (s : ByteArray) (k : Nat) : Int := if k = 11 ∨ k = 12 then wd s 1 else 0
def lstR (s : ByteArray) (k : Nat) : List Int := if k = 11 then listR s (s.size / 4 - 3) else if k = 12 then [wd s 3, wd s 2] else []
theorem rev_list (s : ByteArray) (h : 12 ≤ s.size) : ((List.range (s.size / 4 - 3)).map (fun i => wd s (3 + i))).reverse = listR s (s.size / 4 - 3) := by
  apply List.ext_getElem
  · simp [listR]
  · intro i h1 h2
    rw [List.getElem_reverse]
    simp only [listR, List.getElem_map, List.getElem_range, List.length_map, List.length_range]
    rw [listR_len] at h2
    congr 1
    omega
theorem wd_bounds (s : ByteArray) (j : Nat) (h : 4 * (j + 1) ≤ s.size) : 0 ≤ wd s j ∧ wd s j ≤ 4294967295 := by
  have := takeW_bounds (s.extract 0 (s.size - 4 * j), false)
  rw [take_at s j false h] at this
  exact this
/-- too few words: one is asked for that is not there -/
theorem got_few (s : ByteArray) (k : Nat) (h1 : 1 ≤ k) (h2 : k ≤ 15) (h4 : s.size % 4 = 0) (h0 : 4 ≤ s.size) (h : s.size / 4 < needN k) : (gotU k (takeW (s, false)).2).rest.2 = true := by
  rw [last_at s h0]
  have t1 : s.size / 4 = 1 → takeW (s.extract 0 (s.size - 4), false) = (0, (s.extract 0 (s.size - 4), true)) := fun e => take_none s _ _ (by omega)
  have t2 : 2 ≤ s.size / 4 → takeW (s.extract 0 (s.size - 4), false) = (wd s 1, (s.extract 0 (s.size - 8), false)) := fun e => take_at s 1 false (by omega)
  have hn : needN k ≤ 4 := by unfold needN; split <;> (try split) <;> (try split) <;> omega
  by_cases k8 : k = 8 ∨ k = 13 ∨ k = 14
  · rcases k8 with rfl | rfl | rfl <;> exact absurd h (by simp [needN, hasSQ, inB]; omega)
  by_cases k11 : k = 11
  · subst k11
    show (gotB _).rest.2 = true
    unfold gotB
    dsimp only
    have hw : s.size / 4 < 3 := h
    apply takeN_wants
    by_cases e : s.size / 4 = 1
    · rw [t1 e]; exact takeW_wants _ rfl
    · rw [t2 (by omega)]
      have := take_none s (s.size - 8) false (by omega)
      rw [this]
  by_cases k12 : k = 12
  · subst k12
    show (gotM _).rest.2 = true
    unfold gotM
    dsimp only
    have hw : s.size / 4 < 4 := h
    by_cases e : s.size / 4 = 1
    · rw [t1 e]; exact takeN_wants _ _ rfl
    · rw [t2 (by omega)]
      dsimp only
      rw [takeN, takeN]
      by_cases e2 : s.size / 4 = 2
      · apply takeW_wants
        rw [takeN, take_none s (s.size - 8) false (by omega)]
      · have := take_at s 2 false (by omega)
        rw [takeN, show s.size - 8 = s.size - 4 * 2 from rfl, this]
        dsimp only
        rw [take_none s _ false (by omega)]
  have hw : s.size / 4 = 1 := by
    have : needN k ≤ 2 := by unfold needN; rw [if_neg k11, if_neg k12]; split <;> omega
    omega
  by_cases k10 : k = 10
  · subst k10
    show (gotP _).rest.2 = true
    unfold gotP
    dsimp only
    rw [t1 hw]
  · unfold gotU
    rw [if_neg k8, if_neg k10, if_neg k11, if_neg k12]
    unfold gotS
    dsimp only
    rw [t1 hw]
/-- words enough: what is read of them -/
theorem got_all (s : ByteArray) (k : Nat) (h1 : 1 ≤ k) (h2 : k ≤ 15) (h4 : s.size % 4 = 0) (h0 : 4 ≤ s.size) (h : needN k ≤ s.size / 4) :
    gotU k (takeW (s, false)).2 = ⟨sqR s k, psR s k, mrR s k, lstR s k, (s.extract 0 (restN s k), false)⟩ := by
  rw [last_at s h0]
  have t2 : 2 ≤ s.size / 4 → takeW (s.extract 0 (s.size - 4), false) = (wd s 1, (s.extract 0 (s.size - 8), false)) := fun e => take_at s 1 false (by omega)
  have t3 : 3 ≤ s.size / 4 → takeW (s.extract 0 (s.size - 8), false) = (wd s 2, (s.extract 0 (s.size - 12), false)) := fun e => take_at s 2 false (by omega)
  match k, h1, h2, h with
  | 1, _, _, h | 2, _, _, h | 3, _, _, h | 4, _, _, h | 5, _, _, h | 6, _, _, h | 7, _, _, h | 9, _, _, h | 15, _, _, h =>
    show gotS _ = _
    unfold gotS
    have h' : 2 ≤ s.size / 4 := h
    rw [t2 h']
    have e : s.size - 8 = 4 * (s.size / 4 - 2) := by omega
    rw [e]
    rfl
  | 8, _, _, h | 13, _, _, h | 14, _, _, h =>
    show gotO _ = _
    unfold gotO
    have e : s.size - 4 = 4 * (s.size / 4 - 1) := by omega
    rw [e]
    rfl
  | 10, _, _, h =>
    show gotP _ = _
    unfold gotP
    have h' : 2 ≤ s.size / 4 := h
    rw [t2 h']
    have e : s.size - 8 = 4 * (s.size / 4 - 2) := by omega
    rw [e]
    rfl
  | 11, _, _, h =>
    show gotB _ = _
    unfold gotB
    have h' : 3 ≤ s.size / 4 := h
    rw [t2 (by omega)]
    dsimp only
    rw [t3 h']
    dsimp only
    have e : (s.extract 0 (s.size - 12)).size / 4 = s.size / 4 - 3 := by rw [size_cut _ _ (by omega)]; omega
    have tn := takeN_at s 3 (s.size / 4 - 3) (by omega)
    have e2 : s.size - 4 * (3 + (s.size / 4 - 3)) = 0 := by omega
    rw [e2] at tn
    rw [e, show s.size - 12 = s.size - 4 * 3 from rfl, tn]
    dsimp only
    rw [rev_list s (by omega)]
    rfl
  | 12, _, _, h =>
    show gotM _ = _
    unfold gotM
    have h' : 4 ≤ s.size / 4 := h
    rw [t2 (by omega)]
    dsimp only
    have tn := takeN_at s 2 2 (by omega)
    rw [show s.size - 8 = s.size - 4 * 2 from rfl, tn]
    have e : s.size - 4 * (2 + 2) = 4 * (s.size / 4 - 4) := by omega
    rw [e]
    rfl
  | k + 16, _, h2, _ => exact absurd h2 (by omega)
def unitR (s : ByteArray) (k : Nat) (sf : Bool) (pd : Nat) : U := ⟨k, sqR s k, nP s, psR s k, mrR s k, lstR s k, sf, s.extract 0 (restN s k - pd)⟩
theorem restN_le (s : ByteArray) (k : Nat) : restN s k ≤ s.size := by unfold restN; split <;> omega
theorem unit_R (s : ByteArray) (h4 : s.size % 4 = 0) (h0 : 4 ≤ s.size) (hk : 1 ≤ kindP s) (h : needN (kindP s) ≤ s.size / 4) : unitP s = unitR s (kindP s) (selfP s) (padP s) := by
  have h2 := (word_facts s).2.2.2.1
  unfold unitP gotP'
  rw [got_all s _ hk h2 h4 h0 h]
  unfold unitR
  dsimp only
  rw [size_cut _ _ (restN_le s _), cut_cut _ _ _ (by omega)]
theorem code_R (s : ByteArray) (h4 : s.size % 4 = 0) (h0 : 4 ≤ s.size) (hk : 1 ≤ kindP s) : codeP s = if s.size / 4 < needN (kindP s) then 5 else if restN s (kindP s) < padP s then 5 else
    if checkU (unitR s (kindP s) (selfP s) (padP s)) = 6 then 6 else if bytesU (unitR s (kindP s) (selfP s) (padP s)) ≠ s then 3 else 0 := by
  have h2 := (word_facts s).2.2.2.1
  by_cases h : s.size / 4 < needN (kindP s)
  · rw [if_pos h]
    unfold codeP gotP'
    rw [if_neg (by omega), if_neg (by omega), got_few s _ hk h2 h4 h0 h]
    simp
  · rw [if_neg h]
    have hu := unit_R s h4 h0 hk (by omega)
    rw [← hu]
    unfold codeP
    rw [if_neg (by omega), if_neg (by omega)]
    have hg : (gotP' s).rest = (s.extract 0 (restN s (kindP s)), false) := by unfold gotP'; rw [got_all s _ hk h2 h4 h0 (by omega)]
    rw [hg]
    dsimp only
    rw [size_cut _ _ (restN_le s _)]
    simp
end Go.Proofs.YtaappdaolenkiaaDoor.Pdu
