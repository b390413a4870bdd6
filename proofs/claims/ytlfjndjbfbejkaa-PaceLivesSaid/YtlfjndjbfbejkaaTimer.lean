/-
  The five clocks: what a bank's memory holds, and the calls that neither tick nor look round.
-/
import Derived.Test.YtlfjndjbfbejkaaBase
import Derived.WalkLawsBesides
import Derived.Lib.Hide
import Derived.Laws.OwnMore
import Derived.Deep.Draws
import Derived.OwnWalk
import Derived.BigQuiet
import Derived.Deep.QuietTactic
import Derived.StillTailTactics
namespace Go.Proofs.Ytlfjndjbfbejkaa.Bank
open Go.RowKit

theorem below_drewN {B : Nat} {a w : World} (h : Below B a w) (n : Nat) : Below B a (w.drewN n) := h.trans ⟨rfl, rfl, rfl, Nat.le_refl _, fun _ _ => rfl⟩
def encN (L : List Nat) : List Value := L.map fun (n : Nat) => Value.int .i64 (n : Int)

/-- a bank at place 'off' of a block -/
structure BankAt (w : World) (B off : Nat) (pre post : List Value) (T : TypeId) (L : List Nat) : Prop where
  blk : w.heap[B]? = some (.cells (pre ++ (encN L ++ post)).toArray T (0, 0))
  at_ : pre.length = off
  len : L.length = 5
  top : ∀ i, L.getD i 0 ≤ 1048576

/-- all is as it was, but for one block, and what is new -/
structure Only (w w' : World) (B : Nat) : Prop where
  os : w'.os = w.os
  tape : w'.tape = w.tape
  output : w'.output = w.output
  size : w.heap.size ≤ w'.heap.size
  block : ∀ k, k < w.heap.size → k ≠ B → w'.heap[k]? = w.heap[k]?
theorem Only.refl (w : World) (B : Nat) : Only w w B := ⟨rfl, rfl, rfl, Nat.le_refl _, fun _ _ _ => rfl⟩
theorem Only.of_below {w w' : World} {B : Nat} (h : Below w.heap.size w w') : Only w w' B := ⟨h.os, h.tape, h.output, h.size, fun k hk _ => h.block k hk⟩
theorem Only.below {w0 w w' : World} {base B : Nat} (h : Only w w' B) (hb : Below base w0 w) (hs : base ≤ w.heap.size) (hB : base ≤ B) : Below base w0 w' :=
  hb.trans ⟨h.os, h.tape, h.output, h.size, fun k hk => h.block k (by omega) (by omega)⟩
theorem Only.trans {w w' w'' : World} {B : Nat} (h : Only w w' B) (k : Only w' w'' B) : Only w w'' B :=
  ⟨k.os.trans h.os, k.tape.trans h.tape, k.output.trans h.output, Nat.le_trans h.size k.size, fun j hj h1 => (k.block j (Nat.lt_of_lt_of_le hj h.size) h1).trans (h.block j hj h1)⟩
theorem Only.set (w : World) (B o : Nat) (v : Value) : Only w (w.setCell ⟨B, o, none⟩ v) B :=
  ⟨rfl, rfl, rfl, by simp, fun k _ h => heap_setCell_other _ _ _ _ h⟩
theorem Only.draw (w : World) (B n : Nat) : Only w (w.drewN n) B := ⟨rfl, rfl, rfl, Nat.le_refl _, fun _ _ _ => rfl⟩

section
variable {w w' : World} {B off : Nat} {pre post : List Value} {T : TypeId} {L : List Nat}
theorem BankAt.lt (h : BankAt w B off pre post T L) : B < w.heap.size := (Array.getElem?_eq_some_iff.1 h.blk).1
theorem BankAt.keep (h : BankAt w B off pre post T L) (hk : w'.heap[B]? = w.heap[B]?) : BankAt w' B off pre post T L := ⟨hk.trans h.blk, h.at_, h.len, h.top⟩
theorem BankAt.below (h : BankAt w B off pre post T L) (hb : Below w.heap.size w w') : BankAt w' B off pre post T L := h.keep (hb.block B h.lt)
theorem BankAt.only {B2 : Nat} (h : BankAt w B off pre post T L) (ho : Only w w' B2) (hn : B ≠ B2) : BankAt w' B off pre post T L := h.keep (ho.block B h.lt hn)
theorem BankAt.drewN (h : BankAt w B off pre post T L) (n : Nat) : BankAt (w.drewN n) B off pre post T L := h.keep rfl
theorem BankAt.cell (h : BankAt w B off pre post T L) {i : Nat} (hi : i < 5) : w.cell? ⟨B, off + i, none⟩ = some (.int .i64 ((L.getD i 0 : Nat) : Int)) := by
  rw [cell_of_row w B (off + i) _ _ (0, 0) h.blk]
  have h1 : i < L.length := by rw [h.len]; exact hi
  simp [← h.at_, List.getElem?_append, encN, h1, List.getD]
theorem BankAt.frozen (h : BankAt w B off pre post T L) (o : Nat) : w.frozen? ⟨B, o, none⟩ = false := frozen_of_row w B o _ _ h.blk
theorem set_mid (pre post : List Value) (L : List Nat) (i v : Nat) (hi : i < L.length) : (pre ++ (encN L ++ post)).toArray.setIfInBounds (pre.length + i) (.int .i64 (v : Int)) = (pre ++ (encN (L.set i v) ++ post)).toArray := by
  have h2 : (encN L).length = L.length := by simp [encN]
  rw [List.setIfInBounds_toArray, List.set_append, if_neg (by omega), show pre.length + i - pre.length = i from by omega, List.set_append, if_pos (by omega)]
  simp [encN, List.map_set]
theorem BankAt.set (h : BankAt w B off pre post T L) {i v : Nat} (hi : i < 5) (hv : v ≤ 1048576) : BankAt (w.setCell ⟨B, off + i, none⟩ (.int .i64 (v : Int))) B off pre post T (L.set i v) := by
  refine ⟨?_, h.at_, by rw [List.length_set]; exact h.len, fun j => ?_⟩
  · rw [heap_setCell_same _ _ _ _ _ _ h.blk, ← h.at_]
    rw [set_mid pre post L i v (by rw [h.len]; exact hi)]
  · have := h.top j
    simp only [List.getD, List.getElem?_set] at this ⊢
    split <;> (try split) <;> simp_all
theorem BankAt.set_eq (h : BankAt w B off pre post T L) {i v : Nat} {x : Int} (hi : i < 5) (hv : v ≤ 1048576) (hx : x = (v : Int)) : BankAt (w.setCell ⟨B, off + i, none⟩ (.int .i64 x)) B off pre post T (L.set i v) := by
  subst hx; exact h.set hi hv
end

theorem known_any (t : Int) (w : World) :
    Calls Try.prog 44 #[.int .i64 t] w fun e w' => e = .returned (.bool (decide (0 ≤ t ∧ t < 5))) ∧ w = w' := by
  by_cases h0 : 0 ≤ t
  · by_cases h5 : t < 5
    · rw [show decide (0 ≤ t ∧ t < 5) = true from decide_eq_true ⟨h0, h5⟩]
      go_enter Try.func44, Try.ntmps44
      go_wp2_with fail
      go_ret
      exact ⟨rfl, rfl⟩
    · rw [show decide (0 ≤ t ∧ t < 5) = false from decide_eq_false (fun h => h5 h.2)]
      go_enter Try.func44, Try.ntmps44
      go_wp2_with fail
      go_ret
      exact ⟨rfl, rfl⟩
  · rw [show decide (0 ≤ t ∧ t < 5) = false from decide_eq_false (fun h => h0 h.1)]
    go_enter Try.func44, Try.ntmps44
    go_wp2_with fail
    go_ret
    exact ⟨rfl, rfl⟩

def clampN (n : Int) : Nat := (min (max n 1) 1048576).toNat
def startL (L : List Nat) (t n : Int) : List Nat := if 0 ≤ t ∧ t < 5 then L.set t.toNat (clampN n) else L
def stopL (L : List Nat) (t : Int) : List Nat := if 0 ≤ t ∧ t < 5 then L.set t.toNat 0 else L
def leftL (L : List Nat) (t : Int) : Nat := if 0 ≤ t ∧ t < 5 then L.getD t.toNat 0 else 0

section
variable (B off : Nat) (pre post : List Value) (T : TypeId) (L : List Nat)
theorem start_any (t n : Int) (w : World) (h : BankAt w B off pre post T L) :
    Calls Try.prog 47 #[.pointer (some ⟨B, off, none⟩), .int .i64 t, .int .i64 n] w fun e w' => (∃ v, e = .returned v) ∧ BankAt w' B off pre post T (startL L t n) ∧ Only w w' B := by
  by_cases hk : 0 ≤ t ∧ t < 5
  · obtain ⟨j, rfl⟩ : ∃ j : Nat, t = (j : Int) := ⟨t.toNat, by omega⟩
    rw [show startL L (j : Int) n = L.set j (clampN n) from if_pos hk]
    have hj : j < 5 := by omega
    have hc := h.cell hj
    have hz := h.frozen (off + j)
    have hkd : decide (0 ≤ (j : Int) ∧ (j : Int) < 5) = true := decide_eq_true hk
    obtain ⟨c, hcc⟩ : ∃ c : Nat, min (max n 1) 1048576 = (c : Int) := ⟨(min (max n 1) 1048576).toNat, by omega⟩
    have hcl : clampN n = c := by unfold clampN; omega
    rw [hcl]
    have hc5 : c ≤ 1048576 := by omega
    have H := Lib.hid h
    have HC := Lib.hid hcc
    have hj5 : (j : Int) < 5 := by omega
    clear h hcc hcl hk
    go_enter Try.func47, Try.ntmps47
    go_wp2_with fail
    refine (known_any _ _).mono ?_; rintro e w' ⟨rfl, rfl⟩
    rw [hkd]
    go_wp2_with fail
    all_goals (try simp only [Exit.inBlock, Exit.then])
    all_goals refine bodyPost_end (results_none rfl _ _ _) rfl ?_
    all_goals exact ⟨⟨_, rfl⟩, H.out.set_eq hj hc5 (by have := HC.out; omega), Only.set _ _ _ _⟩
  · rw [show startL L t n = L from if_neg hk]
    have hkd : decide (0 ≤ t ∧ t < 5) = false := decide_eq_false hk
    go_enter Try.func47, Try.ntmps47
    go_wp2_with fail
    refine (known_any _ _).mono ?_; rintro e w' ⟨rfl, rfl⟩
    rw [hkd]
    go_wp2_with fail
    (try simp only [Exit.inBlock, Exit.then]); refine bodyPost_end (results_none rfl _ _ _) rfl ?_
    exact ⟨⟨_, rfl⟩, h, Only.refl _ _⟩

theorem stop_any (t : Int) (w : World) (h : BankAt w B off pre post T L) :
    Calls Try.prog 46 #[.pointer (some ⟨B, off, none⟩), .int .i64 t] w fun e w' => (∃ v, e = .returned v) ∧ BankAt w' B off pre post T (stopL L t) ∧ Only w w' B := by
  by_cases hk : 0 ≤ t ∧ t < 5
  · obtain ⟨j, rfl⟩ : ∃ j : Nat, t = (j : Int) := ⟨t.toNat, by omega⟩
    rw [show stopL L (j : Int) = L.set j 0 from if_pos hk]
    have hj : j < 5 := by omega
    have hc := h.cell hj
    have hz := h.frozen (off + j)
    have hkd : decide (0 ≤ (j : Int) ∧ (j : Int) < 5) = true := decide_eq_true hk
    have H := Lib.hid h
    have hj5 : (j : Int) < 5 := by omega
    clear h hk
    go_enter Try.func46, Try.ntmps46
    go_wp2_with fail
    refine (known_any _ _).mono ?_; rintro e w' ⟨rfl, rfl⟩
    rw [hkd]
    go_wp2_with fail
    (try simp only [Exit.inBlock, Exit.then]); refine bodyPost_end (results_none rfl _ _ _) rfl ?_
    exact ⟨⟨_, rfl⟩, H.out.set_eq hj (by omega) rfl, Only.set _ _ _ _⟩
  · rw [show stopL L t = L from if_neg hk]
    have hkd : decide (0 ≤ t ∧ t < 5) = false := decide_eq_false hk
    go_enter Try.func46, Try.ntmps46
    go_wp2_with fail
    refine (known_any _ _).mono ?_; rintro e w' ⟨rfl, rfl⟩
    rw [hkd]
    go_wp2_with fail
    (try simp only [Exit.inBlock, Exit.then]); refine bodyPost_end (results_none rfl _ _ _) rfl ?_
    exact ⟨⟨_, rfl⟩, h, Only.refl _ _⟩

theorem left_any (t : Int) (w : World) (h : BankAt w B off pre post T L) :
    Calls Try.prog 24 #[.pointer (some ⟨B, off, none⟩), .int .i64 t] w fun e w' => e = .returned (.int .i64 (leftL L t : Nat)) ∧ w = w' := by
  by_cases hk : 0 ≤ t ∧ t < 5
  · obtain ⟨j, rfl⟩ : ∃ j : Nat, t = (j : Int) := ⟨t.toNat, by omega⟩
    rw [show leftL L (j : Int) = L.getD j 0 from if_pos hk]
    have hj : j < 5 := by omega
    have hc := h.cell hj
    have hkd : decide (0 ≤ (j : Int) ∧ (j : Int) < 5) = true := decide_eq_true hk
    have hj5 : (j : Int) < 5 := by omega
    generalize L.getD j 0 = x at *
    clear h hk
    go_enter Try.func24, Try.ntmps24
    go_wp2_with fail
    refine (known_any _ _).mono ?_; rintro e w' ⟨rfl, rfl⟩
    rw [hkd]
    go_wp2_with fail
    go_ret
    exact ⟨rfl, rfl⟩
  · rw [show leftL L t = 0 from if_neg hk]
    have hkd : decide (0 ≤ t ∧ t < 5) = false := decide_eq_false hk
    go_enter Try.func24, Try.ntmps24
    go_wp2_with fail
    refine (known_any _ _).mono ?_; rintro e w' ⟨rfl, rfl⟩
    rw [hkd]
    go_wp2_with fail
    go_ret
    exact ⟨rfl, rfl⟩

theorem runs_any (t : Int) (w : World) (h : BankAt w B off pre post T L) :
    Calls Try.prog 17 #[.pointer (some ⟨B, off, none⟩), .int .i64 t] w fun e w' => e = .returned (.bool (decide (0 < leftL L t))) ∧ w = w' := by
  go_enter Try.func17, Try.ntmps17
  go_wp2_with fail
  refine (left_any B off pre post T L t _ h).mono ?_; rintro e w' ⟨rfl, rfl⟩
  by_cases hp : 0 < leftL L t
  · have hd : decide ((0 : Int) < (leftL L t : Int)) = true := decide_eq_true (by omega)
    go_wp2_with fail
    go_ret
    exact ⟨by simp [hp], rfl⟩
  · have hd : decide ((0 : Int) < (leftL L t : Int)) = false := decide_eq_false (by omega)
    go_wp2_with fail
    go_ret
    exact ⟨by simp [hp], rfl⟩

def zeroL : List Nat := [0, 0, 0, 0, 0]
theorem five_of {L : List Nat} (h : L.length = 5) : ∃ a b c d e, L = [a, b, c, d, e] := by
  match L, h with
  | [a, b, c, d, e], _ => exact ⟨a, b, c, d, e, rfl⟩
end
end Go.Proofs.Ytlfjndjbfbejkaa.Bank
