/-
  What stands in a row: the i-th one, the first one.
-/
import Derived.Test.YtoeoigclleijmaaRing3S
namespace Go.Proofs.Ytoeoigclleijmaa.RingS
open Go.RowKit

def inRow (L : List V) (i : Int) : Bool := decide (0 ≤ i ∧ i < (L.length : Int))
def atRow (L : List V) (i : Int) : V := if 0 ≤ i ∧ i < (L.length : Int) then L.getD i.toNat zero else zero

theorem place_at (R most : Nat) (L : List V) (G : Option Nat) (P : Option Addr) (n first m : Nat) (cur : List Value) (i : Nat) (w : World) (hm : (first + i) % n = m) (h : RingAt w R most L G P n first cur) (hn : 0 < n) (hi : i ≤ 4096) :
    Calls Try.prog 25 #[.pointer (some ⟨R, 0, none⟩), .int .i64 (i : Int)] w fun e w' => e = .returned (.int .i64 (m : Int)) ∧ ∃ q, w' = w.drewN q := by
  subst hm
  exact place_any R most L G P n first cur i w h hn hi
theorem RingAt.drewN {w : World} {R most n first : Nat} {L : List V} {G : Option Nat} {P : Option Addr} {cur : List Value} (h : RingAt w R most L G P n first cur) (q : Nat) : RingAt (w.drewN q) R most L G P n first cur := h.below (below_drewN (Below.refl _ _) q)

set_option maxHeartbeats 1000000 in
theorem at_any (R most : Nat) (L : List V) (G : Option Nat) (i : Int) (w : World) (h : Ring w R most L G) :
    Calls Try.prog 28 #[.pointer (some ⟨R, 0, none⟩), .int .i64 i] w fun e w' => e = .returned (.tuple #[enc (atRow L i), .bool (inRow L i)]) ∧ ∃ q, w' = w.drewN q := by
  obtain ⟨P, n, first, cur, h⟩ := h
  obtain ⟨h0, h1, h2, h3, _⟩ := h.cells
  have hl := h.len
  have hc := h.cap
  have ht := h.top
  have HR := Lib.hid h
  by_cases hi : 0 ≤ i ∧ i < (L.length : Int)
  · rw [show inRow L i = true from decide_eq_true hi, show atRow L i = L.getD i.toNat zero from if_pos hi]
    obtain ⟨j, rfl⟩ : ∃ j : Nat, i = (j : Int) := ⟨i.toNat, by omega⟩
    obtain ⟨hi1, hi2⟩ := hi
    rw [Int.toNat_natCast]
    have hj : j < L.length := by omega
    have hn : 0 < n := by omega
    have hv := h.hold j hj
    rcases h.pl.2 with ⟨_, _, h9⟩ | ⟨g, rfl, rfl, hg⟩
    · omega
    obtain ⟨m, hm⟩ : ∃ m, (first + j) % n = m := ⟨_, rfl⟩
    have hmn : m < n := by rw [← hm]; exact Nat.mod_lt _ hn
    rw [hm] at hv
    obtain ⟨x, hx⟩ : ∃ x, L.getD j zero = x := ⟨_, rfl⟩
    rw [hx] at hv ⊢
    clear hx
    have hcell := row_cell hg _ _ hv
    have hd1 : decide ((j : Int) < 0) = false := decide_eq_false (by omega)
    have hd2 : decide ((L.length : Int) ≤ (j : Int)) = false := decide_eq_false (by omega)
    have hd3 : decide (L.length ≤ j) = false := decide_eq_false (by omega)
    have hm0 : (0 : Int) ≤ (m : Int) := by omega
    have hm3 : (m : Int) < (n : Int) := by omega
    have HM := Lib.hid hm
    clear h hm hv hg hi1 hi2
    go_enter Try.func28, Try.ntmps28
    go_wp2_with fail
    go_quiet (refine Calls.quiet_of (place_at R most L _ _ n first m cur j _ HM.out (HR.out.drewN _) hn (by omega)))
    go_wp2_with fail
    go_ret2
    exact ⟨rfl, _, rfl⟩
  · rw [show inRow L i = false from decide_eq_false hi, show atRow L i = zero from if_neg hi]
    by_cases hi2 : i < 0
    · have hd1 : decide (i < 0) = true := decide_eq_true hi2
      go_enter Try.func28, Try.ntmps28
      go_wp2_with fail
      go_ret2
      exact ⟨rfl, 0, rfl⟩
    · have hd1 : decide (i < 0) = false := decide_eq_false hi2
      have hi3 : (L.length : Int) ≤ i := by omega
      have hd2 : decide ((L.length : Int) ≤ i) = true := decide_eq_true hi3
      go_enter Try.func28, Try.ntmps28
      go_wp2_with fail
      go_ret2
      exact ⟨rfl, 0, rfl⟩

def headRow (L : List V) : V := L.headD zero
def noneCode (L : List V) : Int := if L = [] then 9 else 0
theorem first_any (R most : Nat) (L : List V) (G : Option Nat) (w : World) (h : Ring w R most L G) :
    Calls Try.prog 24 #[.pointer (some ⟨R, 0, none⟩)] w fun e w' => e = .returned (.tuple #[enc (headRow L), .int .i64 (noneCode L)]) ∧ ∃ q, w' = w.drewN q := by
  go_enter Try.func24, Try.ntmps24
  go_wp2_with fail
  refine (at_any R most L G 0 w h).mono ?_; rintro e w' ⟨rfl, q, rfl⟩
  cases L with
  | nil =>
    have e1 : inRow ([] : List V) 0 = false := rfl
    have e2 : atRow ([] : List V) 0 = zero := rfl
    rw [e1, e2]
    go_wp2_with fail
    go_ret2
    exact ⟨rfl, _, rfl⟩
  | cons x L =>
    have e1 : inRow (x :: L) 0 = true := decide_eq_true ⟨Int.le_refl _, by simp only [List.length_cons]; omega⟩
    have e2 : atRow (x :: L) 0 = x := by
      rw [atRow, if_pos ⟨Int.le_refl _, by simp only [List.length_cons]; omega⟩]
      rfl
    rw [e1, e2]
    go_wp2_with fail
    go_ret2
    exact ⟨by rw [noneCode, if_neg (by simp)]; rfl, _, rfl⟩
end Go.Proofs.Ytoeoigclleijmaa.RingS
