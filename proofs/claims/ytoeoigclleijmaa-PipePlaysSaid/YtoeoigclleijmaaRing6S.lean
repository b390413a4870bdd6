/-
  What is taken from a row; a row that is cleared; one just like it.
-/
import Derived.Test.YtoeoigclleijmaaRing4S
import Derived.Deep.RegionWith
namespace Go.Proofs.Ytoeoigclleijmaa.RingS
open Go.RowKit

theorem first_lt {W : World} {R most n first : Nat} {G : Option Nat} {P : Option Addr} {x : V} {L : List V} {cur : List Value} (h : RingAt W R most (x :: L) G P n first cur) : first < n := by
  have := h.len
  simp only [List.length_cons] at this
  rcases h.fst with h | h <;> omega
theorem ring_zero {W : World} {R most n first g : Nat} {x : V} {L : List V} {cur : List Value} (h : RingAt W R most (x :: L) (some g) (some ⟨g, 0, none⟩) n first cur) (hg : g ≠ R) :
    RingAt (W.setCell ⟨g, first, none⟩ (enc zero)) R most (zero :: L) (some g) (some ⟨g, 0, none⟩) n first (cur.set first (enc zero)) := by
  have hf := first_lt h
  have hl := h.len
  simp only [List.length_cons] at hl
  refine ⟨(heap_setCell_other _ _ _ _ (show R ≠ g from fun e => hg e.symm)).trans h.blk, ⟨by rw [List.length_set]; exact h.pl.1, .inr ⟨g, rfl, rfl, ?_⟩⟩, h.len, h.cap, h.top, h.fst, ?_⟩
  · rw [heap_setCell_same _ _ _ _ _ _ (ring_row h)]
    simp
  · intro i hi
    simp only [List.length_cons] at hi
    cases i with
    | zero =>
      rw [Nat.add_zero, Nat.mod_eq_of_lt hf, List.getElem?_set_self (by rw [h.pl.1]; exact hf)]
      rfl
    | succ i =>
      have hne : first ≠ (first + (i + 1)) % n := by
        by_cases h1 : first + (i + 1) < n
        · rw [Nat.mod_eq_of_lt h1]; omega
        · rw [Nat.mod_eq_sub_mod (by omega), Nat.mod_eq_of_lt (by omega)]; omega
      rw [List.getElem?_set_ne hne, h.hold (i + 1) (by simp only [List.length_cons]; omega)]
      rfl
theorem ring_take {W : World} {R most n first g : Nat} {x : V} {L : List V} {cur : List Value} (h : RingAt W R most (x :: L) (some g) (some ⟨g, 0, none⟩) n first cur) (m : Nat) (hm : (first + 1) % n = m) (hg : g ≠ R) :
    RingAt ((W.setCell ⟨R, 2, none⟩ (.int .i64 (m : Int))).setCell ⟨R, 3, none⟩ (.int .i64 (L.length : Int))) R most L (some g) (some ⟨g, 0, none⟩) n m cur := by
  have hf := first_lt h
  have hl := h.len
  simp only [List.length_cons] at hl
  refine ⟨?_, ⟨h.pl.1, .inr ⟨g, rfl, rfl, ?_⟩⟩, by omega, h.cap, h.top, .inl (by rw [← hm]; exact Nat.mod_lt _ (by omega)), ?_⟩
  · rw [heap_setCell_same _ _ _ _ _ _ (heap_setCell_same _ _ _ _ _ _ h.blk)]
    rfl
  · rw [heap_setCell_other _ _ _ _ (show g ≠ R from hg), heap_setCell_other _ _ _ _ (show g ≠ R from hg)]
    exact ring_row h
  · intro i hi
    have h1 := h.hold (i + 1) (by simp only [List.length_cons]; omega)
    rw [← hm, Nat.mod_add_mod, show first + 1 + i = first + (i + 1) from by omega, h1]
    rfl
theorem only_take {w W : World} {R : Nat} {g : Nat} (h : Only w W R (some g)) (p : Nat) (u : Value) : Only w (W.setCell ⟨g, p, none⟩ u) R (some g) :=
  ⟨h.os, h.tape, h.output, by simpa using h.size, fun k hk h1 h2 => (heap_setCell_other _ _ _ _ (fun e => h2 (by rw [e]))).trans (h.block k hk h1 h2)⟩
theorem only_ring {w W : World} {R : Nat} {G : Option Nat} (h : Only w W R G) (p : Nat) (u : Value) : Only w (W.setCell ⟨R, p, none⟩ u) R G :=
  ⟨h.os, h.tape, h.output, by simpa using h.size, fun k hk h1 h2 => (heap_setCell_other _ _ _ _ h1).trans (h.block k hk h1 h2)⟩
theorem Only.drewN' {w W : World} {R : Nat} {G : Option Nat} (h : Only w W R G) (q : Nat) : Only w (W.drewN q) R G := ⟨h.os, h.tape, h.output, h.size, h.block⟩

set_option maxHeartbeats 2000000 in
theorem take_any (R most : Nat) (L : List V) (G : Option Nat) (w : World) (h : Ring w R most L G) :
    Calls Try.prog 20 #[.pointer (some ⟨R, 0, none⟩)] w fun e w' => e = .returned (.tuple #[enc (headRow L), .int .i64 (noneCode L)]) ∧ Ring w' R most L.tail G ∧ Only w w' R G := by
  go_enter Try.func20, Try.ntmps20
  go_wp2_with fail
  refine (first_any R most L G w h).mono ?_; rintro e w' ⟨rfl, q, rfl⟩
  cases L with
  | nil =>
    have e1 : noneCode ([] : List V) = 9 := rfl
    rw [e1]
    go_wp2_with fail
    go_ret2
    exact ⟨rfl, h.below (below_drewN (Below.refl _ _) _), Only.of_below (below_drewN (Below.refl _ _) _)⟩
  | cons x L =>
    have e1 : noneCode (x :: L) = 0 := rfl
    have e2 : headRow (x :: L) = x := rfl
    rw [e1, e2]
    have hO : Only w (w.drewN q) R G := Only.of_below (below_drewN (Below.refl _ _) _)
    have hb : Below w.heap.size w (w.drewN q) := below_drewN (Below.refl _ _) _
    generalize w.drewN q = W at *
    obtain ⟨P, n, first, cur, h⟩ := h
    have HR := Lib.hid (h.below hb)
    have HO := Lib.hid hO
    have hl := h.len
    simp only [List.length_cons] at hl
    have hc := h.cap
    have ht := h.top
    have hf := first_lt h
    clear h hb hO
    rcases HR.out.pl.2 with ⟨_, _, h9⟩ | ⟨g, rfl, rfl, hg⟩
    · omega
    obtain ⟨h0, h1, h2, h3, hz⟩ := HR.out.cells
    have hz2 := hz 2
    have hz3 := hz 3
    have hgR : g ≠ R := fun e => HR.out.ne (by rw [e])
    have hRg : R ≠ g := fun e => hgR e.symm
    obtain ⟨u5, hu5⟩ : ∃ u, W.cell? ⟨g, first, none⟩ = some u := ⟨_, row_cell hg first _ (List.getElem?_eq_getElem (by rw [HR.out.pl.1]; omega))⟩
    have hfz := frozen_of_row W g first _ _ hg
    have hf0 : (0 : Int) ≤ (first : Int) := by omega
    have hf1 : (first : Int) < (n : Int) := by omega
    obtain ⟨m, hm⟩ : ∃ m, (first + 1) % n = m := ⟨_, rfl⟩
    have HM := Lib.hid hm
    have hw1 : IntKind.i64.wrap ((L.length : Int) + 1 - 1) = (L.length : Int) := by rw [IntKind.wrap_i64]; omega
    have hlc : (((x :: L).length : Nat) : Int) = (L.length : Int) + 1 := by simp
    rw [hlc] at h3
    clear hm hg hz
    go_wp2_with fail
    go_still_tail 10, (by kernel_rfl)
    change wpList _ _ _ _ _ W.drew
    have HR6 := Lib.hid ((ring_zero HR.out hgR).drewN 1)
    have HO6 := Lib.hid ((only_take HO.out first (enc zero)).drewN' 1)
    go_wp2_with fail
    change Calls _ _ _ ((W.setCell ⟨g, first, none⟩ (enc zero)).drewN 1) _
    clear h0 h1 h2 h3 hu5 hfz hz2 hz3
    generalize (W.setCell ⟨g, first, none⟩ (enc zero)).drewN 1 = W6 at *
    obtain ⟨h0, h1, h2, h3, hz⟩ := HR6.out.cells
    have hz2 := hz 2
    have hz3 := hz 3
    have hlc : (((zero :: L).length : Nat) : Int) = (L.length : Int) + 1 := by simp
    rw [hlc] at h3
    clear hz
    refine (place_at R most (zero :: L) _ _ n first m _ 1 _ HM.out HR6.out (by omega) (by omega)).mono ?_; rintro e w' ⟨rfl, q2, rfl⟩
    go_wp2_with fail
    go_ret2
    exact ⟨rfl, ⟨_, _, _, _, ring_take (HR6.out.drewN _) m HM.out hgR⟩, only_ring (only_ring (HO6.out.drewN' _) _ _) _ _⟩

end Go.Proofs.Ytoeoigclleijmaa.RingS
