/-
  What is put into a row, and what is taken.
-/
import Derived.Test.YtoeoigclleijmaaRing4S
import Derived.Deep.RegionWith
namespace Go.Proofs.Ytoeoigclleijmaa.RingS
open Go.RowKit

theorem mod2 (a n : Nat) (h : a < 2 * n) : a % n = if a < n then a else a - n := by
  by_cases h1 : a < n
  · rw [if_pos h1, Nat.mod_eq_of_lt h1]
  · rw [if_neg h1, Nat.mod_eq_sub_mod (by omega), Nat.mod_eq_of_lt (by omega)]
theorem hold_put {cur : List Value} {n first : Nat} {L : List V} (h : Hold cur n first L) (hf : first < n) (hl : L.length < n) (hc : cur.length = n) (v : V) : Hold (cur.set ((first + L.length) % n) (enc v)) n first (L ++ [v]) := by
  intro i hi
  rw [List.length_append] at hi
  simp only [List.length_singleton] at hi
  have hm : (first + L.length) % n < n := Nat.mod_lt _ (by omega)
  by_cases hi2 : i = L.length
  · subst hi2
    rw [List.getElem?_set_self (by omega)]
    simp [List.getD]
  · have hne : (first + L.length) % n ≠ (first + i) % n := by
      rw [mod2 _ _ (by omega), mod2 _ _ (by omega)]
      split <;> split <;> omega
    rw [List.getElem?_set_ne hne, h i (by omega)]
    simp [List.getD, List.getElem?_append_left (show i < L.length from by omega)]

theorem Only.weaken {w w' : World} {R : Nat} (h : Only w w' R none) (G : Option Nat) : Only w w' R G :=
  ⟨h.os, h.tape, h.output, h.size, fun k hk h1 _ => h.block k hk h1 (by simp)⟩

theorem ring_put {W : World} {R most n first g : Nat} {L : List V} {cur : List Value} (h : RingAt W R most L (some g) (some ⟨g, 0, none⟩) n first cur) (hL : L.length < n) (m : Nat) (hm : (first + L.length) % n = m) (v : V) (hg : g ≠ R) :
    RingAt ((W.setCell ⟨g, m, none⟩ (enc v)).setCell ⟨R, 3, none⟩ (.int .i64 ((L.length : Int) + 1))) R most (L ++ [v]) (some g) (some ⟨g, 0, none⟩) n first (cur.set m (enc v)) := by
  have hf : first < n := by rcases h.fst with h | h <;> omega
  refine ⟨?_, ⟨by rw [List.length_set]; exact h.pl.1, .inr ⟨g, rfl, rfl, ?_⟩⟩, by rw [List.length_append]; simp only [List.length_singleton]; omega, h.cap, h.top, h.fst, ?_⟩
  · have h1 : (W.setCell ⟨g, m, none⟩ (enc v)).heap[R]? = some (.cells #[.int .i64 (most : Int), .slice (some ⟨g, 0, none⟩) n n, .int .i64 (first : Int), .int .i64 (L.length : Int)] 61 (0, 0)) :=
      (heap_setCell_other _ _ _ _ (show R ≠ g from fun e => hg e.symm)).trans h.blk
    rw [heap_setCell_same _ _ _ _ _ _ h1, List.length_append]
    rfl
  · rw [heap_setCell_other _ _ _ _ (show g ≠ R from hg), heap_setCell_same _ _ _ _ _ _ (ring_row h)]
    simp
  · have h9 := hold_put h.hold hf hL h.pl.1 v
    rw [hm] at h9
    exact h9
theorem only_put {w W : World} {R : Nat} {G : Option Nat} (h : Only w W R G) (g m : Nat) (u x : Value) (hg : some g = G ∨ ∃ g', some g = some g' ∧ w.heap.size ≤ g') : Only w ((W.setCell ⟨g, m, none⟩ u).setCell ⟨R, 3, none⟩ x) R G := by
  refine ⟨h.os, h.tape, h.output, by simpa using h.size, fun k hk h1 h2 => ?_⟩
  have h3 : k ≠ g := fun e => by
    rcases hg with hg | ⟨g', hg, hg'⟩
    · exact h2 (by rw [e]; exact hg.symm)
    · injection hg with hg
      omega
  rw [heap_setCell_other _ _ _ _ h1, heap_setCell_other _ _ _ _ h3]
  exact h.block k hk h1 h2
theorem Only.drewN {w W : World} {R : Nat} {G : Option Nat} (h : Only w W R G) (q : Nat) : Only w (W.drewN q) R G := ⟨h.os, h.tape, h.output, h.size, h.block⟩

def putRow (most : Nat) (L : List V) (v : V) : List V := if L.length < most then L ++ [v] else L
def fullCode (most : Nat) (L : List V) : Int := if L.length < most then 0 else 7

set_option maxHeartbeats 2000000 in
theorem put_any (R most : Nat) (L : List V) (G : Option Nat) (v : V) (w : World) (h : Ring w R most L G) :
    Calls Try.prog 23 #[.pointer (some ⟨R, 0, none⟩), enc v] w fun e w' => e = .returned (.int .i64 (fullCode most L)) ∧ ∃ G', Ring w' R most (putRow most L v) G' ∧ Only w w' R G ∧ (G' = G ∨ ∃ g, G' = some g ∧ w.heap.size ≤ g) := by
  have HRg := Lib.hid h
  obtain ⟨P, n, first, cur, h⟩ := h
  obtain ⟨h0, h1, h2, h3, _⟩ := h.cells
  have hl := h.len
  have hc := h.cap
  have ht := h.top
  have HR := Lib.hid h
  by_cases hfull : L.length < most
  · rw [show fullCode most L = 0 from if_pos hfull, show putRow most L v = L ++ [v] from if_pos hfull]
    have hd : decide ((most : Int) - (L.length : Int) = 0) = false := decide_eq_false (by omega)
    clear h
    rw [show enc v = .string v from rfl]
    by_cases hn : L.length = n
    · subst hn
      go_enter Try.func23, Try.ntmps23
      go_wp2_with fail
      refine (room_any R most L _ _ HRg.out).mono ?_; rintro e w' ⟨rfl, q0, rfl⟩
      go_wp2_with fail
      go_quiet (fail)
      go_wp2_with fail
      have hb5 : Below w.heap.size w (w.drewN (q0 + nq)) := below_drewN (Below.refl _ _) _
      refine (grow_any R most L _ _ first cur _ (HR.out.below hb5) hfull).mono ?_; rintro e W5 ⟨⟨vv, rfl⟩, g5, n5, c5, hg5, hn5, hr5, ho5⟩
      have HR5 := Lib.hid hr5
      have HO5 : Hid (Only w W5 R G) := Lib.hid (((Only.of_below hb5).trans ho5 (.inl rfl)).weaken G)
      have HGG : Hid (some g5 = G ∨ ∃ g, some g5 = some g ∧ w.heap.size ≤ g) := Lib.hid (.inr ⟨g5, rfl, Nat.le_trans hb5.size hg5⟩)
      clear h0 h1 h2 h3 hb5 hr5 ho5
      obtain ⟨d0, d1, d2, d3, dz⟩ := HR5.out.cells
      have dz3 := dz 3
      have hgr := ring_row HR5.out
      have hgl : g5 < W5.heap.size := HR5.out.ltG g5 rfl
      have hRl : R < W5.heap.size := HR5.out.lt
      have hgR : g5 ≠ R := fun e => HR5.out.ne (by rw [e])
      have hcl5 := HR5.out.pl.1
      obtain ⟨m, hm⟩ : ∃ m, (0 + L.length) % n5 = m := ⟨_, rfl⟩
      have hmn : m < n5 := by rw [← hm]; exact Nat.mod_lt _ (by omega)
      have hold5 : ∃ u, W5.cell? ⟨g5, m, none⟩ = some u := ⟨_, row_cell hgr m _ (List.getElem?_eq_getElem (by omega))⟩
      obtain ⟨u5, hu5⟩ := hold5
      have hfz := frozen_of_row W5 g5 m _ _ hgr
      have hm0 : (0 : Int) ≤ (m : Int) := by omega
      have hm3 : (m : Int) < (n5 : Int) := by omega
      have hw1 : IntKind.i64.wrap ((L.length : Int) + 1) = ((L.length : Int) + 1) := by rw [IntKind.wrap_i64]; omega
      have HM := Lib.hid hm
      have HG5 := Lib.hid hgr
      clear hm hgr dz
      go_wp2_with fail
      go_region_with (refine (place_at R most L _ _ n5 0 m c5 L.length _ HM.out (by first | exact HR5.out.drewN _ | exact (HR5.out.drewN 1).drewN _) (by omega) (by omega)).mono ?_; rintro e w' ⟨rfl, q, rfl⟩)
      all_goals go_wp2_with fail
      all_goals go_ret
      all_goals exact ⟨rfl, some g5, ⟨_, _, _, _, ring_put (HR5.out.drewN _) (by omega) m HM.out v hgR⟩, only_put (HO5.out.drewN _) g5 m (enc v) _ HGG.out, HGG.out⟩
    · have hd2 : decide ((L.length : Int) = (n : Int)) = false := decide_eq_false (by omega)
      have hd3 : decide (L.length = n) = false := decide_eq_false (by omega)
      rcases HR.out.pl.2 with ⟨_, _, h9⟩ | ⟨g5, rfl, rfl, hg⟩
      · omega
      go_enter Try.func23, Try.ntmps23
      go_wp2_with fail
      refine (room_any R most L _ _ HRg.out).mono ?_; rintro e w' ⟨rfl, q0, rfl⟩
      go_wp2_with fail
      go_quiet (fail)
      go_wp2_with fail
      have hb5 : Below w.heap.size w ((w.drewN q0).drewN nq) := below_drewN (below_drewN (Below.refl _ _) _) _
      have HR5 := Lib.hid (HR.out.below hb5)
      have HO5 : Hid (Only w ((w.drewN q0).drewN nq) R (some g5)) := Lib.hid (Only.of_below hb5)
      have hfs : first < n := by rcases HR.out.fst with h | h <;> omega
      obtain ⟨G0, hG0⟩ : ∃ G0, some g5 = G0 := ⟨_, rfl⟩
      have HGG : Hid (some g5 = G0 ∨ ∃ g, some g5 = some g ∧ w.heap.size ≤ g) := Lib.hid (.inl hG0)
      clear h0 h1 h2 h3 hb5
      generalize (w.drewN q0).drewN nq = W5 at *
      obtain ⟨d0, d1, d2, d3, dz⟩ := HR5.out.cells
      have dz3 := dz 3
      have hgr := ring_row HR5.out
      have hgl : g5 < W5.heap.size := HR5.out.ltG g5 rfl
      have hRl : R < W5.heap.size := HR5.out.lt
      have hgR : g5 ≠ R := fun e => HR5.out.ne (by rw [e])
      have hcl5 := HR5.out.pl.1
      obtain ⟨m, hm⟩ : ∃ m, (first + L.length) % n = m := ⟨_, rfl⟩
      have hmn : m < n := by rw [← hm]; exact Nat.mod_lt _ (by omega)
      have hold5 : ∃ u, W5.cell? ⟨g5, m, none⟩ = some u := ⟨_, row_cell hgr m _ (List.getElem?_eq_getElem (by omega))⟩
      obtain ⟨u5, hu5⟩ := hold5
      have hfz := frozen_of_row W5 g5 m _ _ hgr
      have hm0 : (0 : Int) ≤ (m : Int) := by omega
      have hm3 : (m : Int) < (n : Int) := by omega
      have hw1 : IntKind.i64.wrap ((L.length : Int) + 1) = ((L.length : Int) + 1) := by rw [IntKind.wrap_i64]; omega
      have HM := Lib.hid hm
      have HG5 := Lib.hid hgr
      clear hm hgr dz
      go_wp2_with fail
      go_region_with (refine (place_at R most L _ _ n first m cur L.length _ HM.out (by first | exact HR5.out.drewN _ | exact (HR5.out.drewN 1).drewN _) (by omega) (by omega)).mono ?_; rintro e w' ⟨rfl, q, rfl⟩)
      all_goals go_wp2_with fail
      all_goals go_ret
      all_goals exact ⟨rfl, some g5, ⟨_, _, _, _, ring_put (HR5.out.drewN _) (by omega) m HM.out v hgR⟩, only_put (HO5.out.drewN _) g5 m (enc v) _ (.inl rfl), (.inl rfl)⟩
  · rw [show fullCode most L = 7 from if_neg hfull, show putRow most L v = L from if_neg hfull]
    have hd : decide ((most : Int) - (L.length : Int) = 0) = true := decide_eq_true (by omega)
    go_enter Try.func23, Try.ntmps23
    go_wp2_with fail
    refine (room_any R most L _ _ HRg.out).mono ?_; rintro e w' ⟨rfl, q0, rfl⟩
    go_wp2_with fail
    go_ret
    exact ⟨rfl, G, HRg.out.below (below_drewN (Below.refl _ _) _), Only.of_below (below_drewN (Below.refl _ _) _), .inl rfl⟩
end Go.Proofs.Ytoeoigclleijmaa.RingS
