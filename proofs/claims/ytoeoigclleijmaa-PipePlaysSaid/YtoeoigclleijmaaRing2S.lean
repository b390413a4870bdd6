/-
  A row's values, the first one first, in memory of their own; and a row that grows.
-/
import Derived.Test.YtoeoigclleijmaaRing1S
import Derived.Laws.CopyOwn
import Derived.Deep.OwnRows
import Derived.StillTailTactics
namespace Go.Proofs.Ytoeoigclleijmaa.RingS
open Go.RowKit

def encs (L : List V) : List Value := L.map enc
theorem encs_at (L : List V) (i : Nat) (h : i < L.length) : (encs L)[i]? = some (enc (L.getD i zero)) := by simp [encs, List.getD, h]
theorem encs_one (L : List V) : ∀ u ∈ encs L, u.oneCell' = true := by
  intro u hu
  obtain ⟨x, _, rfl⟩ := List.mem_map.1 hu
  rfl
theorem elemSize : (Try.prog.info? 9).map (·.size) = some 1 := by kernel_rfl
theorem madeL (n : Nat) : madeCells #[enc zero] n = Array.replicate n (enc zero) := by
  have h := toList_madeCells_one (enc zero) n
  have h2 : (madeCells #[enc zero] n).toList.toArray = (List.replicate n (enc zero)).toArray := by rw [h]
  simpa using h2

/-- the first part of a row's values goes on to the end of its places, the second one begins anew -/
theorem hold_first {cur : List Value} {n first : Nat} {L : List V} (h : Hold cur n first L) (s : Nat) (hs : s ≤ L.length) (hs2 : first + s ≤ n) : ∀ (j : Nat) (v : Value), (encs (L.take s))[j]? = some v → cur[first + j]? = some v := by
  intro j v hv
  have hj : j < s := by
    have := (List.getElem?_eq_some_iff.1 hv).1
    simp [encs] at this
    omega
  have h1 := h j (by omega)
  rw [Nat.mod_eq_of_lt (by omega)] at h1
  rw [h1, ← hv, encs_at _ _ (by rw [List.length_take]; omega)]
  simp [List.getD, hj]
theorem hold_second {cur : List Value} {n first : Nat} {L : List V} (h : Hold cur n first L) (hf : first < n) (hl : L.length ≤ n) (s : Nat) (hs : first + s = n) : ∀ (j : Nat) (v : Value), (encs (L.drop s))[j]? = some v → cur[j]? = some v := by
  intro j v hv
  have hj : j < L.length - s := by
    have := (List.getElem?_eq_some_iff.1 hv).1
    simp [encs] at this
    omega
  have h1 := h (s + j) (by omega)
  rw [show first + (s + j) = n + j from by omega, Nat.add_mod_left, Nat.mod_eq_of_lt (by omega)] at h1
  rw [h1, ← hv, encs_at _ _ (by rw [List.length_drop]; omega)]
  simp [List.getD]
theorem splice_first (L : List V) (s : Nat) (hs : s ≤ L.length) : splice (List.replicate L.length (enc zero)) 0 (encs (L.take s)) = encs (L.take s) ++ List.replicate (L.length - s) (enc zero) := by
  simp [splice, encs, Nat.min_eq_left hs]
theorem splice_second (L : List V) (s : Nat) (hs : s ≤ L.length) : splice (encs (L.take s) ++ List.replicate (L.length - s) (enc zero)) s (encs (L.drop s)) = encs L := by
  have hl : (encs (L.take s)).length = s := by simp [encs]; omega
  have h2 : ((encs (L.take s) ++ List.replicate (L.length - s) (enc zero)).drop (s + (encs (L.drop s)).length)) = [] := by
    apply List.drop_eq_nil_of_le
    rw [List.length_append, hl, List.length_replicate, show (encs (L.drop s)).length = L.length - s from by simp [encs]]
    omega
  unfold splice
  rw [List.take_left' hl, h2, List.append_nil]
  unfold encs
  rw [← List.map_append, List.take_append_drop]

theorem ring_row {w : World} {R most n first g : Nat} {L : List V} {P : Option Addr} {cur : List Value} (h : RingAt w R most L (some g) P n first cur) : w.heap[g]? = some (.cells cur.toArray 9 (0, 0)) := by
  rcases h.pl.2 with ⟨_, h1, _⟩ | ⟨g', _, h1, h2⟩
  · cases h1
  · cases h1; exact h2
theorem row_cell {w : World} {g : Nat} {cur : List Value} {t : TypeId} (h : w.heap[g]? = some (.cells cur.toArray t (0, 0))) (i : Nat) (v : Value) (hv : cur[i]? = some v) : w.cell? ⟨g, i, none⟩ = some v := by
  rw [cell_of_row w g i _ _ (0, 0) h]
  simpa using hv
theorem encs_len (L : List V) : (encs L).length = L.length := by simp [encs]
set_option maxHeartbeats 1000000 in
theorem all_any (R most : Nat) (L : List V) (G : Option Nat) (w : World) (h : Ring w R most L G) :
    Calls Try.prog 16 #[.pointer (some ⟨R, 0, none⟩)] w fun e w' => ∃ g, e = .returned (.slice (some ⟨g, 0, none⟩) L.length L.length) ∧ w.heap.size ≤ g ∧ w'.heap[g]? = some (.cells (encs L).toArray 9 (0, 0)) ∧ Below w.heap.size w w' := by
  obtain ⟨P, n, first, cur, h⟩ := h
  obtain ⟨h0, h1, h2, h3, _⟩ := h.cells
  have hlt := h.lt
  have hl := h.len
  have hc := h.cap
  have ht := h.top
  have hmk := fun W => run_make_row' (P := Try.prog) 26 9 (enc zero) 16 Try.underlying26 elemInfo rfl .i64 .i64 L.length (by omega) (by omega) W
  simp only [madeL] at hmk
  have HR := Lib.hid h
  clear h
  have hne : R ≠ w.heap.size := by omega
  obtain ⟨hcl, hpl⟩ := HR.out.pl
  have hWb : Below w.heap.size w (w.alloc (.cells (Array.replicate L.length (enc zero)) 9)) := (Below.refl _ w).alloc (Nat.le_refl _) _
  have hWg : (w.alloc (.cells (Array.replicate L.length (enc zero)) 9)).heap[w.heap.size]? = some (.cells (List.replicate L.length (enc zero)).toArray 9 (0, 0)) := by simpa using heap_alloc_new w (.cells (Array.replicate L.length (enc zero)) 9)
  have HR2 := Lib.hid (HR.out.below hWb)
  rcases hpl with ⟨rfl, rfl, rfl⟩ | ⟨g, rfl, rfl, hg⟩
  · have hL : L = [] := List.eq_nil_of_length_eq_zero (by omega)
    have HE := Lib.hid hL
    have hf0 : first = 0 := by rcases HR.out.fst with h | h <;> omega
    subst hf0
    clear hL hl hcl
    go_enter Try.func16, Try.ntmps16
    go_wp2_with fail
    generalize w.alloc (.cells (Array.replicate L.length (enc zero)) 9) = W at *
    obtain ⟨k0, k1, k2, k3, _⟩ := HR2.out.cells
    clear h0 h1 h2 h3
    go_still_tail 10, (by kernel_rfl)
    change wpList _ _ _ _ _ W.drew
    refine wpList_copy_splice rfl (.tmp 10) (.tmp 19) 26 26 rfl 9 Try.underlying26 elemSize (some ⟨w.heap.size, 0, none⟩) none L.length L.length 0 0 rfl rfl w.heap.size 0 (List.replicate L.length (enc zero)) 9 (by exact hWg) [] (by simp) (by simp) (by simp) (by simp) w.heap.size w (below_drewN hWb 1) (Nat.le_refl _) ?_
    intro W2 hG2 hB2
    obtain ⟨j0, j1, j2, j3, _⟩ := (HR.out.below hB2).cells
    clear k0 k1 k2 k3
    go_wp2_with fail
    go_still_tail 7, (by kernel_rfl)
    change wpList _ _ _ _ _ W2.drew
    refine wpList_copy_splice rfl (.tmp 23) (.tmp 27) 26 26 rfl 9 Try.underlying26 elemSize (some ⟨w.heap.size, 0, none⟩) none L.length L.length 0 0 rfl rfl w.heap.size 0 (splice (List.replicate L.length (enc zero)) 0 []) 9 hG2.out [] (by simp) (by simp) (by simp [splice]) (by simp) w.heap.size w (below_drewN hB2 1) (Nat.le_refl _) ?_
    intro W3 hG3 hB3
    go_wp2_with fail
    go_ret
    refine ⟨_, rfl, Nat.le_refl _, ?_, hB3⟩
    have hE := HE.out
    subst hE
    exact hG3.out
  · have hcl' := hcl
    have hf : first ≤ n := by rcases HR.out.fst with h | h <;> omega
    have hf1 : (first : Int) ≤ (n : Int) := by omega
    have hf0 : (0 : Int) ≤ (first : Int) := by omega
    obtain ⟨s, hs⟩ : ∃ s, s = min L.length (n - first) := ⟨_, rfl⟩
    have HS := Lib.hid hs
    have hs1 : s ≤ L.length := by omega
    clear hs
    go_enter Try.func16, Try.ntmps16
    go_wp2_with fail
    generalize w.alloc (.cells (Array.replicate L.length (enc zero)) 9) = W at *
    obtain ⟨k0, k1, k2, k3, _⟩ := HR2.out.cells
    clear h0 h1 h2 h3
    go_still_tail 10, (by kernel_rfl)
    change wpList _ _ _ _ _ W.drew
    have hlen : (encs (L.take s)).length = s := by rw [encs_len, List.length_take]; omega
    have hlen2 : (encs (L.drop s)).length = L.length - s := by rw [encs_len, List.length_drop]
    obtain ⟨sp, hsp⟩ : ∃ sp, sp = (if n = first then some (⟨g, 0, none⟩ : Addr) else some ⟨g, first, none⟩) := ⟨_, rfl⟩
    have HSP := Lib.hid hsp
    rw [← hsp]
    clear hsp
    refine wpList_copy_splice rfl (.tmp 10) (.tmp 19) 26 26 rfl 9 Try.underlying26 elemSize (some ⟨w.heap.size, 0, none⟩) sp L.length L.length (n - first) (n - first) rfl rfl w.heap.size 0 (List.replicate L.length (enc zero)) 9 (by exact hWg) (encs (L.take s)) (by rw [hlen, HS.out]; exact Nat.min_comm _ _) (by
      rw [hlen]
      intro h
      have h2 := HS.out
      refine ⟨rfl, ⟨g, first, none⟩, HSP.out.trans (if_neg (by omega)), fun j v hv => ?_⟩
      have h3 := row_cell (ring_row HR2.out) _ v (hold_first HR2.out.hold s hs1 (by omega) j v hv)
      rw [← h3]
      show W.cell? _ = _
      by_cases hj : j = 0 <;> simp [Addr.add, hj]) (by rw [hlen, List.length_replicate]; omega) (encs_one _) w.heap.size w (below_drewN hWb 1) (Nat.le_refl _) ?_
    intro W2 hG2 hB2
    rw [hlen]
    have hs2 : (s : Int) ≤ (L.length : Int) := by omega
    have hs0 : (0 : Int) ≤ (s : Int) := by omega
    have HR3 := Lib.hid (HR.out.below hB2)
    obtain ⟨j0, j1, j2, j3, _⟩ := HR3.out.cells
    clear k0 k1 k2 k3
    go_wp2_with fail
    go_still_tail 7, (by kernel_rfl)
    change wpList _ _ _ _ _ W2.drew
    obtain ⟨dp, hdp⟩ : ∃ dp, dp = (if L.length = s then some (⟨w.heap.size, 0, none⟩ : Addr) else some ⟨w.heap.size, s, none⟩) := ⟨_, rfl⟩
    have HDP := Lib.hid hdp
    rw [← hdp]
    clear hdp
    refine wpList_copy_splice rfl (.tmp 23) (.tmp 27) 26 26 rfl 9 Try.underlying26 elemSize dp (some ⟨g, 0, none⟩) (L.length - s) (L.length - s) n n rfl rfl w.heap.size s (encs (L.take s) ++ List.replicate (L.length - s) (enc zero)) 9 (by rw [← splice_first L s hs1]; exact hG2.out) (encs (L.drop s)) (by rw [hlen2]; exact (Nat.min_eq_right (by omega)).symm) (by
      rw [hlen2]
      intro h
      have h2 := HS.out
      have h4 := HR.out.fst
      refine ⟨HDP.out.trans (if_neg (by omega)), ⟨g, 0, none⟩, rfl, fun j v hv => ?_⟩
      have h3 := row_cell (ring_row HR3.out) _ v (hold_second HR3.out.hold (by omega) hl s (by omega) j v hv)
      rw [← h3]
      show W2.cell? _ = _
      by_cases hj : j = 0 <;> simp [Addr.add, hj]) (by rw [hlen2, List.length_append, hlen, List.length_replicate]; omega) (encs_one _) w.heap.size w (below_drewN hB2 1) (Nat.le_refl _) ?_
    intro W3 hG3 hB3
    go_wp2_with fail
    go_ret
    refine ⟨_, rfl, Nat.le_refl _, ?_, hB3⟩
    have hG4 := hG3.out
    rw [splice_second L s hs1] at hG4
    exact hG4
end Go.Proofs.Ytoeoigclleijmaa.RingS
