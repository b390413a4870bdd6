/-
  A row that grows, and what is put into it.
-/
import Derived.Test.YtoeoigclleijmaaRing2S
import Derived.Handy
namespace Go.Proofs.Ytoeoigclleijmaa.RingS
open Go.RowKit

theorem ring_store {w : World} {R : Nat} {a b c d b' c' : Value} {t : TypeId} (h : w.heap[R]? = some (.cells #[a, b, c, d] t (0, 0))) : ((w.setCell ⟨R, 1, none⟩ b').setCell ⟨R, 2, none⟩ c').heap[R]? = some (.cells #[a, b', c', d] t (0, 0)) :=
  heap_setCell_same _ _ _ _ _ _ (heap_setCell_same _ _ _ _ _ _ h)

set_option maxHeartbeats 1000000 in
theorem grow_any (R most : Nat) (L : List V) (G : Option Nat) (P : Option Addr) (first : Nat) (cur : List Value) (w : World) (h : RingAt w R most L G P L.length first cur) (hr : L.length < most) :
    Calls Try.prog 27 #[.pointer (some ⟨R, 0, none⟩)] w fun e w' => (∃ v, e = .returned v) ∧ ∃ g n cur', w.heap.size ≤ g ∧ L.length < n ∧ RingAt w' R most L (some g) (some ⟨g, 0, none⟩) n 0 cur' ∧ Only w w' R none := by
  obtain ⟨h0, h1, h2, h3, _⟩ := h.cells
  have hlt := h.lt
  have hc := h.cap
  have ht := h.top
  obtain ⟨m, hm⟩ : ∃ m, m = min (max (2 * L.length) 8) most := ⟨_, rfl⟩
  have hm1 : L.length < m := by omega
  have hm2 : m ≤ most := by omega
  have hmI : min (max (2 * (L.length : Int)) 8) (most : Int) = (m : Int) := by omega
  have hw2 : IntKind.i64.wrap (2 * (L.length : Int)) = 2 * (L.length : Int) := by rw [IntKind.wrap_i64]; omega
  have hmk := fun W => run_make_row' (P := Try.prog) 26 9 (enc zero) 16 Try.underlying26 elemInfo rfl .i64 .i64 m (by omega) (by omega) W
  simp only [madeL] at hmk
  have HR := Lib.hid h
  clear h hm
  go_enter Try.func27, Try.ntmps27
  go_wp2_with fail
  go_still_tail 11, (by kernel_rfl)
  change wpList _ _ _ _ _ w.drew
  have e8 : ∃ q, q = (if 2 * (L.length : Int) < 8 then 8 else 2 * (L.length : Int)) := ⟨_, rfl⟩
  obtain ⟨q, hq⟩ := e8
  rw [← hq]
  have e13 : (if (most : Int) < q then (most : Int) else q) = (m : Int) := by
    rw [hq, ← hmI]
    by_cases h8 : 2 * (L.length : Int) < 8
    · rw [if_pos h8]; split <;> omega
    · rw [if_neg h8]; split <;> omega
  rw [e13]
  clear hq e13 hmI
  have hWb : Below w.heap.size w ((w.alloc (.cells (Array.replicate m (enc zero)) 9)).drew) := below_drewN ((Below.refl _ w).alloc (Nat.le_refl _) _) 1
  have hWg : ((w.alloc (.cells (Array.replicate m (enc zero)) 9)).drew).heap[w.heap.size]? = some (.cells (List.replicate m (enc zero)).toArray 9 (0, 0)) := by
    rw [List.toArray_replicate]
    exact heap_alloc_new w (.cells (Array.replicate m (enc zero)) 9)
  have hWs : w.heap.size < ((w.alloc (.cells (Array.replicate m (enc zero)) 9)).drew).heap.size := by show _ < (w.alloc _).heap.size; rw [World.size_alloc]; omega
  go_wp2_with fail
  generalize (w.alloc (.cells (Array.replicate m (enc zero)) 9)).drew = W at *
  refine (all_any R most L G W ⟨P, L.length, first, cur, HR.out.below hWb⟩).mono ?_; rintro e W2 ⟨g2, rfl, hg2, hG2, hb2⟩
  have hb02 : Below w.heap.size w W2 := hWb.trans (hb2.mono (by omega))
  have hg : W2.heap[w.heap.size]? = some (.cells (List.replicate m (enc zero)).toArray 9 (0, 0)) := (hb2.block _ (by omega)).trans hWg
  have HG2 := Lib.hid hG2
  have HW2 := Lib.hid hg
  clear hG2 hg hWg
  have c1 : (encs L).length = Nat.min L.length m := by rw [encs_len]; exact (Nat.min_eq_left (by omega)).symm
  have c2 : ∀ (j : Nat) (v : Value), (encs L)[j]? = some v → W2.cell? ((⟨g2, 0, none⟩ : Addr).add j) = some v := fun j v hv => by
    rw [← row_cell HG2.out _ v hv]
    by_cases hj : j = 0 <;> simp [Addr.add, hj]
  have c3 : 0 + (encs L).length ≤ (List.replicate m (enc zero)).length := by rw [encs_len, List.length_replicate]; omega
  have C1 := Lib.hid c1
  have C2 := Lib.hid c2
  have C3 := Lib.hid c3
  clear c1 c2 c3
  go_wp2_with (refine wpList_copy_splice rfl (.tmp 15) (.tmp 17) 26 26 rfl 9 Try.underlying26 elemSize (some ⟨w.heap.size, 0, none⟩) (some ⟨g2, 0, none⟩) m m L.length L.length rfl rfl w.heap.size 0 (List.replicate m (enc zero)) 9 HW2.out (encs L) C1.out (fun _ => ⟨rfl, ⟨g2, 0, none⟩, rfl, C2.out⟩) C3.out (encs_one _) w.heap.size w hb02 (Nat.le_refl _) ?_)
  intro W3 hG3 hB3
  have HR3 := Lib.hid (HR.out.below hB3)
  have hsp : splice (List.replicate m (enc zero)) 0 (encs L) = encs L ++ List.replicate (m - L.length) (enc zero) := by
    simp [splice, encs_len]
  obtain ⟨j0, j1, j2, j3, hz⟩ := HR3.out.cells
  have hz1 := hz 1
  have hz2 := hz 2
  clear h0 h1 h2 h3
  have hsz : w.heap.size ≤ W3.heap.size := hB3.size
  go_wp2_with fail
  (try simp only [Exit.inBlock, Exit.then]); refine bodyPost_end (results_none rfl _ _ _) rfl ?_
  refine ⟨⟨_, rfl⟩, w.heap.size, m, encs L ++ List.replicate (m - L.length) (enc zero), Nat.le_refl _, hm1, ⟨ring_store HR3.out.blk, ⟨by simp [encs_len]; omega, .inr ⟨_, rfl, rfl, ?_⟩⟩, Nat.le_of_lt hm1, hm2, ht, .inl (by omega), ?_⟩, ?_⟩
  · rw [heap_setCell_other _ _ _ _ (by show w.heap.size ≠ R; omega), heap_setCell_other _ _ _ _ (by show w.heap.size ≠ R; omega), ← hsp]
    exact hG3.out
  · intro i hi
    rw [Nat.zero_add, Nat.mod_eq_of_lt (by omega), List.getElem?_append_left (by rw [encs_len]; exact hi)]
    exact encs_at _ _ hi
  · refine ⟨hB3.os, hB3.tape, hB3.output, by simpa using hsz, fun k hk h1 h2 => ?_⟩
    rw [heap_setCell_other _ _ _ _ h1, heap_setCell_other _ _ _ _ h1]
    exact hB3.block k hk
end Go.Proofs.Ytoeoigclleijmaa.RingS
