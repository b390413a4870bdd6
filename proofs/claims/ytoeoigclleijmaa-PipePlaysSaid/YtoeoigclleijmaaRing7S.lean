/-
  A row just like another one, which goes its own way.
-/
import Derived.Test.YtoeoigclleijmaaRing6S
namespace Go.Proofs.Ytoeoigclleijmaa.RingS
open Go.RowKit

theorem ring_clone {W : World} {g most : Nat} {L : List V} (hG : W.heap[g]? = some (.cells (encs L).toArray 9 (0, 0))) (hL : L.length ≤ most) (ht : most ≤ 4096) :
    Ring (W.alloc (.cells #[.int .i64 (most : Int), .slice (some ⟨g, 0, none⟩) L.length L.length, .int .i64 0, .int .i64 (L.length : Int)] 61)) W.heap.size most L (some g) := by
  have hlt : g < W.heap.size := (Array.getElem?_eq_some_iff.1 hG).1
  refine ⟨some ⟨g, 0, none⟩, L.length, 0, encs L, heap_alloc_new W _, ⟨encs_len L, .inr ⟨g, rfl, rfl, (((Below.refl W.heap.size W).alloc (Nat.le_refl _) _).block g hlt).trans hG⟩⟩, Nat.le_refl _, hL, ht, ?_, ?_⟩
  · by_cases h : L.length = 0
    · exact .inr ⟨h, rfl⟩
    · exact .inl (by omega)
  · intro i hi
    rw [Nat.zero_add, Nat.mod_eq_of_lt hi]
    exact encs_at L i hi

set_option maxHeartbeats 2000000 in
theorem rowclone_any (R most : Nat) (L : List V) (G : Option Nat) (w : World) (h : Ring w R most L G) :
    Calls Try.prog 22 #[.pointer (some ⟨R, 0, none⟩)] w fun e w' => ∃ C g, e = .returned (.pointer (some ⟨C, 0, none⟩)) ∧ w.heap.size ≤ C ∧ w.heap.size ≤ g ∧ C ≠ g ∧ Ring w' C most L (some g) ∧ Below w.heap.size w w' := by
  obtain ⟨P, n, first, cur, h⟩ := h
  obtain ⟨h0, h1, h2, h3, _⟩ := h.cells
  have hl := h.len
  have hc := h.cap
  have ht := h.top
  have HR := Lib.hid h
  clear h
  go_enter Try.func22, Try.ntmps22
  go_wp2_with fail
  go_region_with (refine (all_any R most L _ _ ⟨_, _, _, _, HR.out.drewN 1⟩).mono ?_; rintro e W ⟨g, rfl, hg, hG, hb⟩; have HRW := Lib.hid ((HR.out.drewN 1).below hb); obtain ⟨k0, k1, k2, k3, _⟩ := HRW.out.cells; have HG := Lib.hid hG; clear hG)
  all_goals go_wp2_with fail
  all_goals go_ret
  all_goals exact ⟨_, g, rfl, hb.size, hg, fun e => absurd (Array.getElem?_eq_some_iff.1 HG.out).1 (by omega), ring_clone HG.out (Nat.le_trans hl hc) ht, ((below_drewN (Below.refl _ w) 1).trans (hb.mono (Nat.le_refl _))).alloc hb.size _⟩
end Go.Proofs.Ytoeoigclleijmaa.RingS
