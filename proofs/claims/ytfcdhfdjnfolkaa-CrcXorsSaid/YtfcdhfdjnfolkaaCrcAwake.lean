/-
  The fixed fact that each law asks first; a table in a new block.
-/
import Derived.Test.YtfcdhfdjnfolkaaCrcSeal
namespace Go.Proofs.Ytfcdhfdjnfolkaa.CrcCalls
open Go.RowKit CrcMath

theorem tab_new (w : World) (t : TypeId) : Tab (w.alloc (.cells table t)) w.heap.size := fun j hj => by
  rw [World.cell?_alloc_at _ _ _ _ rfl]; exact table_at j hj

/-- what the arguments of a call leave, read behind it -/
theorem fact1 : ((sum (cat (fun _ => ⟨#[49, 50, 51, 52, 53, 54, 55, 56, 57]⟩) 1)).toNat : Int) = 4236843288 := by decide +kernel
theorem fact0 : ((sum []).toNat : Int) = 0 := by decide +kernel

theorem awake_any (w : World) :
    Calls Try.prog 9 #[] w fun e w' => e = .returned (.bool true) ∧ Below w.heap.size w w' := by
  have hz := zero_run
  go_enter Try.func9, Try.ntmps9
  go_wp2_with fail
  refine (make_any _).mono ?_; rintro e w1 ⟨rfl, hb1⟩
  go_wp2_with (refine wpList_store_row rfl 26 _ _ rfl _ table rfl rfl 26 zeros (heap_alloc_last _ _) (by rw [table_size]; exact tableInfo) (by rw [table_size, zeros_size]) table_cells ?_; rw [World.setRow_alloc_new])
  have hT := Lib.hid (tab_new w1 26)
  have hb2 : Below w.heap.size w (w1.alloc (.cells table 26)) := hb1.alloc hb1.size _
  have hs2 : w.heap.size ≤ (w1.alloc (.cells table 26)).heap.size := hb2.size
  have h12 := Lib.hid (show w1.heap.size + 1 = (w1.alloc (.cells table 26)).heap.size by simp)
  generalize w1.heap.size = B at *
  generalize w1.alloc (.cells table 26) = w2 at *
  refine (sum_any B (B + 1) 0 1 _ (fun _ => ⟨#[49, 50, 51, 52, 53, 54, 55, 56, 57]⟩) _ (by omega) (by exact hT.out.alloc _) (by intro i hi; rw [show 0 + i = 0 from by omega, World.cell?_alloc_at _ _ _ _ h12.out]; rfl) (fun _ _ => by decide)).mono ?_
  rintro e w' ⟨rfl, q, rfl⟩
  rw [fact1]
  go_wp2_with fail
  refine (sum_none B _).mono ?_
  rintro e w' ⟨rfl, q', rfl⟩
  rw [fact0]
  go_wp2_with fail
  refine (seal_any B ⟨#[97]⟩ _ (by exact (hT.out.alloc _).drewN _) (by decide)).mono ?_
  rintro e w3 ⟨rfl, hb3⟩
  have hb3' : Below w2.heap.size w2 w3 := (below_drewN ((Below.refl _ _).alloc (Nat.le_refl _) _) _).trans (hb3.mono (by simp))
  clear hb3
  go_wp2_with fail
  refine (fits_any B (sealB ⟨#[97]⟩) _ (by exact hT.out.below hb3') (by rw [sealB_size]; decide)).mono ?_
  rintro e w4 ⟨rfl, hb4⟩
  rw [sealB_list, fits_seal]
  go_wp2_with fail
  go_ret
  exact ⟨rfl, hb2.trans ((hb3'.mono hs2).trans (hb4.mono (Nat.le_trans hs2 hb3'.size)))⟩

end Go.Proofs.Ytfcdhfdjnfolkaa.CrcCalls
