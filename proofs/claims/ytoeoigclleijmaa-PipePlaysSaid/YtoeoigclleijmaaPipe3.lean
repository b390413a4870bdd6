/-
  What each law of pipes asks first; how many there are, and how many more may be.
-/
import Derived.Test.YtoeoigclleijmaaPipe2
namespace Go.Proofs.Ytoeoigclleijmaa.PipeS
open Go.RowKit RingS TurnP

theorem plen_any {w x : World} {base B R most : Nat} {L : List V} {G : Option Nat} {p c h : Nat} (H : PAt w base B R most L G p c h x) :
    Calls Try.prog 14 #[.pointer (some ⟨R, 0, none⟩)] x fun e x' => e = .returned (.int .i64 (L.length : Int)) ∧ x = x' := rlen_any R most L G x H.mine.2.2.2.1
theorem proom_any {w x : World} {base B R most : Nat} {L : List V} {G : Option Nat} {p c h : Nat} (H : PAt w base B R most L G p c h x) :
    Calls Try.prog 18 #[.pointer (some ⟨R, 0, none⟩)] x fun e x' => e = .returned (.int .i64 ((most : Int) - (L.length : Int))) ∧ ∃ q, x' = x.drewN q := room_any R most L G x H.mine.2.2.2.1

theorem awake_any (w : World) : Calls Try.prog 7 #[] w fun e w' => e = .returned (.bool true) ∧ Below w.heap.size w w' := by
  go_enter Try.func7, Try.ntmps7
  go_wp2_with fail
  refine (pnew_any w w w.heap.size 2 2 rfl (Below.refl _ _) (Nat.le_refl _)).mono ?_; rintro e w1 ⟨B, R, rfl, _, _, h1⟩
  have H1 := Lib.hid h1
  clear h1
  go_wp2_with fail
  refine (pput_any ⟨#[97]⟩ (by omega) H1.out).mono ?_; rintro e w2 ⟨rfl, G2, h2, _, _⟩
  rw [show fullCode 2 ([] : List V) = 0 from rfl]
  change PAt w w.heap.size B R 2 [⟨#[97]⟩] G2 1 0 0 w2 at h2
  have H2 := Lib.hid h2
  clear h2
  go_wp2_with fail
  refine (pput_any ⟨#[98]⟩ (by omega) H2.out).mono ?_; rintro e w3 ⟨rfl, G3, h3, _, _⟩
  rw [show fullCode 2 ([⟨#[97]⟩] : List V) = 0 from rfl]
  change PAt w w.heap.size B R 2 [⟨#[97]⟩, ⟨#[98]⟩] G3 2 0 0 w3 at h3
  have H3 := Lib.hid h3
  clear h3
  go_wp2_with fail
  refine (pput_any ⟨#[99]⟩ (by omega) H3.out).mono ?_; rintro e w4 ⟨rfl, G4, h4, _, _⟩
  rw [show fullCode 2 ([⟨#[97]⟩, ⟨#[98]⟩] : List V) = 7 from rfl]
  change PAt w w.heap.size B R 2 [⟨#[97]⟩, ⟨#[98]⟩] G4 2 0 0 w4 at h4
  have H4 := Lib.hid h4
  clear h4
  go_wp2_with fail
  refine (ptake_any 1 0 0 (by decide) (by decide) (by decide) (by decide) (by decide) (by omega) (by omega) H4.out).mono ?_; rintro e w5 ⟨rfl, h5, _⟩
  rw [show outK (⟨#[97]⟩ : V) 1 0 0 = ⟨#[]⟩ from rfl, show (decide ((1 : Int) ≠ 1)) = false from rfl]
  change PAt w w.heap.size B R 2 [⟨#[98]⟩] G4 2 0 1 w5 at h5
  have H5 := Lib.hid h5
  clear h5
  go_wp2_with fail
  refine (ptake_any 0 0 0 (by decide) (by decide) (by decide) (by decide) (by decide) (by omega) (by omega) H5.out).mono ?_; rintro e w6 ⟨rfl, h6, _⟩
  rw [show outK (⟨#[98]⟩ : V) 0 0 0 = ⟨#[98]⟩ from rfl, show (decide ((0 : Int) ≠ 1)) = true from rfl]
  have H6 := Lib.hid h6
  clear h6
  obtain ⟨c0, _⟩ := H6.out.cells
  go_wp2_with fail
  refine (proom_any H6.out).mono ?_; rintro e w7 ⟨rfl, q, rfl⟩
  rw [show ((2 : Nat) : Int) - (([] : List V).length : Int) = 2 from rfl]
  go_wp2_with fail
  go_ret
  exact ⟨rfl, below_drewN H6.out.mine.1 q⟩
end Go.Proofs.Ytoeoigclleijmaa.PipeS
