/-
  Units: each kind's word.
-/
import Derived.Test.YtlmkgakimnmmdaaDoorPduAwake
namespace Go.Proofs.YtlmkgakimnmmdaaDoor.Pdu
open Go.ChangeShapes Go.WideShapes Go.RowKit Own

def nm : List ByteArray := [⟨#[]⟩, ⟨#[98, 103, 110]⟩, ⟨#[98, 103, 97, 107]⟩, ⟨#[101, 110, 100]⟩, ⟨#[101, 110, 100, 97, 107]⟩, ⟨#[114, 115]⟩, ⟨#[114, 115, 97, 107]⟩, ⟨#[98, 103, 114, 101, 106]⟩, ⟨#[115, 100]⟩, ⟨#[101, 114]⟩, ⟨#[112, 111, 108, 108]⟩, ⟨#[115, 116, 97, 116]⟩, ⟨#[117, 115, 116, 97, 116]⟩, ⟨#[117, 100]⟩, ⟨#[109, 100]⟩, ⟨#[101, 114, 97, 107]⟩]
theorem flat_names : Base.flat (Rows.laid_polliwog_pdu_names (H := Unit)) = nm.map Value.string := by rfl
def Names (w : World) : Prop := 1 < w.heap.size ∧ ∀ k, k < 16 → w.cell? ⟨1, k, none⟩ = some (.string (nm.getD k ⟨#[]⟩))
theorem names_laid {L : List (String × DataW Unit)} {w : World} (hp : (L.all fun x => x.2.handleName?.isNone) = true) (h : laidMetH Tryd.prog L w) (hm : ("polliwog/pdu.names", Rows.laid_polliwog_pdu_names) ∈ L) : Names w := by
  rw [MakeChecks.laidMetH_plain _ _ _ hp] at h
  obtain ⟨ps, hl, _⟩ := h
  have hc : ∀ i, w.cell? ⟨1, i, none⟩ = (Base.flat (Rows.laid_polliwog_pdu_names (H := Unit)))[i]? := fun i =>
    Base.laid_cells (g := 1) (.arr 16 .str) (by kernel_rfl) rfl (by kernel_rfl) L ps hl hm i
  rw [flat_names] at hc
  refine ⟨block_lt_of_cell (hc 0), fun k hk => ?_⟩
  rw [hc]
  have : k < nm.length := hk
  simp [List.getD, this]
theorem Names.below {w w' : World} (h : Names w) (hb : Below w.heap.size w w') : Names w' :=
  ⟨Nat.lt_of_lt_of_le h.1 hb.size, fun k hk => (hb.cell (p := ⟨1, k, none⟩) h.1).trans (h.2 k hk)⟩

theorem name_some (j : Nat) (w : World) (hN : Names w) (hj : j < 15) :
    Calls Tryd.prog 19 #[.agg #[.int .i64 ((j : Int) + 1), .int .i64 0, .int .u32 0, .int .u32 0, .int .u32 0, .slice none 0 0, .bool false, .string ⟨#[]⟩]] w fun e w' => e = .returned (.string (nm.getD (j + 1) ⟨#[]⟩)) ∧ Below w.heap.size w w' := by
  have hb := (Below.refl w.heap.size w).alloc (Nat.le_refl _) (.cells #[.int .i64 ((j : Int) + 1), .int .i64 0, .int .u32 0, .int .u32 0, .int .u32 0, .slice none 0 0, .bool false, .string ⟨#[]⟩] 31)
  have hc := (hN.below hb).2 (j + 1) (by omega)
  generalize nm.getD (j + 1) ⟨#[]⟩ = X at *
  have hi : (j : Int) + 1 < 16 := by omega
  have HB := Lib.hid hb
  clear hN hb
  go_enter Tryd.func19, Tryd.ntmps19
  go_wp2_with fail
  refine (known_any ((j : Int) + 1) _).mono ?_; rintro e w' ⟨rfl, rfl⟩
  rw [show knownB ((j : Int) + 1) = true from decide_eq_true (by omega)]
  go_wp2_with fail
  go_ret
  exact ⟨rfl, HB.out⟩
theorem name_none (k : Int) (w : World) (hk : k < 1 ∨ 15 < k) :
    Calls Tryd.prog 19 #[.agg #[.int .i64 k, .int .i64 0, .int .u32 0, .int .u32 0, .int .u32 0, .slice none 0 0, .bool false, .string ⟨#[]⟩]] w fun e w' => e = .returned (.string ⟨#[]⟩) ∧ Below w.heap.size w w' := by
  have hkn : knownB k = false := decide_eq_false (by omega)
  clear hk
  go_enter Tryd.func19, Tryd.ntmps19
  go_wp2_with fail
  refine (known_any k _).mono ?_; rintro e w' ⟨rfl, rfl⟩
  rw [hkn]
  go_wp2_with fail
  go_ret
  exact ⟨rfl, (Below.refl _ _).alloc (Nat.le_refl _) _⟩

theorem nm_get (j : Nat) (hj : j < 15) : ∀ w : World, (w.alloc (.cells ((nm.drop 1).map Value.string).toArray 9)).cell? ⟨w.heap.size, j, none⟩ = some (.string (nm.getD (j + 1) ⟨#[]⟩)) := fun w => by
  rw [cell_of_row _ _ _ _ _ (0, 0) (heap_alloc_new w _)]
  have h1 : j < (nm.drop 1).length := hj
  have h2 : j + 1 < nm.length := by show j + 1 < 16; omega
  simp [List.getD, h2]
end Go.Proofs.YtlmkgakimnmmdaaDoor.Pdu
