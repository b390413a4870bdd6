/-
  What is done with units, by the state: letters, names, and which requests may be.
-/
import Derived.Test.YtkphompjahcjiaaDoorRules3
import Derived.Deep.DeepCutAuto
namespace Go.Proofs.YtkphompjahcjiaaDoor.Rules
open Go.ChangeShapes Go.WideShapes Go.RowKit Go.Maps Own

/-! ### letters and names -/
def letL : List Int := [0, 66, 67, 69, 70, 74, 75, 68, 65, 76, 71, 72, 73, 0, 0, 77]
def namL : List ByteArray := [⟨#[]⟩, ⟨#[105, 100, 108, 101]⟩, ⟨#[111, 117, 116, 103, 111, 105, 110, 103]⟩, ⟨#[105, 110, 99, 111, 109, 105, 110, 103]⟩, ⟨#[108, 101, 97, 118, 105, 110, 103]⟩, ⟨#[114, 101, 115, 121, 110, 99, 105, 110, 103]⟩,
  ⟨#[114, 101, 115, 121, 110, 99, 101, 100]⟩, ⟨#[114, 101, 99, 111, 118, 101, 114, 105, 110, 103]⟩, ⟨#[97, 110, 115, 119, 101, 114, 101, 100]⟩, ⟨#[114, 101, 99, 111, 118, 101, 114, 101, 100]⟩, ⟨#[114, 101, 97, 100, 121]⟩]
structure Tabs (w : World) : Prop where
  lt0 : 1 < w.heap.size
  letters : ∀ i, i < 16 → w.cell? ⟨1, i, none⟩ = some (.int .u8 (letL.getD i 0))
theorem Tabs.below {w w' : World} (h : Tabs w) (hb : Below w.heap.size w w') : Tabs w' :=
  ⟨Nat.lt_of_lt_of_le h.lt0 hb.size, fun i hi => (cell_below hb h.lt0).trans (h.letters i hi)⟩
theorem flat_letters : ∀ i, i < 16 → (Base.flat (Rows.laid_polliwog_rules_letters (H := Unit)))[i]? = some (.int .u8 (letL.getD i 0)) := by
  intro i hi
  match i, hi with
  | 0, _ | 1, _ | 2, _ | 3, _ | 4, _ | 5, _ | 6, _ | 7, _ | 8, _ | 9, _ | 10, _ | 11, _ | 12, _ | 13, _ | 14, _ | 15, _ => rfl
  | i + 16, h => exact absurd h (by omega)
theorem tabs_laid {L : List (String × DataW Unit)} {w : World} (hp : (L.all fun x => x.2.handleName?.isNone) = true) (h : laidMetH Tryd.prog L w) (hm : ("polliwog/rules.letters", Rows.laid_polliwog_rules_letters) ∈ L) : Tabs w := by
  rw [MakeChecks.laidMetH_plain _ _ _ hp] at h
  obtain ⟨ps, hl, _⟩ := h
  have hc : ∀ i, w.cell? ⟨1, i, none⟩ = (Base.flat (Rows.laid_polliwog_rules_letters (H := Unit)))[i]? := fun i =>
    Base.laid_cells (g := 1) (.arr 16 (.int .u8)) (by kernel_rfl) rfl (by kernel_rfl) L ps hl hm i
  exact ⟨block_lt_of_cell (hc 0), fun i hi => (hc i).trans (flat_letters i hi)⟩

def letterI (k : Int) : Int := if 0 ≤ k ∧ k < 16 then letL.getD k.toNat 0 else 0
theorem letter_any (k : Int) (w : World) (h : Tabs w) :
    Calls Tryd.prog 76 #[.int .i64 k] w fun e w' => e = .returned (.int .u8 (letterI k)) ∧ w = w' := by
  by_cases hk : 0 ≤ k ∧ k < 16
  · rw [show letterI k = letL.getD k.toNat 0 from if_pos hk]
    obtain ⟨j, rfl⟩ : ∃ j : Nat, k = (j : Int) := ⟨k.toNat, by omega⟩
    have hj : (j : Int) < 16 := hk.2
    have hc := h.letters j (by omega)
    rw [show ((j : Int)).toNat = j from by omega]
    generalize letL.getD j 0 = x at *
    clear hk h
    go_enter Tryd.func76, Tryd.ntmps76
    go_wp2_with fail
    go_ret
    exact ⟨rfl, rfl⟩
  · rw [show letterI k = 0 from if_neg hk]
    have hk2 : k < 0 ∨ 16 ≤ k := by omega
    clear hk
    rcases hk2 with hk | hk
    all_goals
      go_enter Tryd.func76, Tryd.ntmps76
      go_wp2_with fail
      go_ret
      exact ⟨rfl, rfl⟩

def litL2 : Array Value := ((letL.drop 1).map (Value.int .u8)).toArray
theorem litL2_at : ∀ i, i < 15 → litL2[i]? = some (.int .u8 (letL.getD (i + 1) 0)) := by
  intro i hi
  match i, hi with
  | 0, _ | 1, _ | 2, _ | 3, _ | 4, _ | 5, _ | 6, _ | 7, _ | 8, _ | 9, _ | 10, _ | 11, _ | 12, _ | 13, _ | 14, _ => rfl
  | i + 15, h => exact absurd h (by omega)
set_option maxRecDepth 100000 in
theorem rletter_any (k : Int) (w : World) :
    Calls Tryd.prog 63 #[.int .i64 k] w fun e w' => e = .returned (.int .u8 (letterI k)) ∧ Below w.heap.size w w' := by
  have HB := Lib.hid (below_lit w (.cells litL2 5))
  by_cases hk : 1 ≤ k ∧ k ≤ 15
  · rw [show letterI k = letL.getD k.toNat 0 from if_pos (by omega)]
    obtain ⟨j, rfl⟩ : ∃ j : Nat, k = (j : Int) + 1 := ⟨(k - 1).toNat, by omega⟩
    have hj : (j : Int) < 15 := by omega
    have hc : (w.alloc (.cells litL2 5)).cell? ⟨w.heap.size, j, none⟩ = some (.int .u8 (letL.getD (j + 1) 0)) := by
      have hblk : (w.alloc (.cells litL2 5)).heap[w.heap.size]? = some (.cells litL2 5 (0, 0)) := (MapKept.heap_alloc w _).1
      exact (cell_of_row _ _ _ _ _ _ hblk).trans (litL2_at j (by omega))
    rw [show ((j : Int) + 1).toNat = j + 1 from by omega]
    generalize letL.getD (j + 1) 0 = x at *
    clear hk
    go_enter Tryd.func63, Tryd.ntmps63
    go_upto_region 2 with (fail)
    change Code.wp _ _ _ _ (w.alloc (.cells litL2 5))
    generalize w.alloc (.cells litL2 5) = w1 at *
    go_wp2_with fail
    go_ret
    exact ⟨rfl, HB.out⟩
  · have hk2 : k < 1 ∨ 15 < k := by omega
    have hl : letterI k = 0 := by
      unfold letterI
      split
      · rename_i h
        rcases (show k = 0 by omega) with rfl
        rfl
      · rfl
    rw [hl]
    clear hk hl
    rcases hk2 with hk | hk
    all_goals
      go_enter Tryd.func63, Tryd.ntmps63
      go_wp2_with fail
      go_ret
      exact ⟨rfl, HB.out⟩

def knownB (s : Int) : Bool := decide (1 ≤ s ∧ s ≤ 10)
theorem known_any (s : Int) (w : World) :
    Calls Tryd.prog 66 #[.int .i64 s] w fun e w' => e = .returned (.bool (knownB s)) ∧ w = w' := by
  by_cases h0 : 1 ≤ s
  · by_cases h5 : s ≤ 10
    · rw [show knownB s = true from decide_eq_true ⟨h0, h5⟩]
      go_enter Tryd.func66, Tryd.ntmps66
      go_wp2_with fail
      go_ret
      exact ⟨rfl, rfl⟩
    · rw [show knownB s = false from decide_eq_false (fun h => h5 h.2)]
      go_enter Tryd.func66, Tryd.ntmps66
      go_wp2_with fail
      go_ret
      exact ⟨rfl, rfl⟩
  · rw [show knownB s = false from decide_eq_false (fun h => h0 h.1)]
    go_enter Tryd.func66, Tryd.ntmps66
    go_wp2_with fail
    go_ret
    exact ⟨rfl, rfl⟩

def nameI (s : Int) : ByteArray := if 1 ≤ s ∧ s ≤ 10 then namL.getD s.toNat ⟨#[]⟩ else ⟨#[]⟩
end Go.Proofs.YtkphompjahcjiaaDoor.Rules
