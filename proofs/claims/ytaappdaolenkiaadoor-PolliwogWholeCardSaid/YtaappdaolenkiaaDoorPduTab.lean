/-
  Units: the table of what each kind has.
-/
import Derived.Test.YtaappdaolenkiaaDoorFlat
import Derived.WalkKit
import Derived.ProofKit
import Derived.OpenShut
import Derived.Lib.Hide
import Derived.Deep.QuietTactic
namespace Go.Proofs.YtaappdaolenkiaaDoor.Pdu
open Go.ChangeShapes Go.WideShapes Go.RowKit

structure Form where
  sq : Int
  n : Int
  ps : Int
  mr : Int
  few : Int
  long : Int
  self : Bool
  data : Int

def top : Int := 16777215
def formOf : Nat → Form
  | 1 => ⟨255, top, 0, 0, 0, 0, false, 64⟩
  | 2 => ⟨255, top, 0, 0, 0, 0, false, 0⟩
  | 3 => ⟨255, 0, 0, 0, 0, 0, true, 64⟩
  | 4 => ⟨255, 0, 0, 0, 0, 0, false, 0⟩
  | 5 => ⟨255, top, 0, 0, 0, 0, false, 64⟩
  | 6 => ⟨255, top, 0, 0, 0, 0, false, 0⟩
  | 7 => ⟨255, 0, 0, 0, 0, 0, false, 64⟩
  | 8 => ⟨0, top, 0, 0, 0, 0, false, 200⟩
  | 9 => ⟨255, top, 0, 0, 0, 0, false, 0⟩
  | 10 => ⟨0, top, top, 0, 0, 0, false, 0⟩
  | 11 => ⟨0, top, top, top, 0, 128, false, 0⟩
  | 12 => ⟨0, top, 0, top, 2, 2, false, 0⟩
  | 13 => ⟨0, 0, 0, 0, 0, 0, false, 200⟩
  | 14 => ⟨0, 0, 0, 0, 0, 0, false, 200⟩
  | 15 => ⟨255, top, 0, 0, 0, 0, false, 0⟩
  | _ => ⟨0, 0, 0, 0, 0, 0, false, 0⟩

/-- a form as its cells -/
def Form.cells (f : Form) : List Value := [.int .i64 f.sq, .int .u32 f.n, .int .u32 f.ps, .int .u32 f.mr, .int .i64 f.few, .int .i64 f.long, .bool f.self, .int .i64 f.data]

/-- the table lies as the program's text lays it -/
def Forms (w : World) : Prop := 0 < w.heap.size ∧ ∀ k, k < 16 → ∀ j, j < 8 → w.cell? ⟨0, k * 8 + j, none⟩ = (formOf k).cells[j]?

theorem flat_forms : Base.flat (Rows.laid_polliwog_pdu_forms (H := Unit)) = (List.range 16).flatMap fun k => (formOf k).cells := by rfl
theorem forms_at : ∀ k, k < 16 → ∀ j, j < 8 → ((List.range 16).flatMap fun k => (formOf k).cells)[k * 8 + j]? = (formOf k).cells[j]? := by
  intro k hk j hj
  match k, hk with
  | 0, _ | 1, _ | 2, _ | 3, _ | 4, _ | 5, _ | 6, _ | 7, _ | 8, _ | 9, _ | 10, _ | 11, _ | 12, _ | 13, _ | 14, _ | 15, _ =>
    match j, hj with
    | 0, _ | 1, _ | 2, _ | 3, _ | 4, _ | 5, _ | 6, _ | 7, _ => rfl
    | j + 8, h => exact absurd h (by omega)
  | k + 16, h => exact absurd h (by omega)

def formShape : Base.Fl := .arr 16 (.struct [.int .i64, .int .u32, .int .u32, .int .u32, .int .i64, .int .i64, .bool, .int .i64])

theorem forms_laid {L : List (String × DataW Unit)} {w : World} (hp : (L.all fun x => x.2.handleName?.isNone) = true) (h : laidMetH Tryd.prog L w) (hm : ("polliwog/pdu.forms", Rows.laid_polliwog_pdu_forms) ∈ L) : Forms w := by
  rw [MakeChecks.laidMetH_plain _ _ _ hp] at h
  obtain ⟨ps, hl, _⟩ := h
  have hc : ∀ i, w.cell? ⟨0, i, none⟩ = (Base.flat (Rows.laid_polliwog_pdu_forms (H := Unit)))[i]? := fun i =>
    Base.laid_cells (g := 0) formShape (by kernel_rfl) rfl (by kernel_rfl) L ps hl hm i
  rw [flat_forms] at hc
  refine ⟨block_lt_of_cell (hc 0), fun k hk j hj => ?_⟩
  rw [hc, forms_at k hk j hj]

theorem Forms.below {w w' : World} {b : Nat} (h : Forms w) (hb : Below b w w') (hb0 : w.heap.size ≤ b) : Forms w' :=
  ⟨Nat.lt_of_lt_of_le h.1 hb.size, fun k hk j hj => ((hb.mono hb0).cell (p := ⟨0, k * 8 + j, none⟩) h.1).trans (h.2 k hk j hj)⟩
theorem Forms.alloc {w : World} (h : Forms w) (o : Obj) : Forms (w.alloc o) := h.below ((Below.refl w.heap.size w).alloc (Nat.le_refl _) o) (Nat.le_refl _)
theorem Forms.drewN {w : World} (h : Forms w) (n : Nat) : Forms (w.drewN n) := ⟨h.1, fun k hk j hj => by simpa using h.2 k hk j hj⟩
theorem Forms.drew {w : World} (h : Forms w) : Forms w.drew := h.drewN 1

/-- what is read of one kind -/
theorem Forms.row {w : World} (h : Forms w) (k : Nat) (hk : k < 16) :
    w.cell? ⟨0, k * 8, none⟩ = some (.int .i64 (formOf k).sq) ∧ w.cell? ⟨0, k * 8 + 1, none⟩ = some (.int .u32 (formOf k).n) ∧
    w.cell? ⟨0, k * 8 + 2, none⟩ = some (.int .u32 (formOf k).ps) ∧ w.cell? ⟨0, k * 8 + 3, none⟩ = some (.int .u32 (formOf k).mr) ∧
    w.cell? ⟨0, k * 8 + 4, none⟩ = some (.int .i64 (formOf k).few) ∧ w.cell? ⟨0, k * 8 + 5, none⟩ = some (.int .i64 (formOf k).long) ∧
    w.cell? ⟨0, k * 8 + 6, none⟩ = some (.bool (formOf k).self) ∧ w.cell? ⟨0, k * 8 + 7, none⟩ = some (.int .i64 (formOf k).data) :=
  ⟨h.2 k hk 0 (by omega), h.2 k hk 1 (by omega), h.2 k hk 2 (by omega), h.2 k hk 3 (by omega), h.2 k hk 4 (by omega), h.2 k hk 5 (by omega), h.2 k hk 6 (by omega), h.2 k hk 7 (by omega)⟩

theorem formOf_bounds (k : Nat) : 0 ≤ (formOf k).sq ∧ (formOf k).sq ≤ 255 ∧ 0 ≤ (formOf k).n ∧ (formOf k).n ≤ 16777215 ∧ 0 ≤ (formOf k).ps ∧ (formOf k).ps ≤ 16777215 ∧ 0 ≤ (formOf k).mr ∧ (formOf k).mr ≤ 16777215 ∧
    0 ≤ (formOf k).few ∧ (formOf k).few ≤ 2 ∧ 0 ≤ (formOf k).long ∧ (formOf k).long ≤ 128 ∧ 0 ≤ (formOf k).data ∧ (formOf k).data ≤ 200 := by
  match k with
  | 0 | 1 | 2 | 3 | 4 | 5 | 6 | 7 | 8 | 9 | 10 | 11 | 12 | 13 | 14 | 15 => decide
  | k + 16 => simp [formOf]
end Go.Proofs.YtaappdaolenkiaaDoor.Pdu
