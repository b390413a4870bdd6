/-
  Events: the tables of requests and of signals, and of powers of ten.
-/
import Derived.Test.YtcepiapidcofiaaDoorFlat
import Derived.WalkKit
import Derived.ProofKit
import Derived.OpenShut
import Derived.Lib.Hide
import Derived.Lib.LaidTab
import Derived.Test.YtcepiapidcofiaaDoorShelfEv
import Derived.Deep.QuietTactic
namespace Go.Proofs.YtcepiapidcofiaaDoor.Ev
open Go.ChangeShapes Go.WideShapes Go.RowKit

theorem ret_bool {a b : Bool} (h : a = b) : Ending.returned (.bool a) = .returned (.bool b) := by rw [h]
theorem ret_int {k : IntKind} {a b : Int} (h : a = b) : Ending.returned (.int k a) = .returned (.int k b) := by rw [h]
theorem ret_str {a b : ByteArray} (h : a = b) : Ending.returned (.string a) = .returned (.string b) := by rw [h]

/-- what a kind of requests may have: bytes, least, most -/
def formOf : Nat → Int × Int × Int
  | 1 => (64, 0, 0) | 3 => (64, 0, 0) | 4 => (64, 0, 0) | 7 => (200, 0, 0) | 8 => (200, 0, 0) | 9 => (200, 0, 0) | 10 => (0, 1, 64) | _ => (0, 0, 0)
def formCells (f : Int × Int × Int) : List Value := [.int .i64 f.1, .int .i64 f.2.1, .int .i64 f.2.2]
def formShape : Base.Fl := .arr 12 (.struct [.int .i64, .int .i64, .int .i64])
theorem flat_forms : Base.flat (Rows.laid_polliwog_event_forms (H := Unit)) = (List.range 12).flatMap fun k => formCells (formOf k) := by rfl
theorem forms_at : ∀ k, k < 12 → ∀ j, j < 3 → ((List.range 12).flatMap fun k => formCells (formOf k))[k * 3 + j]? = (formCells (formOf k))[j]? := by
  intro k hk j hj
  match k, hk with
  | 0, _ | 1, _ | 2, _ | 3, _ | 4, _ | 5, _ | 6, _ | 7, _ | 8, _ | 9, _ | 10, _ | 11, _ =>
    match j, hj with
    | 0, _ | 1, _ | 2, _ => rfl
    | j + 3, h => exact absurd h (by omega)
  | k + 12, h => exact absurd h (by omega)
def Forms (w : World) : Prop := 1 < w.heap.size ∧ ∀ k, k < 12 → ∀ j, j < 3 → w.cell? ⟨1, k * 3 + j, none⟩ = (formCells (formOf k))[j]?
theorem forms_laid {L : List (String × DataW Unit)} {w : World} (hp : (L.all fun x => x.2.handleName?.isNone) = true) (h : laidMetH Tryd.prog L w) (hm : ("polliwog/event.forms", Rows.laid_polliwog_event_forms) ∈ L) : Forms w := by
  rw [MakeChecks.laidMetH_plain _ _ _ hp] at h
  obtain ⟨ps, hl, _⟩ := h
  have hc : ∀ i, w.cell? ⟨1, i, none⟩ = (Base.flat (Rows.laid_polliwog_event_forms (H := Unit)))[i]? := fun i =>
    Base.laid_cells (g := 1) formShape (by kernel_rfl) rfl (by kernel_rfl) L ps hl hm i
  rw [flat_forms] at hc
  refine ⟨block_lt_of_cell (hc 0), fun k hk j hj => ?_⟩
  rw [hc, forms_at k hk j hj]
theorem Forms.below {w w' : World} (h : Forms w) (hb : Below w.heap.size w w') : Forms w' :=
  ⟨Nat.lt_of_lt_of_le h.1 hb.size, fun k hk j hj => (hb.cell (p := ⟨1, k * 3 + j, none⟩) h.1).trans (h.2 k hk j hj)⟩
theorem Forms.row {w : World} (h : Forms w) (k : Nat) (hk : k < 12) :
    w.cell? ⟨1, k * 3, none⟩ = some (.int .i64 (formOf k).1) ∧ w.cell? ⟨1, k * 3 + 1, none⟩ = some (.int .i64 (formOf k).2.1) ∧ w.cell? ⟨1, k * 3 + 2, none⟩ = some (.int .i64 (formOf k).2.2) :=
  ⟨h.2 k hk 0 (by omega), h.2 k hk 1 (by omega), h.2 k hk 2 (by omega)⟩

/-- what a signal's text begins with; have its data a place in it? -/
def lookOf : Nat → List UInt8 × Bool
  | 1 => ([101, 115, 116, 97, 98, 108, 105, 115, 104], true)
  | 2 => ([101, 115, 116, 97, 98, 108, 105, 115, 104, 101, 100], false)
  | 3 => ([114, 101, 108, 101, 97, 115, 101], true)
  | 4 => ([114, 101, 108, 101, 97, 115, 101, 100], false)
  | 5 => ([114, 101, 115, 121, 110, 99], true)
  | 6 => ([114, 101, 115, 121, 110, 99, 101, 100], false)
  | 7 => ([114, 101, 99, 111, 118, 101, 114], false)
  | 8 => ([100, 97, 116, 97], true)
  | 9 => ([117, 110, 105, 116], true)
  | 10 => ([109, 97, 110, 97, 103, 101], true)
  | 11 => ([114, 101, 116, 114, 105, 101, 118, 101, 100], true)
  | 12 => ([101, 114, 114, 111, 114], false)
  | _ => ([], false)
def lookCells (f : List UInt8 × Bool) : List Value := [.string ⟨f.1.toArray⟩, .bool f.2]
def lookShape : Base.Fl := .arr 13 (.struct [.str, .bool])
theorem flat_looks : Base.flat (Rows.laid_polliwog_event_looks (H := Unit)) = (List.range 13).flatMap fun k => lookCells (lookOf k) := by rfl
theorem looks_at : ∀ k, k < 13 → ∀ j, j < 2 → ((List.range 13).flatMap fun k => lookCells (lookOf k))[k * 2 + j]? = (lookCells (lookOf k))[j]? := by
  intro k hk j hj
  match k, hk with
  | 0, _ | 1, _ | 2, _ | 3, _ | 4, _ | 5, _ | 6, _ | 7, _ | 8, _ | 9, _ | 10, _ | 11, _ | 12, _ =>
    match j, hj with
    | 0, _ | 1, _ => rfl
    | j + 2, h => exact absurd h (by omega)
  | k + 13, h => exact absurd h (by omega)
def Looks (w : World) : Prop := 0 < w.heap.size ∧ ∀ k, k < 13 → ∀ j, j < 2 → w.cell? ⟨0, k * 2 + j, none⟩ = (lookCells (lookOf k))[j]?
theorem looks_laid {L : List (String × DataW Unit)} {w : World} (hp : (L.all fun x => x.2.handleName?.isNone) = true) (h : laidMetH Tryd.prog L w) (hm : ("polliwog/event.looks", Rows.laid_polliwog_event_looks) ∈ L) : Looks w := by
  rw [MakeChecks.laidMetH_plain _ _ _ hp] at h
  obtain ⟨ps, hl, _⟩ := h
  have hc : ∀ i, w.cell? ⟨0, i, none⟩ = (Base.flat (Rows.laid_polliwog_event_looks (H := Unit)))[i]? := fun i =>
    Base.laid_cells (g := 0) lookShape (by kernel_rfl) rfl (by kernel_rfl) L ps hl hm i
  rw [flat_looks] at hc
  refine ⟨block_lt_of_cell (hc 0), fun k hk j hj => ?_⟩
  rw [hc, looks_at k hk j hj]
theorem Looks.below {w w' : World} (h : Looks w) (hb : Below w.heap.size w w') : Looks w' :=
  ⟨Nat.lt_of_lt_of_le h.1 hb.size, fun k hk j hj => (hb.cell (p := ⟨0, k * 2 + j, none⟩) h.1).trans (h.2 k hk j hj)⟩
theorem Looks.row {w : World} (h : Looks w) (k : Nat) (hk : k < 13) :
    w.cell? ⟨0, k * 2, none⟩ = some (.string ⟨(lookOf k).1.toArray⟩) ∧ w.cell? ⟨0, k * 2 + 1, none⟩ = some (.bool (lookOf k).2) :=
  ⟨h.2 k hk 0 (by omega), h.2 k hk 1 (by omega)⟩

/-- a listed variable, as the shelf asks for it -/
theorem laid_var {P : Program} {W : World} {name : String} {d : DataW Unit} {g : Nat} {t : TypeId} (s : Base.Fl)
    (hg : P.globalNamed name = some g) (hty : (P.globals[g]?).map (·.type) = some t) (hs : s.ok P t = true) :
    ∀ (L : List (String × DataW Unit)) (ps : List MemPlace), DataW.LaidVars P W L ps → (name, d) ∈ L → W.var? P name = some (Base.flat d).toArray
  | (n', d') :: r, ps, ⟨g', t', cs, fuel, p, q, hg', ht', hvar, hd, hrest, _⟩, hm => by
    rcases List.mem_cons.1 hm with e | hm
    · cases e
      obtain rfl := Option.some.inj (hg.symm.trans hg')
      obtain rfl := Option.some.inj (hty.symm.trans ht')
      have := Base.flat_of_trod s _ _ _ _ hs hd
      rw [hvar, ← this]
    · exact laid_var s hg hty hs r q hrest hm
def Pows (w : World) : Prop := 2 < w.heap.size ∧ Lib.TabIs Tryd.prog w "internal/strconv.uint64pow10" .u64 Lib.pow10Tab
theorem pows_laid {L : List (String × DataW Unit)} {w : World} (hp : (L.all fun x => x.2.handleName?.isNone) = true) (h : laidMetH Tryd.prog L w) (hm : ("internal/strconv.uint64pow10", Rows.laid_internal_strconv_uint64pow10) ∈ L) : Pows w := by
  rw [MakeChecks.laidMetH_plain _ _ _ hp] at h
  obtain ⟨ps, hl, _⟩ := h
  have hv := laid_var (W := w) (d := Rows.laid_internal_strconv_uint64pow10) (g := 2) (.arr 20 (.int .u64)) (by kernel_rfl) rfl (by kernel_rfl) L ps hl hm
  have hc := Base.laid_cells (g := 2) (.arr 20 (.int .u64)) (by kernel_rfl) rfl (by kernel_rfl) L ps hl hm 0
  exact ⟨block_lt_of_cell hc, hv⟩
theorem Pows.below {w w' : World} (h : Pows w) (hb : Below w.heap.size w w') : Pows w' := by
  refine ⟨Nat.lt_of_lt_of_le h.1 hb.size, ?_⟩
  have h2 := h.2
  have hg : Tryd.prog.globalNamed "internal/strconv.uint64pow10" = some 2 := by kernel_rfl
  unfold Lib.TabIs World.var? at h2 ⊢
  rw [hg] at h2 ⊢
  simp only [Option.bind_some] at h2 ⊢
  rw [hb.block _ h.1]
  exact h2

/-- all that a signal's text reads -/
structure Tabs (w : World) : Prop where
  forms : Forms w
  looks : Looks w
  pows : Pows w
theorem Tabs.below {w w' : World} (h : Tabs w) (hb : Below w.heap.size w w') : Tabs w' := ⟨h.forms.below hb, h.looks.below hb, h.pows.below hb⟩
theorem Tabs.alloc {w : World} (h : Tabs w) (o : Obj) : Tabs (w.alloc o) := h.below ((Below.refl w.heap.size w).alloc (Nat.le_refl _) o)
theorem Tabs.drewN {w : World} (h : Tabs w) (n : Nat) : Tabs (w.drewN n) := h.below ⟨rfl, rfl, rfl, Nat.le_refl _, fun _ _ => rfl⟩
theorem tabs_laid {L : List (String × DataW Unit)} {w : World} (hp : (L.all fun x => x.2.handleName?.isNone) = true) (h : laidMetH Tryd.prog L w) (h1 : ("polliwog/event.forms", Rows.laid_polliwog_event_forms) ∈ L) (h2 : ("polliwog/event.looks", Rows.laid_polliwog_event_looks) ∈ L)
    (h3 : ("internal/strconv.uint64pow10", Rows.laid_internal_strconv_uint64pow10) ∈ L) : Tabs w := ⟨forms_laid hp h h1, looks_laid hp h h2, pows_laid hp h h3⟩
end Go.Proofs.YtcepiapidcofiaaDoor.Ev
