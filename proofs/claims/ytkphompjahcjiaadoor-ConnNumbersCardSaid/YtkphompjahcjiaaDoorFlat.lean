/-
  A package-level variable that is an array or a struct of plain values: its cells are the datum's, one behind the other.
-/
import Derived.Test.YtkphompjahcjiaaDoorLaid
namespace Go.Proofs.YtkphompjahcjiaaDoor.Base
open Go.ChangeShapes Go.WideShapes Go.ChangeAt Go.RowKit

inductive Fl where
  | int (k : IntKind)
  | bool
  | str
  | arr (n : Nat) (e : Fl)
  | struct (fs : List Fl)

mutual
def Fl.size : Fl → Nat
  | .struct fs => Fl.sizes fs
  | .arr n e => n * e.size
  | .int _ => 1
  | .bool => 1
  | .str => 1
def Fl.sizes : List Fl → Nat
  | [] => 0
  | s :: r => s.size + Fl.sizes r
end

mutual
def Fl.ok (P : Program) : Fl → TypeId → Bool
  | .int k, t => match P.underlying t with
    | some (.int k') => decide (k' = k)
    | _ => false
  | .bool, t => match P.underlying t with
    | some .bool => true
    | _ => false
  | .str, t => match P.underlying t with
    | some .string => true
    | _ => false
  | .arr n e, t => match P.underlying t with
    | some (.array n' e') => decide (n' = n) && decide (P.cellsOf t = n * e.size) && decide (P.cellsOf e' = e.size) && Fl.ok P e e'
    | _ => false
  | .struct fs, t => match P.underlying t with
    | some (.struct fields) => decide (P.cellsOf t = Fl.sizes fs) && Fl.okEach P fs fields.toList 0
    | _ => false
def Fl.okEach (P : Program) : List Fl → List Field → Nat → Bool
  | [], [], _ => true
  | s :: r, f :: fr, off => decide (f.offset = off) && decide (P.cellsOf f.type = s.size) && Fl.ok P s f.type && Fl.okEach P r fr (off + s.size)
  | _, _, _ => false
end

mutual
def flat {H : Type} : DataW H → List Value
  | .lit (.int k z) => [.int k z]
  | .lit (.bool b) => [.bool b]
  | .lit (.string s) => [.string ⟨s.toArray⟩]
  | .agg ds => flatAll ds
  | _ => []
def flatAll {H : Type} : List (DataW H) → List Value
  | [] => []
  | d :: r => flat d ++ flatAll r
end

theorem take_split {α : Type} (l : List α) (off a b : Nat) : (l.drop off).take (a + b) = (l.drop off).take a ++ (l.drop (off + a)).take b := by
  rw [List.take_add, List.drop_drop]

theorem flat_array {H : Type} {g : List Value → Option (DataW H × List MemPlace)} {cs : List Value} {c : Nat} : ∀ (n i : Nat) (xs : List (DataW H × List MemPlace)), xs.length = n →
    (∀ j, j < n → g ((cs.drop ((i + j) * c)).take c) = xs[j]?) → (∀ l x, g l = some x → l = flat x.1) → (cs.drop (i * c)).take (n * c) = flatAll (xs.map (·.1))
  | 0, i, xs, h, _, _ => by
    obtain rfl := List.eq_nil_of_length_eq_zero h
    simp [flatAll]
  | n + 1, i, x :: xs, h, hj, hg => by
    have h0 := hj 0 (by omega)
    simp only [Nat.add_zero, List.getElem?_cons_zero] at h0
    have h1 := hg _ _ h0
    have h2 := flat_array (c := c) (cs := cs) n (i + 1) xs (by simpa using h) (fun j hj' => by
      have := hj (j + 1) (by omega)
      rw [show i + (j + 1) = i + 1 + j by omega] at this
      simpa using this) hg
    rw [show (n + 1) * c = c + n * c by rw [Nat.succ_mul]; omega, take_split, h1, show i * c + c = (i + 1) * c by rw [Nat.succ_mul], h2]
    rfl

mutual
theorem flat_of_trod {H : Type} {enc : TypeId × Value → H} {P : Program} {W : World} {base : Nat} {sp : Nat → Bool} {held : Bool} : ∀ (s : Fl) (t : TypeId) (fuel : Nat) (cs : List Value) (x : DataW H × List MemPlace), s.ok P t = true →
    DataW.trod enc P W base sp held fuel t cs = some x → cs = flat x.1
  | .int k, t, fuel, cs, x, hk, h => by
    unfold Fl.ok at hk
    split at hk
    · rename_i k' ht
      have e := of_decide_eq_true hk
      subst e
      obtain ⟨z, e0, e1, _⟩ := DataW.trod_int ht h
      subst e1
      exact e0
    · cases hk
  | .bool, t, fuel, cs, x, hk, h => by
    unfold Fl.ok at hk
    split at hk
    · rename_i ht
      obtain ⟨z, e0, e1⟩ := DataW.trod_bool ht h
      subst e1
      exact e0
    · cases hk
  | .str, t, fuel, cs, x, hk, h => by
    unfold Fl.ok at hk
    split at hk
    · rename_i ht
      obtain ⟨z, e0, e1, _⟩ := DataW.trod_string ht h
      subst e1
      simpa [flat] using e0
    · cases hk
  | .arr n e, t, fuel, cs, x, hk, h => by
    unfold Fl.ok at hk
    split at hk
    · rename_i n' e' ht
      simp only [Bool.and_eq_true, decide_eq_true_eq] at hk
      obtain ⟨⟨⟨h1, h2⟩, h3⟩, h4⟩ := hk
      subst h1
      obtain ⟨xs, m, _, rfl, hl, hn, hel⟩ := DataW.trod_array ht h
      have := flat_array (g := DataW.trod enc P W base sp held m e') (c := P.cellsOf e') (cs := cs) n' 0 xs hn (fun j hj => by simpa using hel j hj) (fun l x hx => flat_of_trod e e' m l x h4 hx)
      rw [Nat.zero_mul, List.drop_zero, List.take_of_length_le (by rw [hl, h2, h3]; exact Nat.le_refl _)] at this
      rw [this]
      simp [flat]
    · cases hk
  | .struct fs, t, fuel, cs, x, hk, h => by
    unfold Fl.ok at hk
    split at hk
    · rename_i fields ht
      simp only [Bool.and_eq_true, decide_eq_true_eq] at hk
      obtain ⟨hk1, hk2⟩ := hk
      obtain ⟨xs, n, _, rfl, hl, hxl, hf⟩ := DataW.trod_struct ht h
      have := flatAll_of_trod fs fields.toList 0 n cs xs hk2 (by omega) (by simpa using hxl) (fun i f hi => hf i f (by simpa using hi))
      simpa [flat] using this
    · cases hk
theorem flatAll_of_trod {H : Type} {enc : TypeId × Value → H} {P : Program} {W : World} {base : Nat} {sp : Nat → Bool} {held : Bool} : ∀ (ss : List Fl) (fields : List Field) (off n : Nat) (cs : List Value) (xs : List (DataW H × List MemPlace)), Fl.okEach P ss fields off = true →
    cs.length = off + Fl.sizes ss → xs.length = fields.length → (∀ (i : Nat) (f : Field), fields[i]? = some f → DataW.trod enc P W base sp held n f.type ((cs.drop f.offset).take (P.cellsOf f.type)) = xs[i]?) → cs.drop off = flatAll (xs.map (·.1))
  | [], [], off, n, cs, xs, _, hl, hx, _ => by
    obtain rfl := List.eq_nil_of_length_eq_zero (by simpa using hx)
    simp only [List.map_nil, flatAll]
    exact List.drop_of_length_le (by simp [Fl.sizes] at hl; omega)
  | [], _ :: _, _, _, _, _, h, _, _, _ => by simp [Fl.okEach] at h
  | _ :: _, [], _, _, _, _, h, _, _, _ => by simp [Fl.okEach] at h
  | s :: ss, f :: fr, off, n, cs, xs, h, hl, hxl, hf => by
    match xs, hxl with
    | x :: xr, hxl =>
      simp only [Fl.okEach, Bool.and_eq_true, decide_eq_true_eq] at h
      obtain ⟨⟨⟨h1, h2⟩, h3⟩, h4⟩ := h
      simp only [Fl.sizes] at hl
      have h0 := hf 0 f rfl
      simp only [List.getElem?_cons_zero] at h0
      have hd := flat_of_trod s f.type n _ x h3 h0
      have hl' := flatAll_of_trod ss fr (off + s.size) n cs xr h4 (by omega) (by simpa using hxl) (fun i f hi => by simpa using hf (i + 1) f (by simpa using hi))
      simp only [List.map_cons, flatAll]
      rw [← hd, ← hl', h1, h2, ← List.drop_drop, List.take_append_drop]
end

/-- a listed variable's cells, wherever it stands on the list -/
theorem laid_cells {P : Program} {W : World} {name : String} {d : DataW Unit} {g : Nat} {t : TypeId} (s : Fl)
    (hg : P.globalNamed name = some g) (hty : (P.globals[g]?).map (·.type) = some t) (hs : s.ok P t = true) :
    ∀ (L : List (String × DataW Unit)) (ps : List MemPlace), DataW.LaidVars P W L ps → (name, d) ∈ L → ∀ i, W.cell? ⟨g, i, none⟩ = (flat d)[i]?
  | (n', d') :: r, ps, ⟨g', t', cs, fuel, p, q, hg', ht', hvar, hd, hrest, _⟩, hm => by
    rcases List.mem_cons.1 hm with e | hm
    · cases e
      obtain rfl := Option.some.inj (hg.symm.trans hg')
      obtain rfl := Option.some.inj (hty.symm.trans ht')
      have := flat_of_trod s _ _ _ _ hs hd
      intro i
      rw [World.var?_cell hg hvar i, ← this]
      simp
    · exact laid_cells s hg hty hs r q hrest hm
end Go.Proofs.YtkphompjahcjiaaDoor.Base
