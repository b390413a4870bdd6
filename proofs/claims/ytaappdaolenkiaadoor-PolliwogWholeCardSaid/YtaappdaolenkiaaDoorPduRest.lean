/-
  Units: what is left of a unit's bytes, and the words taken from its end.
-/
import Derived.Test.YtaappdaolenkiaaDoorPduBytes
import Derived.Handy
namespace Go.Proofs.YtaappdaolenkiaaDoor.Pdu
open Go.ChangeShapes Go.WideShapes Go.RowKit Own

def word4 (l : List UInt8) : Nat := l.foldl (fun a b => a * 256 + b.toNat) 0
theorem word4_snoc (l : List UInt8) (b : UInt8) : word4 (l ++ [b]) = word4 l * 256 + b.toNat := by simp [word4, List.foldl_append]
theorem word4_lt3 (l : List UInt8) (h : l.length ≤ 3) : word4 l < 16777216 := by
  match l, h with
  | [], _ => decide
  | [a], _ => have := a.toNat_lt; simp [word4]; omega
  | [a, b], _ => have := a.toNat_lt; have := b.toNat_lt; simp [word4]; omega
  | [a, b, c], _ => have := a.toNat_lt; have := b.toNat_lt; have := c.toNat_lt; simp [word4]; omega
def RestAt (w : World) (g : Nat) (s : ByteArray) (b : Bool) : Prop := w.heap[g]? = some (.cells #[.string s, .bool b] 73 (0, 0))
theorem RestAt.cells {w : World} {g : Nat} {s : ByteArray} {b : Bool} (h : RestAt w g s b) : w.cell? ⟨g, 0, none⟩ = some (.string s) ∧ w.cell? ⟨g, 1, none⟩ = some (.bool b) ∧ g < w.heap.size ∧ w.frozen? ⟨g, 0, none⟩ = false ∧ w.frozen? ⟨g, 1, none⟩ = false :=
  ⟨Go.Joins.cell_of_block h 0, Go.Joins.cell_of_block h 1, (Array.getElem?_eq_some_iff.1 h).1, by simp [World.frozen?, (show w.heap[g]? = _ from h)], by simp [World.frozen?, (show w.heap[g]? = _ from h)]⟩
theorem RestAt.below {w w' : World} {g : Nat} {s : ByteArray} {b : Bool} (h : RestAt w g s b) (hb : Below w.heap.size w w') : RestAt w' g s b := (hb.block _ h.cells.2.2.1).trans h
theorem grown_set (w : World) (g i : Nat) (v : Value) : w.grownBy (w.setCell ⟨g, i, none⟩ v) (some g) :=
  ⟨rfl, rfl, rfl, by simp, fun k _ hk => heap_setCell_other w _ k v (fun e => hk (by rw [e]))⟩

theorem shl_or (X : Nat) (b : UInt8) (hX : X < 16777216) : bits .or .u32 ((X : Int) * 256 % 4294967296) ((b.toNat : Int) % 4294967296) = ((X * 256 + b.toNat : Nat) : Int) := by
  have hb := b.toNat_lt
  rw [Int.emod_eq_of_lt (by omega) (by omega), Int.emod_eq_of_lt (by omega) (by omega)]
  rw [bits_join .u32 32 (by decide) (fun n h0 h1 => by rw [IntKind.wrap_u32]; omega) 8 _ _ (by omega) (by omega) (by omega) (by omega) (by omega) (by omega)]
  omega
theorem drop_getD (s : ByteArray) (E j : Nat) (h : E + j < s.size) : (s.data.toList.drop E).getD j 0 = s[E + j] := by
  rw [List.getD_eq_getElem?_getD, List.getElem?_drop, List.getElem?_eq_getElem (by simpa using h)]
  rfl

theorem word_short (g : Nat) (s : ByteArray) (b : Bool) (w : World) (h : RestAt w g s b) (hs : s.size < 4) :
    Calls Tryd.prog 31 #[.pointer (some ⟨g, 0, none⟩)] w fun e w' => e = .returned (.int .u32 0) ∧ RestAt w' g s true ∧ w.grownBy w' (some g) := by
  obtain ⟨c0, c1, hlt, f0, f1⟩ := h.cells
  have H := Lib.hid h
  clear h
  go_enter Tryd.func31, Tryd.ntmps31
  go_wp2_with fail
  go_ret
  exact ⟨rfl, heap_setCell_same _ _ _ _ _ _ H.out, grown_set _ _ _ _⟩

set_option maxRecDepth 100000 in
theorem word_any (g : Nat) (s : ByteArray) (b : Bool) (E : Nat) (w : World) (h : RestAt w g s b) (hs : s.size = E + 4) (hm : s.size ≤ maxLen) :
    Calls Tryd.prog 31 #[.pointer (some ⟨g, 0, none⟩)] w fun e w' => e = .returned (.int .u32 (word4 (s.data.toList.drop E) : Nat)) ∧ RestAt w' g (s.extract 0 E) b ∧ w.grownBy w' (some g) := by
  obtain ⟨c0, c1, hlt, f0, f1⟩ := h.cells
  have H := Lib.hid h
  have hE : (s.size : Int) - 4 = (E : Int) := by omega
  have hEs : (E : Int) ≤ (s.size : Int) := by omega
  have HS := Lib.hid hs
  have hEm : (E : Int) ≤ 9223372036854775803 := by unfold maxLen at hm; omega
  have HEm := Lib.hid hEm
  clear h hs hm
  go_enter Tryd.func31, Tryd.ntmps31
  go_wp2_with fail
  clear hEm
  go_loopw [4, 17] (fun v i wr => ∃ j : Nat, j ≤ 4 ∧ i = .int .i64 j ∧ v = .int .u32 (word4 ((s.data.toList.drop E).take j) : Nat) ∧ wr = w) (fun _ i _ => 4 - (intOf i).toNat)
  case atStart => exact ⟨0, by omega, rfl, rfl, rfl⟩
  case round =>
    obtain ⟨j, hj, rfl, rfl, rfl⟩ := hrel
    by_cases hlt4 : j < 4
    · obtain ⟨E1, hE1⟩ : ∃ n, n = E + j := ⟨_, rfl⟩
      obtain ⟨X, hX⟩ : ∃ X, word4 ((s.data.toList.drop E).take j) = X := ⟨_, rfl⟩
      have hX1 : (X : Int) < 16777216 := by
        have := word4_lt3 ((s.data.toList.drop E).take j) (by rw [List.length_take]; omega)
        omega
      rw [hX]
      have i0 : (E1 : Int) < (s.size : Int) := by have := HS.out; omega
      have w0 : IntKind.i64.wrap ((E : Int) + (j : Int)) = (E1 : Int) := by have := HEm.out; rw [IntKind.wrap_i64]; omega
      have HE1 := Lib.hid hE1
      have HX := Lib.hid hX
      have HX1 := Lib.hid hX1
      have HLT4 := Lib.hid hlt4
      have hltI : (j : Int) < 4 := by omega
      clear hE1 hX hX1 hj hlt4
      go_wp2_with fail
      go_roundw
      case rel =>
        refine ⟨j + 1, HLT4.out, by go_num, congrArg (Value.int .u32) ?_, by trivial⟩
        have hs := HS.out
        have h4 := HLT4.out
        have e1 := HE1.out
        rw [shl_or X _ (by have := HX1.out; omega), take_succ' _ 0 j (by rw [List.length_drop]; simp; omega), word4_snoc, HX.out, drop_getD s E j (by omega)]
        subst e1
        rfl
      case measure =>
        have h4 := HLT4.out
        simp [intOf]; omega
    · have hI : ¬ (j : Int) < 4 := by omega
      have e4 : (s.data.toList.drop E).take j = s.data.toList.drop E := List.take_of_length_le (by rw [List.length_drop]; have := HS.out; simp; omega)
      rw [e4]
      obtain ⟨X, hX⟩ : ∃ X, word4 (s.data.toList.drop E) = X := ⟨_, rfl⟩
      have HX := Lib.hid hX
      rw [hX]
      clear hX e4 hj hlt4
      go_wp2_with fail
      go_ret
      exact ⟨by rw [HX.out]; rfl, heap_setCell_same _ _ _ _ _ _ H.out, grown_set _ _ _ _⟩
end Go.Proofs.YtaappdaolenkiaaDoor.Pdu
