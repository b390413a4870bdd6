/-
  The document's own words on units: a unit's bytes.
-/
import Derived.Test.YtaappdaolenkiaaDoorPduRef2
namespace Go.Proofs.YtaappdaolenkiaaDoor.Pdu
open Go.ChangeShapes Go.WideShapes Go.RowKit Own

theorem str_app (A B : List Int) : strOfNums A ++ strOfNums B = strOfNums (A ++ B) := by
  unfold strOfNums
  rw [List.map_append]
  exact ByteArray.mk_append_mk _ _
theorem str_data (d : ByteArray) : strOfNums (dataI d) = d := by
  unfold strOfNums dataI
  apply ByteArray.ext
  apply Array.ext'
  simp only [List.map_map]
  conv => rhs; rw [← List.map_id d.data.toList]
  refine List.map_congr_left fun b _ => ?_
  simp
theorem str_size (L : List Int) : (strOfNums L).size = L.length := by
  unfold strOfNums
  show ((L.map _).toArray).size = _
  simp
theorem wordsL_length (f : Form) (u : U) : (wordsL f u).length ≤ u.list.length + 3 := by
  unfold wordsL; simp only [List.length_append]; split <;> split <;> split <;> simp <;> omega
/-- the words up to a place: data and its bytes 0, SQ, the List's first ones, PS, MR -/
def part0 (u : U) (z : Nat) : List Int := dataI u.data ++ List.replicate z 0
def partQ (u : U) : List Int := part0 u (padU u) ++ (if hasSQ u.kind then be4 u.sq else [])
def partL (u : U) (j : Nat) : List Int := partQ u ++ (u.list.take j).flatMap be4
def partP (u : U) : List Int := partL u u.list.length ++ (if u.kind = 10 ∨ u.kind = 11 then be4 u.ps else [])
def partM (u : U) : List Int := partP u ++ (if u.kind = 11 ∨ u.kind = 12 then be4 u.mr else [])
theorem bytes_parts (u : U) (k : Nat) (hk : u.kind = (k : Int)) (h1 : 1 ≤ k) (h2 : k ≤ 15) : bytesI u = partM u ++ be4 (lastI (padU u) u) := by
  obtain ⟨e1, _, e3, e4, _⟩ := form_facts k h1 h2
  unfold bytesI partM partP partL partQ part0 wordsL
  rw [hk, Int.toNat_natCast, e1, e3, e4, List.take_length]
  have p1 : ((k : Int) = 10 ∨ (k : Int) = 11) ↔ inB (k : Int) [10, 11] = true := by simp [inB]; omega
  have p2 : ((k : Int) = 11 ∨ (k : Int) = 12) ↔ inB (k : Int) [11, 12] = true := by simp [inB]; omega
  simp only [p1, p2]
  cases hasSQ (k : Int) <;> cases inB (k : Int) [10, 11] <;> cases inB (k : Int) [11, 12] <;> simp [List.append_assoc]
end Go.Proofs.YtaappdaolenkiaaDoor.Pdu
