/-
  Units as the laws make them: numbers from 0 on, few of them, short data.
-/
import Derived.Test.YtempfbfbllamoaaDoorPduRAt
import Derived.Test.YtempfbfbllamoaaDoorQuietTail
import Derived.Deep.RegionWith
import Derived.Deep.RegionHeld3
import Derived.Laws.ResultCell
import Derived.Deep.DeepCutAuto
namespace Go.Proofs.YtempfbfbllamoaaDoor.Pdu
open Go.ChangeShapes Go.WideShapes Go.RowKit Own

def clampU (x : Int) : Int := max 0 (min x 4294967295)
theorem clampU_bounds (x : Int) : 0 ≤ clampU x ∧ clampU x ≤ 4294967295 := by unfold clampU; omega
def cutL (s : ByteArray) (n : Nat) : ByteArray := if n < s.size then s.extract 0 n else s
theorem cutL_le (s : ByteArray) (n : Nat) : (cutL s n).size ≤ n ∧ (cutL s n).size ≤ s.size := by
  unfold cutL
  split
  · rw [ByteArray.size_extract]; omega
  · omega
theorem cut_any (s : ByteArray) (n : Int) (k : Nat) (w : World) (hn : n = (k : Int)) :
    Calls Tryd.prog 5 #[.string s, .int .i64 n] w fun e w' => e = .returned (.string (cutL s k)) ∧ w = w' := by
  subst hn
  by_cases h : k < s.size
  · go_enter Tryd.func5, Tryd.ntmps5
    go_wp2_with fail
    go_ret
    refine ⟨?_, rfl⟩
    unfold cutL
    rw [if_pos h]
    rfl
  · go_enter Tryd.func5, Tryd.ntmps5
    go_wp2_with fail
    go_ret
    refine ⟨?_, rfl⟩
    unfold cutL
    rw [if_neg h]
    rfl

theorem own_setCell {κ : IntKind} {τ : TypeId} {w : World} {B : Nat} {v : Value} {L : List Int} {p : Addr} {u : Value} (h : OwnI κ τ w B v L) (hp : p.block < B) : OwnI κ τ (w.setCell p u) B v L := by
  refine ⟨h.1, ?_⟩
  rcases h.2 with hn | ⟨g, cap, cur, rfl, hg, hh, rest⟩
  · exact .inl hn
  · exact .inr ⟨g, cap, cur, rfl, hg, (heap_setCell_other _ _ _ _ (by omega)).trans hh, rest⟩
theorem own_setRow {κ : IntKind} {τ : TypeId} {w : World} {B : Nat} {v : Value} {L : List Int} {g : Nat} {cs : Array Value} (h : OwnI κ τ w B v L) (hp : g < B) : OwnI κ τ (w.setRow g cs) B v L := by
  refine ⟨h.1, ?_⟩
  rcases h.2 with hn | ⟨g', cap, cur, rfl, hg, hh, rest⟩
  · exact .inl hn
  · exact .inr ⟨g', cap, cur, rfl, hg, (by rw [setRow_other _ _ _ _ (by omega)]; exact hh), rest⟩
theorem info_ref : (Tryd.prog.info? 34).map (·.size) = some 8 := by kernel_rfl
theorem infoI : Info .i64 3 8 := by unfold Info; kernel_rfl
def fewL (L : List Int) : List Int := (L.take 140).map clampU
end Go.Proofs.YtempfbfbllamoaaDoor.Pdu
