/-
  The document's own words on units: what a kind has; a word; a word of a text.
-/
import Derived.Test.YtaappdaolenkiaaDoorPduParse2
namespace Go.Proofs.YtaappdaolenkiaaDoor.Pdu
open Go.ChangeShapes Go.WideShapes Go.RowKit Own

theorem rdI_lit (κ : IntKind) (τ : TypeId) (w : World) (L : List Int) (cs : Array Value) (n : Nat) (hn : n = L.length) (h : cs = (L.map (Value.int κ)).toArray) : RdI κ (w.alloc (.cells cs τ)) (some ⟨w.heap.size, 0, none⟩) n L := by
  subst h hn
  refine ⟨rfl, fun _ => ⟨_, 0, rfl, by simp, fun i hi => ?_⟩⟩
  rw [cell_of_row _ _ _ _ _ (0, 0) (heap_alloc_new w _)]
  simp [List.getD, hi]

def inB (x : Int) (L : List Int) : Bool := L.any (· == x)
theorem inB_take (x : Int) (L : List Int) (k : Nat) (h : k < L.length) : inB x (L.take (k + 1)) = (inB x (L.take k) || (L.getD k 0 == x)) := by
  unfold inB; rw [take_succ' L 0 k h, List.any_append]; simp
theorem inB_sub {x : Int} {L : List Int} {k : Nat} (h : inB x (L.take k) = true) : inB x L = true := by
  unfold inB at *
  rw [List.any_eq_true] at h ⊢
  obtain ⟨z, hz, he⟩ := h
  exact ⟨z, List.mem_of_mem_take hz, he⟩
def hasSQ (k : Int) : Bool := inB k [1, 2, 3, 4, 5, 6, 7, 9, 15]
def hasN (k : Int) : Bool := inB k [1, 2, 5, 6, 8, 9, 10, 11, 12, 15]
def mostI (k : Int) : Int := if inB k [1, 3, 5, 7] then 64 else if inB k [8, 13, 14] then 200 else 0
def lowB (x : Int) : Bool := decide (0 ≤ x ∧ x < 16777216)
theorem conv4 (w : World) (a b c d : Int) : (convert 67 9 (.slice (some ⟨w.heap.size, 0, none⟩) 4 4)).run Tryd.prog (w.alloc (.cells #[.int .u8 a, .int .u8 b, .int .u8 c, .int .u8 d] 5)) = .ok (.string (strOfNums [a, b, c, d])) (w.alloc (.cells #[.int .u8 a, .int .u8 b, .int .u8 c, .int .u8 d] 5)) := by
  refine run_convert_bytes_arg _ _ _ Tryd.underlying67 Tryd.underlying5 _ _ _ _ [a, b, c, d] rfl ?_ _ Tryd.underlying9
  intro i hi
  rw [Nat.zero_add, World.cell?_alloc_at _ _ _ _ rfl]
  match i, hi with
  | 0, _ | 1, _ | 2, _ | 3, _ => rfl
theorem conv1 (w : World) (a : Int) : (convert 67 9 (.slice (some ⟨w.heap.size, 0, none⟩) 1 1)).run Tryd.prog (w.alloc (.cells #[.int .u8 a] 5)) = .ok (.string (strOfNums [a])) (w.alloc (.cells #[.int .u8 a] 5)) := by
  refine run_convert_bytes_arg _ _ _ Tryd.underlying67 Tryd.underlying5 _ _ _ _ [a] rfl ?_ _ Tryd.underlying9
  intro i hi
  rw [Nat.zero_add, World.cell?_alloc_at _ _ _ _ rfl]
  match i, hi with
  | 0, _ => rfl

def wordS (x : Int) : ByteArray := strOfNums (be4 x)
theorem wordS_of (x : Int) (h0 : 0 ≤ x) (h1 : x < 4294967296) : strOfNums [x / 16777216, x / 65536 % 256, x / 256 % 256, x % 256] = wordS x := by
  unfold wordS be4
  rw [show x / 16777216 % 256 = x / 16777216 from by omega]
theorem idx_str (s : ByteArray) (i : Nat) (x : UInt8) (z : Int) (hz : z = (i : Int)) (h : s.data.toList[i]? = some x) (W : World) : (Instr.index 9 (.string s) (.int .i64 z)).run Tryd.prog W = .ok (.int .u8 (x.toNat : Int)) W := by
  subst hz
  obtain ⟨hi, he⟩ := List.getElem?_eq_some_iff.1 h
  have hi2 : i < s.size := by simpa using hi
  have he2 : s[i] = x := he
  rw [run_index_string (h := Tryd.underlying9), dif_pos ⟨by omega, by omega⟩]
  simp only [Int.toNat_natCast, he2]
theorem ret_int' {a b : Int} (h : a = b) : Ending.returned (.int .i64 a) = .returned (.int .i64 b) := by rw [h]
end Go.Proofs.YtaappdaolenkiaaDoor.Pdu
