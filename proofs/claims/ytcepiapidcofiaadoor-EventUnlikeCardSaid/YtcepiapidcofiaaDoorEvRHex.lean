/-
  Events: bytes, as the document writes them.
-/
import Derived.Test.YtcepiapidcofiaaDoorEvHex
namespace Go.Proofs.YtcepiapidcofiaaDoor.Ev
open Go.ChangeShapes Go.WideShapes Go.RowKit Own

def byS (b : Bool) : ByteArray := if b then ⟨#[115, 101, 108, 102]⟩ else ⟨#[117, 115, 101, 114]⟩
theorem by_any (b : Bool) (w : World) :
    Calls Tryd.prog 9 #[.bool b] w fun e w' => e = .returned (.string (byS b)) ∧ w' = w := by
  cases b
  all_goals
    go_enter Tryd.func9, Tryd.ntmps9
    go_wp2_with fail
    go_ret
    exact ⟨rfl, rfl⟩

theorem conv1 (w : World) (a : Int) : (convert 39 9 (.slice (some ⟨w.heap.size, 0, none⟩) 1 1)).run Tryd.prog (w.alloc (.cells #[.int .u8 a] 5)) = .ok (.string (strOfNums [a])) (w.alloc (.cells #[.int .u8 a] 5)) := by
  refine run_convert_bytes_arg _ _ _ Tryd.underlying39 Tryd.underlying5 _ _ _ _ [a] rfl ?_ _ Tryd.underlying9
  intro i hi
  rw [Nat.zero_add, World.cell?_alloc_at _ _ _ _ rfl]
  match i, hi with
  | 0, _ => rfl
theorem cat_str (X Y : List UInt8) : (⟨X.toArray⟩ : ByteArray) ++ (⟨Y.toArray⟩ : ByteArray) = ⟨(X ++ Y).toArray⟩ := by
  apply ByteArray.ext
  rw [ByteArray.data_append]
  simp
theorem str_lo (p : Nat) (h : (p : Int) < 10) : strOfNums [48 + (p : Int)] = ⟨[digB p].toArray⟩ := by
  unfold strOfNums digB digN
  rw [if_pos (by omega), List.map_cons, List.map_nil, show (48 + (p : Int)).toNat = 48 + p by omega]
theorem str_hi (p : Nat) (h : ¬ (p : Int) < 10) : strOfNums [87 + (p : Int)] = ⟨[digB p].toArray⟩ := by
  unfold strOfNums digB digN
  rw [if_neg (by omega), List.map_cons, List.map_nil, show (87 + (p : Int)).toNat = 87 + p by omega]
theorem str1_size (a : Int) : (strOfNums [a]).size = 1 := rfl
theorem hexL_length (l : List UInt8) : (hexL l).length = 2 * l.length := by
  induction l with
  | nil => rfl
  | cons b l ih => simp only [hexL, List.flatMap_cons, List.length_append, List.length_cons, List.length_nil] at *; omega
theorem hexL_snoc (s : ByteArray) (k : Nat) (h : k < s.size) : hexL (s.data.toList.take (k + 1)) = hexL (s.data.toList.take k) ++ [digB (s[k].toNat / 16), digB (s[k].toNat % 16)] := by
  rw [List.take_succ_eq_append_getElem (by simpa using h)]
  unfold hexL
  rw [List.flatMap_append]
  rfl

end Go.Proofs.YtcepiapidcofiaaDoor.Ev
