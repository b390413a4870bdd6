/-
  Events: bytes, as the document writes them.
-/
import Derived.Test.YtfionfbokoamlaaDoorEvHex
namespace Go.Proofs.YtfionfbokoamlaaDoor.Ev
open Go.ChangeShapes Go.WideShapes Go.RowKit Own

def byS (b : Bool) : ByteArray := if b then ⟨#[115, 101, 108, 102]⟩ else ⟨#[117, 115, 101, 114]⟩
theorem by_any (b : Bool) (w : World) :
    Calls Tryd.prog 20 #[.bool b] w fun e w' => e = .returned (.string (byS b)) ∧ w' = w := by
  cases b
  all_goals
    go_enter Tryd.func20, Tryd.ntmps20
    go_wp2_with fail
    go_ret
    exact ⟨rfl, rfl⟩

theorem conv1 (w : World) (a : Int) : (convert 43 9 (.slice (some ⟨w.heap.size, 0, none⟩) 1 1)).run Tryd.prog (w.alloc (.cells #[.int .u8 a] 5)) = .ok (.string (strOfNums [a])) (w.alloc (.cells #[.int .u8 a] 5)) := by
  refine run_convert_bytes_arg _ _ _ Tryd.underlying43 Tryd.underlying5 _ _ _ _ [a] rfl ?_ _ Tryd.underlying9
  intro i hi
  rw [Nat.zero_add, World.cell?_alloc_at _ _ _ _ rfl]
  match i, hi with
  | 0, _ => rfl
theorem cat_str (X Y : List UInt8) : (⟨X.toArray⟩ : ByteArray) ++ (⟨Y.toArray⟩ : ByteArray) = ⟨(X ++ Y).toArray⟩ := by
  apply ByteArray.ext
  rw [ByteArray.data_append]
  simp
theorem str_lo (p : Nat) (h : (p : Int) < 10) : strOfNums [48 + (p : Int)] = ⟨[digB p].toArray⟩ := by
  unfold strOfNums digB digN
  rw [if_pos (by omega), List.map_cons, List.map_nil, show (48 + (p : Int)).toNat = 48 + p by omega]
theorem str_hi (p : Nat) (h : ¬ (p : Int) < 10) : strOfNums [87 + (p : Int)] = ⟨[digB p].toArray⟩ := by
  unfold strOfNums digB digN
  rw [if_neg (by omega), List.map_cons, List.map_nil, show (87 + (p : Int)).toNat = 87 + p by omega]
theorem str1_size (a : Int) : (strOfNums [a]).size = 1 := rfl
theorem hexL_length (l : List UInt8) : (hexL l).length = 2 * l.length := by
  induction l with
  | nil => rfl
  | cons b l ih => simp only [hexL, List.flatMap_cons, List.length_append, List.length_cons, List.length_nil] at *; omega
theorem hexL_snoc (s : ByteArray) (k : Nat) (h : k < s.size) : hexL (s.data.toList.take (k + 1)) = hexL (s.data.toList.take k) ++ [digB (s[k].toNat / 16), digB (s[k].toNat % 16)] := by
  rw [List.take_succ_eq_append_getElem (by simpa using h)]
  unfold hexL
  rw [List.flatMap_append]
  rfl

set_option maxRecDepth 100000 in
theorem rhex_any (s : ByteArray) (w : World) (hs : s.size ≤ 10000) :
    Calls Tryd.prog 18 #[.string s] w fun e w' => e = .returned (.string (hexS s)) ∧ Below w.heap.size w w' := by
  have hd := toList_nil s
  by_cases h0 : s.size = 0
  · rw [decide_eq_true h0] at hd
    unfold hexS
    rw [if_pos h0]
    clear h0
    go_enter Tryd.func18, Tryd.ntmps18
    go_wp2_with fail
    go_ret
    exact ⟨rfl, Below.refl _ _⟩
  · rw [decide_eq_false h0] at hd
    unfold hexS
    rw [if_neg h0]
    clear h0
    go_enter Tryd.func18, Tryd.ntmps18
    go_wp2_with fail
    go_loopw [3, 4] (fun v i wr => ∃ (k : Nat), k ≤ s.size ∧ i = .int .i64 k ∧ v = .string ⟨(hexL (s.data.toList.take k)).toArray⟩ ∧ Below w.heap.size w wr) (fun _ i _ => s.size - (intOf i).toNat)
    case atStart => exact ⟨0, by omega, rfl, rfl, Below.refl _ _⟩
    case round =>
      obtain ⟨k, hk, rfl, rfl, hbr⟩ := hrel
      have hsr := hbr.size
      by_cases hlt : k < s.size
      · obtain ⟨x, hx⟩ : ∃ x, s[k] = x := ⟨_, rfl⟩
        have hxl : (x.toNat : Int) < 256 := by have := x.toNat_lt; omega
        obtain ⟨p, hp, hp16⟩ : ∃ p : Nat, (x.toNat : Int) / 16 = (p : Int) ∧ p = x.toNat / 16 := ⟨x.toNat / 16, by omega, rfl⟩
        obtain ⟨q, hq, hq16⟩ : ∃ q : Nat, (x.toNat : Int) % 16 = (q : Int) ∧ q = x.toNat % 16 := ⟨x.toNat % 16, by omega, rfl⟩
        have hpl : (p : Int) < 16 := by have := x.toNat_lt; omega
        have hql : (q : Int) < 16 := by omega
        have HLT := Lib.hid hlt
        have HX := Lib.hid hx
        have HP := Lib.hid hp16
        have HQ := Lib.hid hq16
        clear hp16 hq16
        generalize hX : hexL (s.data.toList.take k) = X
        have HXX := Lib.hid hX
        have HXL : Hid (X.length ≤ 20000) := Lib.hid (by rw [← hX, hexL_length, List.length_take]; omega)
        clear hX
        have hw1 : IntKind.i64.wrap (x.toNat : Int) = (x.toNat : Int) := by rw [IntKind.wrap_i64]; omega
        have hw2 : (x.toNat : Int).tdiv 16 = (p : Int) := by rw [Int.tdiv_eq_ediv_of_nonneg (by omega)]; exact hp
        have hw3 : IntKind.i64.wrap (p : Int) = (p : Int) := by rw [IntKind.wrap_i64]; omega
        have hw4 : (x.toNat : Int).tmod 16 = (q : Int) := by rw [Int.tmod_eq_emod_of_nonneg (by omega)]; exact hq
        clear hp hq
        go_wp2_with fail
        go_region
        have hb1 : Below w.heap.size w (wr.alloc (.cells #[.int .i64 (p : Int), .int .i64 (q : Int)] 3)).drew := (hbr.alloc hsr _).drew
        have c0 : (wr.alloc (.cells #[.int .i64 (p : Int), .int .i64 (q : Int)] 3)).drew.cell? ⟨wr.heap.size, 0, none⟩ = some (.int .i64 (p : Int)) := Go.Joins.cell_of_block (heap_alloc_new wr _) 0
        have c1 : (wr.alloc (.cells #[.int .i64 (p : Int), .int .i64 (q : Int)] 3)).drew.cell? ⟨wr.heap.size, 1, none⟩ = some (.int .i64 (q : Int)) := Go.Joins.cell_of_block (heap_alloc_new wr _) 1
        have hlt1 : wr.heap.size < (wr.alloc (.cells #[.int .i64 (p : Int), .int .i64 (q : Int)] 3)).drew.heap.size := by simp
        clear hbr hsr hw1 hw2 hw3 hw4
        generalize (wr.alloc (.cells #[.int .i64 (p : Int), .int .i64 (q : Int)] 3)).drew = W2 at *
        generalize wr.heap.size = g at *
        go_wp2_with fail
        go_loopw [3, 27] (fun v i wi => ∃ (j : Nat), j ≤ 2 ∧ i = .int .i64 j ∧ v = .string ⟨(X ++ [digB p, digB q].take j).toArray⟩ ∧ Below W2.heap.size W2 wi) (fun _ i _ => 2 - (intOf i).toNat)
        case atStart => exact ⟨0, by omega, rfl, by simp, Below.refl _ _⟩
        case round =>
          obtain ⟨j, hj, rfl, rfl, hbi⟩ := hrel
          have hc := conv1
          have hbs := hbi.size
          by_cases hj2 : j < 2
          · obtain ⟨d, hd0, hd1, hd2⟩ : ∃ d : Nat, wr.cell? ⟨g, j, none⟩ = some (.int .i64 (d : Int)) ∧ (d : Int) < 16 ∧ [digB p, digB q].take (j + 1) = [digB p, digB q].take j ++ [digB d] := by
              rcases (show j = 0 ∨ j = 1 by omega) with rfl | rfl
              · exact ⟨p, (hbi.cell (p := ⟨g, 0, none⟩) hlt1).trans c0, hpl, rfl⟩
              · exact ⟨q, (hbi.cell (p := ⟨g, 1, none⟩) hlt1).trans c1, hql, rfl⟩
            have hj5 : (j : Int) < 2 := by omega
            have HJ := Lib.hid hj2
            have HD := Lib.hid hd2
            generalize hT : [digB p, digB q].take j = T at *
            have HTL : Hid (T.length ≤ 2) := Lib.hid (by rw [← hT, List.length_take]; exact Nat.le_trans (Nat.min_le_right _ _) (Nat.le_refl 2))
            clear hd2 hj2 hj hT c0 c1 hpl hql
            go_wp2_with fail
            all_goals first
              | (exfalso; have h1 := HXL.out; have h2 := HTL.out; have h3 := str1_size (48 + (d : Int)); have h4 := str1_size (87 + (d : Int)); omega)
              | go_roundw
            all_goals first
              | exact ⟨j + 1, HJ.out, by go_num, by rw [str_lo d (by assumption), cat_str, HD.out, List.append_assoc], hbi.alloc hbs _⟩
              | exact ⟨j + 1, HJ.out, by go_num, by rw [str_hi d (by omega), cat_str, HD.out, List.append_assoc], hbi.alloc hbs _⟩
              | (simp [intOf]; have := HJ.out; omega)
          · obtain rfl : j = 2 := by omega
            clear hj2 hj
            rw [show [digB p, digB q].take 2 = [digB p, digB q] from rfl]
            have hfin : X ++ [digB p, digB q] = hexL (s.data.toList.take (k + 1)) := by rw [hexL_snoc s k HLT.out, HX.out, HXX.out, HP.out, HQ.out]
            have HFIN := Lib.hid hfin
            clear hfin
            have hbo := hb1.trans (hbi.mono hb1.size)
            go_wp2_with fail
            go_roundw
            case rel => exact ⟨k + 1, HLT.out, by go_num, by rw [HFIN.out], hbo⟩
            case measure => simp [intOf]; have := HLT.out; omega
      · obtain rfl : k = s.size := by omega
        rw [List.take_of_length_le (show s.data.toList.length ≤ s.size from Nat.le_refl _)]
        go_wp2_with fail
        go_ret
        exact ⟨rfl, hbr⟩
end Go.Proofs.YtfionfbokoamlaaDoor.Ev
