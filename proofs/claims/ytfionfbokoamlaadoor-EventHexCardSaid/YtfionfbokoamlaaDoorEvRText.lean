/-
  Events: a signal's text, as the document has it.
-/
import Derived.Test.YtfionfbokoamlaaDoorEvText
namespace Go.Proofs.YtfionfbokoamlaaDoor.Ev
open Go.ChangeShapes Go.WideShapes Go.RowKit Own

theorem join1 (X : ByteArray) : joinT [X] = X := by
  unfold joinT; rw [List.map_cons, List.map_nil, Lib.join_one]
theorem join_cons (X Y : ByteArray) (L : List ByteArray) : joinT (X :: Y :: L) = X ++ (⟨#[32]⟩ ++ joinT (Y :: L)) := by
  unfold joinT
  have e : Lib.join ((X :: Y :: L).map (·.data.toList)) [32] = X.data.toList ++ ([32] ++ Lib.join ((Y :: L).map (·.data.toList)) [32]) := by simp [Lib.join, List.intercalate]
  rw [e]
  apply ByteArray.ext
  rw [ByteArray.data_append, ByteArray.data_append]
  simp
theorem ba_assoc (X Y Z : ByteArray) : X ++ Y ++ Z = X ++ (Y ++ Z) := ByteArray.append_assoc
def firsts : List ByteArray := (List.range 12).map fun j => wordS (j + 1)
theorem first_get (j : Nat) (hj : j < 12) (w : World) (t : TypeId) : (w.alloc (.cells (firsts.map Value.string).toArray t)).cell? ⟨w.heap.size, j, none⟩ = some (.string (wordS (j + 1))) := by
  rw [cell_of_row _ _ _ _ _ (0, 0) (heap_alloc_new w _)]
  have h1 : j < firsts.length := by simp [firsts, hj]
  simp [firsts, hj]

theorem look_data (k : Nat) (h : k - 1 < 12) : (lookOf k).2 = decide (k = 1 ∨ k = 3 ∨ k = 5 ∨ (8 ≤ k ∧ k ≤ 11)) := by
  match k, h with
  | 0, _ | 1, _ | 2, _ | 3, _ | 4, _ | 5, _ | 6, _ | 7, _ | 8, _ | 9, _ | 10, _ | 11, _ | 12, _ => rfl
  | k + 13, h => exact absurd h (by omega)
theorem self32 : (⟨#[32, 115, 101, 108, 102]⟩ : ByteArray) = ⟨#[32]⟩ ++ byS true := by decide
theorem user32 : (⟨#[32, 117, 115, 101, 114]⟩ : ByteArray) = ⟨#[32]⟩ ++ byS false := by decide
set_option maxHeartbeats 2000000 in
theorem rtext_in (j : Nat) (d : ByteArray) (self : Bool) (code : Nat) (n : Int) (w : World) (hd : d.size ≤ 10000) (h2 : j < 12) (hc : code < 256) (hn1 : -9223372036854775808 ≤ n) (hn2 : n ≤ 9223372036854775807) :
    Calls Tryd.prog 14 #[.int .i64 ((j : Int) + 1), .string d, .bool self, .int .u8 (code : Int), .int .i64 n] w fun e w' => e = .returned (.string (textS (j + 1) d self code n)) ∧ Below w.heap.size w w' := by
  have hget : (w.alloc (.cells #[.string ⟨#[101, 115, 116, 97, 98, 108, 105, 115, 104]⟩, .string ⟨#[101, 115, 116, 97, 98, 108, 105, 115, 104, 101, 100]⟩, .string ⟨#[114, 101, 108, 101, 97, 115, 101]⟩, .string ⟨#[114, 101, 108, 101, 97, 115, 101, 100]⟩, .string ⟨#[114, 101, 115, 121, 110, 99]⟩, .string ⟨#[114, 101, 115, 121, 110, 99, 101, 100]⟩, .string ⟨#[114, 101, 99, 111, 118, 101, 114]⟩, .string ⟨#[100, 97, 116, 97]⟩, .string ⟨#[117, 110, 105, 116]⟩, .string ⟨#[109, 97, 110, 97, 103, 101]⟩, .string ⟨#[114, 101, 116, 114, 105, 101, 118, 101, 100]⟩, .string ⟨#[101, 114, 114, 111, 114]⟩] 9)).cell? ⟨w.heap.size, j, none⟩ = some (.string (wordS (j + 1))) := first_get j h2 w 9
  have hb : Below w.heap.size w (w.alloc (.cells #[.string ⟨#[101, 115, 116, 97, 98, 108, 105, 115, 104]⟩, .string ⟨#[101, 115, 116, 97, 98, 108, 105, 115, 104, 101, 100]⟩, .string ⟨#[114, 101, 108, 101, 97, 115, 101]⟩, .string ⟨#[114, 101, 108, 101, 97, 115, 101, 100]⟩, .string ⟨#[114, 101, 115, 121, 110, 99]⟩, .string ⟨#[114, 101, 115, 121, 110, 99, 101, 100]⟩, .string ⟨#[114, 101, 99, 111, 118, 101, 114]⟩, .string ⟨#[100, 97, 116, 97]⟩, .string ⟨#[117, 110, 105, 116]⟩, .string ⟨#[109, 97, 110, 97, 103, 101]⟩, .string ⟨#[114, 101, 116, 114, 105, 101, 118, 101, 100]⟩, .string ⟨#[101, 114, 114, 111, 114]⟩] 9)) := (Below.refl _ _).alloc (Nat.le_refl _) _
  have hXs := wordS_size (j + 1) (by omega)
  obtain ⟨X, hX⟩ : ∃ X, wordS (j + 1) = X := ⟨_, rfl⟩
  rw [hX] at hget hXs
  have HX := Lib.hid hX
  clear hX
  have hj12 : (j : Int) < 12 := by omega
  go_enter Tryd.func14, Tryd.ntmps14
  go_upto_region 4 with (fail)
  change Code.wp _ _ _ _ (w.alloc (.cells #[.string ⟨#[101, 115, 116, 97, 98, 108, 105, 115, 104]⟩, .string ⟨#[101, 115, 116, 97, 98, 108, 105, 115, 104, 101, 100]⟩, .string ⟨#[114, 101, 108, 101, 97, 115, 101]⟩, .string ⟨#[114, 101, 108, 101, 97, 115, 101, 100]⟩, .string ⟨#[114, 101, 115, 121, 110, 99]⟩, .string ⟨#[114, 101, 115, 121, 110, 99, 101, 100]⟩, .string ⟨#[114, 101, 99, 111, 118, 101, 114]⟩, .string ⟨#[100, 97, 116, 97]⟩, .string ⟨#[117, 110, 105, 116]⟩, .string ⟨#[109, 97, 110, 97, 103, 101]⟩, .string ⟨#[114, 101, 116, 114, 105, 101, 118, 101, 100]⟩, .string ⟨#[101, 114, 114, 111, 114]⟩] 9))
  generalize w.alloc (.cells #[.string ⟨#[101, 115, 116, 97, 98, 108, 105, 115, 104]⟩, .string ⟨#[101, 115, 116, 97, 98, 108, 105, 115, 104, 101, 100]⟩, .string ⟨#[114, 101, 108, 101, 97, 115, 101]⟩, .string ⟨#[114, 101, 108, 101, 97, 115, 101, 100]⟩, .string ⟨#[114, 101, 115, 121, 110, 99]⟩, .string ⟨#[114, 101, 115, 121, 110, 99, 101, 100]⟩, .string ⟨#[114, 101, 99, 111, 118, 101, 114]⟩, .string ⟨#[100, 97, 116, 97]⟩, .string ⟨#[117, 110, 105, 116]⟩, .string ⟨#[109, 97, 110, 97, 103, 101]⟩, .string ⟨#[114, 101, 116, 114, 105, 101, 118, 101, 100]⟩, .string ⟨#[101, 114, 114, 111, 114]⟩] 9) = W1 at *
  generalize hg : w.heap.size = g at *
  have HG := Lib.hid hg
  have hgs : g ≤ W1.heap.size := by have := hb.size; omega
  have hcv := conv1
  have HN1 := Lib.hid hn1
  have HN2 := Lib.hid hn2
  have hhs := hex_size d hd
  have his := itoa_size n hn1 hn2
  obtain ⟨I, hI⟩ : ∃ I, (⟨(Lib.itoa n).toArray⟩ : ByteArray) = I := ⟨_, rfl⟩
  rw [hI] at his
  have HI := Lib.hid hI
  obtain ⟨H, hH⟩ : ∃ H, hexS d = H := ⟨_, rfl⟩
  rw [hH] at hhs
  have HH := Lib.hid hH
  have H2 := Lib.hid h2
  have hstr := str1_size (code : Int)
  clear hget h2 hn1 hn2 hg hI hH hc
  cases self
  all_goals
    go_wp2_with (first
      | (go_at_call 18
         refine (rhex_any d _ hd).mono ?_; rintro e w2 ⟨rfl, hb2⟩
         rw [HH.out]
         (have hb3 := hb.trans (hb2.mono hgs))
         (have hgs2 := Nat.le_trans hgs hb2.size)
         clear hb hb2 hgs
         (have hb := hb3)
         (have hgs := hgs2)
         clear hb3 hgs2)
      | (go_at_call 23
         refine (rdigits_any n _ HN1.out HN2.out).mono ?_; rintro e w2 ⟨rfl, hb2⟩
         rw [HI.out]
         (have hb3 := (hb.alloc hgs _).trans (hb2.mono (by simp; omega)))
         clear hb hb2 hgs
         (have hb := hb3)
         clear hb3))
    all_goals first
      | (go_ret
         refine ⟨ret_str ?_, by rw [HG.out]; first | exact hb | exact hb.alloc hgs _⟩
         unfold textS wordsT
         rw [HX.out, HI.out, HH.out, look_data (j + 1) H2.out]
         (have h2 := H2.out)
         simp only [beq_iff_eq, beq_eq_false_iff_ne, ne_eq, decide_eq_true_eq] at *
         (repeat' split)
         all_goals first
           | (exfalso; omega)
           | (simp only [List.cons_append, List.nil_append, List.append_nil, join_cons, join1, ba_assoc, self32, user32]; first | done | rfl)
           | (exfalso; simp_all; done)
           | (exfalso; simp_all; omega))
      | (exfalso; simp at *; omega)
end Go.Proofs.YtfionfbokoamlaaDoor.Ev
