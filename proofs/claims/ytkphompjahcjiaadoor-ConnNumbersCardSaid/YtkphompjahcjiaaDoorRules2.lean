/-
  What is done with units, by the state: the program's own Of.
-/
import Derived.Test.YtkphompjahcjiaaDoorRules1
namespace Go.Proofs.YtkphompjahcjiaaDoor.Rules
open Go.ChangeShapes Go.WideShapes Go.RowKit Go.Maps

theorem zero_row (w : World) : (zeroValue 133).run Tryd.prog w = .ok (.agg #[.int .i64 0, .string ⟨#[]⟩]) w := by kernel_rfl
theorem field_row (x : Int) (t : ByteArray) (w : World) : (Instr.field 133 (.agg #[.int .i64 x, .string t]) 1).run Tryd.prog w = .ok (.string t) w := by kernel_rfl
theorem row_found {v : Value} {ps : List MemPlace} {s x : Int} {t : ByteArray} (h : rowR v = some ((mapD rowsL 10).atKey (.int .i64 s) (.agg [.lit (.int .i64 0), .lit (.string [])]), ps))
    (hx : (mapD rowsL 10).atKey (.int .i64 s) (.agg [.lit (.int .i64 0), .lit (.string [])]) = .agg [.lit (.int .i64 x), .lit (.string t.data.toList)]) : v = .agg #[.int .i64 x, .string t] := by
  rw [hx] at h
  obtain ⟨a, t', rfl, hz⟩ := rowR_inv h
  simp only [Prod.mk.injEq, DataW.agg.injEq, List.cons.injEq, DataW.lit.injEq, Lit.int.injEq, Lit.string.injEq, true_and, and_true] at hz
  obtain ⟨⟨rfl, ht⟩, _⟩ := hz
  have h2 : t'.data = t.data := Array.toList_inj.1 ht.symm
  have : t' = t := by cases t; cases t'; simp_all
  rw [this]

set_option maxRecDepth 100000 in
set_option maxHeartbeats 1000000 in
theorem of_any (s k : Int) (hs : (Lit.int .i64 s).wf = true) (w : World) :
    Calls Tryd.prog 74 #[.int .i64 s, .int .i64 k] w fun e w' => e = .returned (.int .i64 (ofI s k)) ∧ Below w.heap.size w w' := by
  obtain ⟨x, hx⟩ := map_at s
  have hkey : keyOf Tryd.prog 3 (.int .i64 s) = some (.int .i64 s) := keyOf_int_mk Tryd.underlying3 hs
  have hsz := words_size s
  have HX := Lib.hid hx
  have HKEY := Lib.hid hkey
  clear hx hkey
  obtain ⟨o, ho⟩ : ∃ o, ofI s k = o := ⟨_, rfl⟩
  have HO := Lib.hid ho
  rw [ho]
  clear ho
  have hsz2 : (wordsOf s).size = 0 ∨ (wordsOf s).size = 15 := by rw [hsz]; split <;> simp
  clear hsz
  generalize hg : wordsOf s = t at *
  have HG := Lib.hid hg
  clear hg
  have hfr := field_row x t
  go_enter Tryd.func74, Tryd.ntmps74
  go_wp2_with fail
  refine (units_any _).mono ?_; rintro e w1 ⟨g, rfl, h1, h2, h3⟩
  have H1 := Lib.hid h1
  have H3 := Lib.hid h3
  clear h1 h3
  by_cases hbad : k < 1 ∨ (t.size : Int) < k
  · have ho0 : Hid (o = 0) := Lib.hid (by have := HO.out; unfold ofI at this; rw [HG.out, if_pos hbad] at this; exact this.symm)
    rcases hbad with hb | hb
    all_goals
      go_wp2_with (at_lookup; refine wpList_lookup_own _ rfl _ _ 134 rfl 3 133 law Tryd.underlying134 rowR (zero_row _) _ [] (rowR_mk _ _) g 10 _ rfl H1.out _ _ rfl HKEY.out ?_; intro v ps hv; obtain rfl := row_found hv HX.out; clear hv)
      all_goals go_ret
      all_goals exact ⟨congrArg (fun z => Ending.returned (.int .i64 z)) ho0.out.symm, H3.out⟩
  · have hb1 : 1 ≤ k := by omega
    have hb2 : k ≤ (t.size : Int) := by omega
    obtain ⟨j, rfl⟩ : ∃ j : Nat, k = (j : Int) + 1 := ⟨(k - 1).toNat, by omega⟩
    have hj : j < t.size := by omega
    have ho1 : Hid (o = codeOf t[j].toNat) := Lib.hid (by
      have := HO.out
      unfold ofI at this
      rw [HG.out, if_neg hbad, show ((j : Int) + 1 - 1).toNat = j from by omega] at this
      rw [← this]
      congr 2
      have hj2 : j < t.data.size := hj
      rw [Array.getD, dif_pos hj2]
      rfl)
    go_wp2_with (at_lookup; refine wpList_lookup_own _ rfl _ _ 134 rfl 3 133 law Tryd.underlying134 rowR (zero_row _) _ [] (rowR_mk _ _) g 10 _ rfl H1.out _ _ rfl HKEY.out ?_; intro v ps hv; obtain rfl := row_found hv HX.out; clear hv)
    all_goals go_ret
    all_goals
      refine ⟨congrArg (fun z => Ending.returned (.int .i64 z)) ?_, H3.out⟩
      rw [ho1.out]
      unfold codeOf
      split <;> (try split) <;> (try split) <;> (try split) <;> first | rfl | (exfalso; simp only [beq_iff_eq, beq_eq_false_iff_ne, ne_eq] at *; omega)
end Go.Proofs.YtkphompjahcjiaaDoor.Rules
