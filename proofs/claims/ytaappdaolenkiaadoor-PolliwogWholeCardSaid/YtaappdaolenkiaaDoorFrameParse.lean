/-
  The calls of frames: bytes are read.
-/
import Derived.Test.YtaappdaolenkiaaDoorFrameCalls
import Derived.Laws.ResultCell
namespace Go.Proofs.YtaappdaolenkiaaDoor.FrameCalls
open Go.ChangeShapes Go.WideShapes Go.RowKit CrcMath CrcCalls FrameMath

theorem results_row_tmp {P : Program} {fn : Func} {p u : Tmp} {ty : TypeId} (h : fn.results = #[.cell p ty, .tmp u]) (tmps : Array Value) (w : World) (g : Nat) (t : TypeId) (cs : Array Value) (fr : Nat × Nat) (d : TypeDesc)
    (hp : tmps.getD p undef = .pointer (some ⟨g, 0, none⟩)) (hg : w.heap[g]? = some (.cells cs t fr))
    (hu : P.underlying ty = some d) (hd : (match d with | .struct _ | .array _ _ => true | _ => false) = true) (hi : (P.info? ty).map (·.size) = some cs.size) :
    (results fn tmps).run P w = .ok (.tuple #[.agg cs, tmps.getD u undef]) w := by
  have hp' : tmps[p]?.getD undef = .pointer (some ⟨g, 0, none⟩) := by simpa using hp
  rw [results_cell_tmp h]
  simp [hp', asAddr, run_loadVar_row w g t ty cs fr d hg hu hd hi, Result.andThen]

def parsed (p : UInt8 × List UInt8 × Int) : Value := .tuple #[.agg #[.int .u8 (p.1.toNat : Int), .string ⟨p.2.1.toArray⟩], .int .i64 p.2.2]

theorem info_frame : (Tryd.prog.info? 44).map (·.size) = some 2 := by kernel_rfl
theorem empty_of {s : ByteArray} (h : s.size = 0) : s = ⟨#[]⟩ := by
  apply ByteArray.ext
  exact Array.eq_empty_of_size_eq_zero h
theorem isEmpty_no {s : ByteArray} (h : s.size ≠ 0) : s.toList.isEmpty = false := by
  rw [ByteArray.toList_eq, Bool.eq_false_iff]
  intro e
  exact h (by rw [← size_list, List.isEmpty_iff.1 e]; rfl)

theorem parse_short (B : Nat) (s : ByteArray) (w : World) (hs : s.size ≤ 140737488351232) (h : s.size = 0 ∨ s.size % 48 ≠ 0) :
    Calls Tryd.prog 12 #[.pointer (some ⟨B, 0, none⟩), .string s] w fun e w' => e = .returned (parsed (0, [], 5)) ∧ Below w.heap.size w w' := by
  by_cases h0 : s.size = 0
  · obtain rfl := empty_of h0
    go_enter Tryd.func12, Tryd.ntmps12
    go_wp2
    refine bodyPost_ret (results_row_tmp rfl _ _ w.heap.size 44 _ (0, 0) _ rfl (heap_alloc_new w _) Tryd.underlying44 rfl info_frame) rfl ⟨rfl, (Below.refl _ _).alloc (Nat.le_refl _) _⟩
  · have he := isEmpty_no h0
    have hm : ((s.size : Int) % 48 != 0) = true := by
      rw [bne_iff_ne]; omega
    clear h
    go_enter Tryd.func12, Tryd.ntmps12
    go_wp2
    refine bodyPost_ret (results_row_tmp rfl _ _ w.heap.size 44 _ (0, 0) _ rfl (heap_alloc_new w _) Tryd.underlying44 rfl info_frame) rfl ⟨rfl, (Below.refl _ _).alloc (Nat.le_refl _) _⟩

theorem parse_sum (B : Nat) (s : ByteArray) (w : World) (hT : Tab w B) (hs : s.size ≤ 140737488351232) (h0 : s.size ≠ 0) (h1 : s.size % 48 = 0) (hf : fits s.data.toList = false) :
    Calls Tryd.prog 12 #[.pointer (some ⟨B, 0, none⟩), .string s] w fun e w' => e = .returned (parsed (0, [], 4)) ∧ Below w.heap.size w w' := by
  have HT := Lib.hid hT
  clear hT
  have he := isEmpty_no h0
  have hm : ((s.size : Int) % 48 != 0) = false := by
    rw [bne_eq_false_iff_eq]; omega
  go_enter Tryd.func12, Tryd.ntmps12
  go_wp2_with fail
  refine (fits_any B s _ (by exact HT.out.alloc _) hs).mono ?_
  rintro e w1 ⟨rfl, hb1⟩
  rw [hf]
  have hcell : w1.heap[w.heap.size]? = some (.cells #[.int .u8 0, .string ⟨#[]⟩] 44 (0, 0)) := by
    rw [hb1.block _ (by simp), heap_alloc_new]
  have hb2 : Below w.heap.size w w1 := ((Below.refl w.heap.size w).alloc (Nat.le_refl _) _).trans (hb1.mono (by simp))
  clear hb1
  go_wp2_with (refine wpList_store_row rfl 44 _ _ rfl w.heap.size #[.int .u8 0, .string ⟨#[]⟩] rfl rfl 44 _ hcell info_frame rfl (by simp [Value.oneCell']) ?_)
  refine bodyPost_ret (results_row_tmp rfl _ _ w.heap.size 44 _ (0, 0) _ rfl (setRow_heap _ _ _ _ 44 (0, 0) hcell) Tryd.underlying44 rfl info_frame) rfl ⟨rfl, below_setRow hb2 (Nat.le_refl _) _⟩

theorem index_eq (s : ByteArray) (i : Nat) (h : i < s.size) : s.data.toList.getD i 0 = s[i] := by
  simp [List.getD, h]; rfl

theorem num_or (a b : UInt8) : bits .or .i64 (wrap64 (wrap64 (a.toNat : Int) * 256)) (wrap64 (b.toNat : Int)) = ((num2 a b : Nat) : Int) := by
  have ha := a.toNat_lt
  have hb := b.toNat_lt
  rw [IntWalk.wrap64_in (a.toNat : Int) (by omega), IntWalk.wrap64_in (b.toNat : Int) (by omega), IntWalk.wrap64_in _ (by omega)]
  refine (bits_join .i64 32 (by decide) (fun n h0 h1 => by rw [IntKind.wrap_i64]; omega) 8 ((a.toNat : Int) * 256) (b.toNat : Int) (by omega) (by omega) (by omega) (by omega) (by omega) (by omega)).trans ?_
  unfold num2; omega

theorem small48 {c n : Nat} (h : 48 * c < n + 56) (hn : (n : Int) ≤ 65535) : (c : Int) ≤ 2000 := by omega
theorem ne48 {c m : Nat} (h : 48 * c = m) : ((c : Int) * 48 != (m : Int)) = false := by rw [bne_eq_false_iff_eq]; omega
theorem ne48' {c m : Nat} (h : ¬ 48 * c = m) : ((c : Int) * 48 != (m : Int)) = true := by rw [bne_iff_ne]; omega
theorem lo64 {n : Nat} (h : (n : Int) ≤ 65535) : -9223372036854775808 ≤ (n : Int) := by omega
theorem up64 {n : Nat} (h : (n : Int) ≤ 65535) : (n : Int) ≤ 9223372036854775807 := by omega

theorem nat_ne {b : UInt8} (h : ¬ b = 0) : ((b.toNat : Int) != 0) = true := by
  rw [bne_iff_ne]
  intro e
  exact h (UInt8.toNat_inj.1 (by show b.toNat = 0; omega))
theorem not_form {x : UInt8} (h : x = 0) : ¬ (true = false ∨ x ≠ 0) := by simp [h]
theorem nE {n E c m : Nat} (h1 : 48 * c = m) (h2 : m = E + 8) (h3 : n + 8 ≤ 48 * c) : (n : Int) ≤ (E : Int) := by omega
theorem nS {n E m : Nat} (h1 : (n : Int) ≤ (E : Int)) (h2 : m = E + 8) : (n : Int) ≤ (m : Int) := by omega
theorem zeroB_extract (s : ByteArray) (n E : Nat) : zeroB (s.extract n E) = ((s.data.toList.drop n).take (E - n)).all (· == 0) := by
  unfold zeroB
  rw [ByteArray.data_extract, Array.toList_extract, List.extract_eq_take_drop]
theorem take_extract (s : ByteArray) (n : Nat) : s.extract 0 n = ⟨(s.data.toList.take n).toArray⟩ := by
  apply ByteArray.ext
  apply Array.ext'
  rw [ByteArray.data_extract, Array.toList_extract, List.extract_eq_take_drop]
  simp
theorem extract_le (s : ByteArray) (n E : Nat) (hs : s.size ≤ 140737488351232) : (s.extract n E).size ≤ 140737488351232 := by
  rw [ByteArray.size_extract]; omega

/-- what is told of a text that fits, step by step -/
theorem parse_steps (s : ByteArray) (E n : Nat) (h0 : s.size ≠ 0) (h1 : s.size % 48 = 0) (hf : fits s.data.toList = true) (hE : s.size = E + 8) (hn : n = num2 (s.data.toList.getD (s.size - 8 + 2) 0) (s.data.toList.getD (s.size - 8 + 3) 0)) :
    parseL s.data.toList = if 48 * cellsN n ≠ s.size then (0, [], 5) else if zeroB (s.extract n E) = false ∨ s.data.toList.getD (E + 1) 0 ≠ 0 then (0, [], 3) else (s.data.toList.getD E 0, s.data.toList.take n, 0) := by
  unfold parseL
  rw [if_neg (by
    rintro (h | h)
    · exact h0 (by rw [← size_list, h]; rfl)
    · rw [size_list] at h; exact h h1), hf, if_neg (by simp)]
  simp only [size_list]
  rw [← hn, show s.size - 8 = E by omega, zeroB_extract]

set_option maxHeartbeats 1000000 in
theorem parse_long (B : Nat) (s : ByteArray) (w : World) (hT : Tab w B) (hs : s.size ≤ 140737488351232) (h0 : s.size ≠ 0) (h1 : s.size % 48 = 0) (hf : fits s.data.toList = true) :
    Calls Tryd.prog 12 #[.pointer (some ⟨B, 0, none⟩), .string s] w fun e w' => e = .returned (parsed (parseL s.data.toList)) ∧ Below w.heap.size w w' := by
  have HT := Lib.hid hT
  clear hT
  have he := isEmpty_no h0
  have hm : ((s.size : Int) % 48 != 0) = false := by
    rw [bne_eq_false_iff_eq]; omega
  obtain ⟨E, hE⟩ : ∃ E, s.size = E + 8 := ⟨s.size - 8, by omega⟩
  have hE0 : (s.size : Int) - 8 = (E : Int) := by omega
  obtain ⟨n, hn⟩ : ∃ n, n = num2 (s.data.toList.getD (s.size - 8 + 2) 0) (s.data.toList.getD (s.size - 8 + 3) 0) := ⟨_, rfl⟩
  have hn1 : (n : Int) ≤ 65535 := by have := num2_lt (s.data.toList.getD (s.size - 8 + 2) 0) (s.data.toList.getD (s.size - 8 + 3) 0); omega
  have hcN := cellsI_nat n
  have hcr := cellsN_room n
  obtain ⟨E1, hE1⟩ : ∃ n, n = E + 1 := ⟨_, rfl⟩
  obtain ⟨E2, hE2⟩ : ∃ n, n = E + 2 := ⟨_, rfl⟩
  obtain ⟨E3, hE3⟩ : ∃ n, n = E + 3 := ⟨_, rfl⟩
  have i0 : (E : Int) < (s.size : Int) := by omega
  have i1 : (E1 : Int) < (s.size : Int) := by omega
  have i2 : (E2 : Int) < (s.size : Int) := by omega
  have i3 : (E3 : Int) < (s.size : Int) := by omega
  have w1' : IntKind.i64.wrap ((E : Int) + 1) = (E1 : Int) := by rw [IntKind.wrap_i64]; omega
  have w2' : IntKind.i64.wrap ((E : Int) + 2) = (E2 : Int) := by rw [IntKind.wrap_i64]; omega
  have w3' : IntKind.i64.wrap ((E : Int) + 3) = (E3 : Int) := by rw [IntKind.wrap_i64]; omega
  have hN : bits .or .i64 (wrap64 (wrap64 ((s[E2]'(Int.ofNat_lt.1 i2)).toNat : Int) * 256)) (wrap64 ((s[E3]'(Int.ofNat_lt.1 i3)).toNat : Int)) = (n : Int) := by
    rw [num_or, hn, ← index_eq s E2 (by omega), ← index_eq s E3 (by omega), show s.size - 8 + 2 = E2 by omega, show s.size - 8 + 3 = E3 by omega]
  obtain ⟨c, hc⟩ : ∃ c, cellsN n = c := ⟨_, rfl⟩
  rw [hc] at hcN hcr
  have hc48 := small48 hcr.2 hn1
  have HC := Lib.hid hc
  have HN := Lib.hid hn
  clear hc hn
  have HE1 := Lib.hid hE1
  have HE2 := Lib.hid hE2
  have HE3 := Lib.hid hE3
  clear hE1 hE2 hE3
  have HE := Lib.hid hE
  clear hE
  go_enter Tryd.func12, Tryd.ntmps12
  go_wp2_with fail
  refine (fits_any B s _ (by exact HT.out.alloc _) hs).mono ?_
  rintro e w1 ⟨rfl, hb1⟩
  rw [hf]
  have hcell : w1.heap[w.heap.size]? = some (.cells #[.int .u8 0, .string ⟨#[]⟩] 44 (0, 0)) := by
    rw [hb1.block _ (by simp), heap_alloc_new]
  have hb2 : Below w.heap.size w w1 := ((Below.refl w.heap.size w).alloc (Nat.le_refl _) _).trans (hb1.mono (by simp))
  clear hb1
  go_wp2_with fail
  go_quiet (fail)
  go_wp2_with fail
  refine (cells_any (n : Int) _ (lo64 hn1) (up64 hn1)).mono ?_
  rintro e w' ⟨rfl, rfl⟩
  rw [hcN]
  by_cases hce : 48 * c = s.size
  · have hne := ne48 hce
    have hnE := nE hce HE.out hcr.1
    have hnS := nS hnE HE.out
    have hES : (E : Int) ≤ (s.size : Int) := Int.le_of_lt i0
    go_wp2_with fail
    refine (allZero_any (s.extract n E) _ (extract_le s n E hs)).mono ?_
    rintro e w' ⟨rfl, q, rfl⟩
    have hP := parse_steps s E n h0 h1 hf HE.out HN.out
    rw [if_neg (by rw [HC.out]; exact fun h => h hce)] at hP
    have HP := Lib.hid hP
    clear hP
    obtain ⟨z, hz⟩ : ∃ z, zeroB (s.extract n E) = z := ⟨_, rfl⟩
    rw [hz] at HP
    rw [hz]
    have HZ := Lib.hid hz
    clear hz
    have hcell3 : ((w1.drewN nq).drewN q).heap[w.heap.size]? = some (.cells #[.int .u8 0, .string ⟨#[]⟩] 44 (0, 0)) := hcell
    have hb3 : Below w.heap.size w ((w1.drewN nq).drewN q) := below_drewN (below_drewN hb2 _) _
    generalize (w1.drewN nq).drewN q = w2 at *
    clear hcell hb2
    cases z with
    | false =>
      go_wp2_with (refine wpList_store_row rfl 44 _ _ rfl w.heap.size #[.int .u8 0, .string ⟨#[]⟩] rfl rfl 44 _ hcell3 info_frame rfl (by simp [Value.oneCell']) ?_)
      refine bodyPost_ret (results_row_tmp rfl _ _ w.heap.size 44 _ (0, 0) _ rfl (setRow_heap _ _ _ _ 44 (0, 0) hcell3) Tryd.underlying44 rfl info_frame) rfl ⟨?_, below_setRow hb3 (Nat.le_refl _) _⟩
      rw [HP.out]; rfl
    | true =>
      by_cases hz1 : (s[E1]'(Int.ofNat_lt.1 i1)) = 0
      · have hz2 : (((s[E1]'(Int.ofNat_lt.1 i1)).toNat : Int) != 0) = false := by rw [hz1]; rfl
        have hx0 := extract_le s 0 n hs
        have hlt2 : w.heap.size < w2.heap.size := by rcases Array.getElem?_eq_some_iff.1 hcell3 with ⟨h, _⟩; exact h
        go_wp2_with fail
        go_region_with (refine (clone_any (s.extract 0 n) _ hx0).mono ?_; rintro e w5 ⟨rfl, hb5⟩; have hg5 := (hb5.block _ hlt2).trans hcell3; have k0 := Go.Joins.cell_of_block hg5 0; have k1 := Go.Joins.cell_of_block hg5 1; have u0 := Go.Joins.unfrozen_of_block hg5 0; have u1 := Go.Joins.unfrozen_of_block hg5 1)
        all_goals (
          have hgF : ((w5.setCell ⟨w.heap.size, 0, none⟩ (.int .u8 ((s[E]'(Int.ofNat_lt.1 i0)).toNat : Int))).setCell ⟨w.heap.size, 1, none⟩ (.string (s.extract 0 n))).heap[w.heap.size]? = some (.cells #[.int .u8 ((s[E]'(Int.ofNat_lt.1 i0)).toNat : Int), .string (s.extract 0 n)] 44 (0, 0)) := by
            simpa using Go.Joins.block_setCell (i := 1) (Go.Joins.block_setCell (i := 0) hg5 (.int .u8 ((s[E]'(Int.ofNat_lt.1 i0)).toNat : Int))) (.string (s.extract 0 n))
          have hbF : Below w.heap.size w ((w5.setCell ⟨w.heap.size, 0, none⟩ (.int .u8 ((s[E]'(Int.ofNat_lt.1 i0)).toNat : Int))).setCell ⟨w.heap.size, 1, none⟩ (.string (s.extract 0 n))) := ((hb3.drew.trans (hb5.mono hb3.size)).setCell (Nat.le_refl _) _).setCell (Nat.le_refl _) _
          generalize (w5.setCell ⟨w.heap.size, 0, none⟩ (.int .u8 ((s[E]'(Int.ofNat_lt.1 i0)).toNat : Int))).setCell ⟨w.heap.size, 1, none⟩ (.string (s.extract 0 n)) = w6 at *
          go_wp2_with fail
          refine bodyPost_ret (results_row_tmp rfl _ _ w.heap.size 44 _ (0, 0) _ rfl hgF Tryd.underlying44 rfl info_frame) rfl ⟨?_, hbF⟩
          rw [HP.out, if_neg (not_form (by rw [← HE1.out, index_eq s E1 (Int.ofNat_lt.1 i1)]; exact hz1)), index_eq s E (Int.ofNat_lt.1 i0), take_extract]; rfl)
      · have hz2 : (((s[E1]'(Int.ofNat_lt.1 i1)).toNat : Int) != 0) = true := nat_ne hz1
        go_wp2_with (refine wpList_store_row rfl 44 _ _ rfl w.heap.size #[.int .u8 0, .string ⟨#[]⟩] rfl rfl 44 _ hcell3 info_frame rfl (by simp [Value.oneCell']) ?_)
        refine bodyPost_ret (results_row_tmp rfl _ _ w.heap.size 44 _ (0, 0) _ rfl (setRow_heap _ _ _ _ 44 (0, 0) hcell3) Tryd.underlying44 rfl info_frame) rfl ⟨?_, below_setRow hb3 (Nat.le_refl _) _⟩
        rw [HP.out, if_pos (.inr (by rw [← HE1.out, index_eq s E1 (Int.ofNat_lt.1 i1)]; exact hz1))]; rfl
  · have hne := ne48' hce
    have hcell3 : (w1.drewN nq).heap[w.heap.size]? = some (.cells #[.int .u8 0, .string ⟨#[]⟩] 44 (0, 0)) := hcell
    go_wp2_with (refine wpList_store_row rfl 44 _ _ rfl w.heap.size #[.int .u8 0, .string ⟨#[]⟩] rfl rfl 44 _ hcell3 info_frame rfl (by simp [Value.oneCell']) ?_)
    refine bodyPost_ret (results_row_tmp rfl _ _ w.heap.size 44 _ (0, 0) _ rfl (setRow_heap _ _ _ _ 44 (0, 0) hcell3) Tryd.underlying44 rfl info_frame) rfl ⟨?_, below_setRow (below_drewN hb2 _) (Nat.le_refl _) _⟩
    rw [parse_steps s E n h0 h1 hf HE.out HN.out, if_pos (by rw [HC.out]; exact hce)]; rfl

theorem parse_any (B : Nat) (s : ByteArray) (w : World) (hT : Tab w B) (hs : s.size ≤ 140737488351232) :
    Calls Tryd.prog 12 #[.pointer (some ⟨B, 0, none⟩), .string s] w fun e w' => e = .returned (parsed (parseL s.data.toList)) ∧ Below w.heap.size w w' := by
  have e0 : s.data.toList = [] ↔ s.size = 0 := by rw [← size_list, List.length_eq_zero_iff]
  by_cases h : s.size = 0 ∨ s.size % 48 ≠ 0
  · have : parseL s.data.toList = (0, [], 5) := by
      unfold parseL
      rw [if_pos (by rw [e0, size_list]; exact h)]
    rw [this]
    exact parse_short B s w hs h
  · have h0 : s.size ≠ 0 := fun e => h (.inl e)
    have h1 : s.size % 48 = 0 := Decidable.byContradiction fun e => h (.inr e)
    cases hf : fits s.data.toList with
    | false =>
      have : parseL s.data.toList = (0, [], 4) := by
        unfold parseL
        rw [if_neg (by rw [e0, size_list]; exact h), if_pos hf]
      rw [this]
      exact parse_sum B s w hT hs h0 h1 hf
    | true => exact parse_long B s w hT hs h0 h1 hf
end Go.Proofs.YtaappdaolenkiaaDoor.FrameCalls
