/-
  CrcParts is proved: however many parts the bytes come in, also empty ones, the sum is theirs.
-/
import Derived.Test.YtfcdhfdjnfolkaaBase
import Derived.Test.YtfcdhfdjnfolkaaCrcAwake
namespace Go.Proofs.Ytfcdhfdjnfolkaa.crcParts
open Go.ChangeShapes Go.WideShapes Go.ChangeAt Go.RowKit
set_option linter.unusedVariables false      -- a walk need not use every bound of an argument

open CrcMath CrcCalls
theorem strInfo : (Try.prog.info? 9).map (fun i => (i.zero, i.size, i.bytes)) = some (some (.string ⟨#[]⟩), 1, 16) := by kernel_rfl

def piece (ss : List ByteArray) (i : Nat) : ByteArray := cutL (ss.getD i ByteArray.empty) 30
def allB (ss : List ByteArray) : Nat → ByteArray
  | 0 => ⟨#[]⟩
  | k + 1 => allB ss k ++ piece ss k
def partsL (ss : List ByteArray) : Nat → List Value
  | 0 => []
  | k + 1 => partsL ss k ++ [.string (piece ss k), .string ⟨#[]⟩]
def part2 (ss : List ByteArray) (j : Nat) : ByteArray := if j % 2 = 0 then piece ss (j / 2) else ⟨#[]⟩

theorem piece_size (ss : List ByteArray) (i : Nat) : (piece ss i).size ≤ 30 := (cutL_le _ 30).1
theorem allB_size (ss : List ByteArray) (k : Nat) : (allB ss k).size ≤ 30 * k := by
  induction k with
  | zero => exact Nat.le_refl _
  | succ k ih => rw [allB, ByteArray.size_append]; have := piece_size ss k; omega
theorem parts_length (ss : List ByteArray) (k : Nat) : (partsL ss k).length = 2 * k := by
  induction k with
  | zero => rfl
  | succ k ih => rw [partsL, List.length_append, ih]; simp; omega
theorem parts_at (ss : List ByteArray) (k : Nat) : ∀ j, j < 2 * k → (partsL ss k)[j]? = some (.string (part2 ss j)) := by
  induction k with
  | zero => intro j hj; omega
  | succ k ih =>
    intro j hj
    rw [partsL]
    by_cases h : j < 2 * k
    · rw [List.getElem?_append_left (by rw [parts_length]; exact h), ih j h]
    · rw [List.getElem?_append_right (by rw [parts_length]; omega), parts_length]
      have h2 : j = 2 * k ∨ j = 2 * k + 1 := by omega
      rcases h2 with rfl | rfl
      · unfold part2
        rw [if_pos (by omega), show 2 * k / 2 = k from by omega, Nat.sub_self]; rfl
      · unfold part2
        rw [if_neg (by omega), show 2 * k + 1 - 2 * k = 1 from by omega]; rfl
theorem part2_size (ss : List ByteArray) (j : Nat) : (part2 ss j).size ≤ 140737488351232 := by
  unfold part2
  split
  · have := piece_size ss (j / 2); omega
  · decide
theorem cat_parts (ss : List ByteArray) (k : Nat) : cat (part2 ss) (2 * k) = (allB ss k).data.toList := by
  induction k with
  | zero => rfl
  | succ k ih =>
    have e1 : part2 ss (2 * k) = piece ss k := by unfold part2; rw [if_pos (by omega), show 2 * k / 2 = k from by omega]
    have e2 : part2 ss (2 * k + 1) = ⟨#[]⟩ := by unfold part2; rw [if_neg (by omega)]
    rw [show 2 * (k + 1) = 2 * k + 1 + 1 from by omega, cat_succ, cat_succ, ih, e1, e2, allB, ByteArray.data_append, Array.toList_append]
    simp

set_option maxRecDepth 100000 in
set_option maxHeartbeats 1000000 in
theorem walk (w : World) (v0 : Value) (ss : List ByteArray) (h0 : Base.StrSlice w v0 ss) :
    Calls Try.prog 7 #[v0] w fun e w' => e = .returned (.bool true) ∧ Below w.heap.size w w' := by
  obtain ⟨a, cap, rfl, hlen, hsizes, hcases⟩ := h0
  obtain ⟨i0, hi, hz0, hz1, hz2⟩ := info_parts strInfo
  have hz := zero_run
  unfold maxLen at hlen
  by_cases hne : ss = []
  · subst hne
    rw [show (([] : List ByteArray).length) = 0 from rfl]
    obtain ⟨A, hA⟩ : ∃ A : ByteArray, A = ⟨#[]⟩ := ⟨_, rfl⟩
    have hAs : A.size ≤ 360 := by rw [hA]; decide
    have hadd : ∀ w, (Op.stringOp .add A (wordB (sum A.data.toList))).run Try.prog w = .ok (.string (sealB A)) w := fun w => by
      rw [run_string_add_sum _ _ _ (by rw [wordB_size]; omega), sealB_eq]
    have hs0 : sum [] = sum A.data.toList := by rw [hA]
    go_enter Try.func7, Try.ntmps7
    go_wp2_with fail
    refine (awake_any _).mono ?_; rintro e w1 ⟨rfl, hb1⟩
    go_wp2_with fail
    refine (make_any _).mono ?_; rintro e w2 ⟨rfl, hb2⟩
    go_wp2_with (refine wpList_store_row rfl 26 _ _ rfl _ table rfl rfl 26 zeros (heap_alloc_last _ _) (by rw [table_size]; exact tableInfo) (by rw [table_size, zeros_size]) table_cells ?_; rw [World.setRow_alloc_new])
    have hT := Lib.hid (tab_new w2 26)
    have hb3 : Below w.heap.size w (w2.alloc (.cells table 26)) := (hb1.trans (hb2.mono hb1.size)).alloc (Nat.le_trans hb1.size hb2.size) _
    have hs3 := hb3.size
    clear hb1 hb2
    generalize w2.heap.size = B at *
    generalize w2.alloc (.cells table 26) = w3 at *
    refine wp_loop_rounds 1 ?_
    rw [rounds_succ]
    rw [← hA]
    have HA := Lib.hid hA
    clear hA
    go_wp2_with fail
    refine (sum_none B _).mono ?_
    rintro e w' ⟨rfl, q, rfl⟩
    rw [hs0]
    go_wp2_with fail
    refine (rsum_any A _ (by omega)).mono ?_
    rintro e w' ⟨rfl, rfl⟩
    go_wp2_with fail
    refine (sum_none B _).mono ?_
    rintro e w' ⟨rfl, q2, rfl⟩
    rw [hs0]
    go_wp2_with fail
    refine (four_any _ (sum A.data.toList) _ rfl).mono ?_
    rintro e w6 ⟨rfl, hb6⟩
    go_wp2_with fail
    refine (fits_any B (sealB A) _ (by exact ((hT.out.drewN _)).below hb6) (by rw [sealB_size]; omega)).mono ?_
    rintro e w7 ⟨rfl, hb7⟩
    rw [sealB_list, fits_seal]
    go_wp2_with fail
    go_ret
    have hb6' : Below w3.heap.size w3 w6 := (below_drewN (Below.refl _ _) _).trans (hb6.mono (by simp))
    exact ⟨rfl, hb3.trans ((hb6'.mono hs3).trans (hb7.mono (Nat.le_trans hs3 hb6'.size)))⟩
  · obtain ⟨b, off, rfl, hbw, hcell⟩ := hcases.resolve_left hne
    have HCL := Lib.hid hcell
    have HNE := Lib.hid (show ss ≠ [] from hne)
    clear hcell hsizes hne
    go_enter Try.func7, Try.ntmps7
    go_wp2_with fail
    refine (awake_any _).mono ?_; rintro e w1 ⟨rfl, hb1⟩
    go_wp2_with fail
    refine (make_any _).mono ?_; rintro e w2 ⟨rfl, hb2⟩
    go_wp2_with (refine wpList_store_row rfl 26 _ _ rfl _ table rfl rfl 26 zeros (heap_alloc_last _ _) (by rw [table_size]; exact tableInfo) (by rw [table_size, zeros_size]) table_cells ?_; rw [World.setRow_alloc_new])
    have hT := Lib.hid (tab_new w2 26)
    have hb3 : Below w.heap.size w (w2.alloc (.cells table 26)) := (hb1.trans (hb2.mono hb1.size)).alloc (Nat.le_trans hb1.size hb2.size) _
    have hs3 := hb3.size
    clear hb1 hb2
    generalize w2.heap.size = B at *
    generalize w2.alloc (.cells table 26) = w3 at *
    have hbw3 : b < w.heap.size := hbw
    go_loopw [4, 5, 6] (fun x v i wr => ∃ k : Nat, k ≤ ss.length ∧ k ≤ 12 ∧ x = .string (allB ss k) ∧ wr.ownsRow w3.heap.size 9 1 v (2 * k) (partsL ss k) ∧ i = .int .i64 k ∧ Below w3.heap.size w3 wr)
      (fun _ _ i _ => 12 - (intOf i).toNat)
    case atStart => exact ⟨0, by omega, by omega, rfl, World.ownsRow_nil _ _ _ _, rfl, Below.refl _ _⟩
    case round =>
      obtain ⟨k, hk, hk2, rfl, hown, rfl, hb⟩ := hrel
      by_cases hlt : k < ss.length
      · have hc : wr.cell? ⟨b, off + k, none⟩ = some (.string (ss.getD k ByteArray.empty)) := ((hb.cell (p := ⟨b, off + k, none⟩) (by show b < w3.heap.size; omega)).trans (hb3.cell (p := ⟨b, off + k, none⟩) hbw)).trans (HCL.out k hlt)
        by_cases h12 : k < 12
        · have hadd2 : ∀ w, (Op.stringOp .add (allB ss k) (piece ss k)).run Try.prog w = .ok (.string (allB ss (k + 1))) w := fun w => by
            rw [run_string_add_sum _ _ _ (by have h1 := allB_size ss k; have h2 := piece_size ss k; omega)]; rfl
          obtain ⟨pc, hpc⟩ : ∃ pc, ss.getD k ByteArray.empty = pc := ⟨_, rfl⟩
          have HP := Lib.hid (show cutL pc 30 = piece ss k by rw [← hpc]; rfl)
          rw [hpc] at hc
          clear hpc
          go_wp2_with (first
            | (go_at_call 10; refine (cut_any _ _ 30 _ rfl).mono ?_; rintro e w' ⟨rfl, rfl⟩; rw [HP.out])
            | (at_builtin; refine wpList_append_own _ rfl _ _ 38 rfl w3.heap.size 9 i0 (.string ⟨#[]⟩) 1 16 Try.underlying38 hi hz0 hz1 hz2 rfl (by decide) _ _ _ rfl (hown.alloc _) ⟨wr.heap.size, 0, none⟩ 2 2 [.string (piece ss k), .string ⟨#[]⟩] rfl rfl ?c1 ?c2 ?c3 ?c4 ?c5 ?_))
          case c1 =>
            intro j u hj
            match j, hj with
            | 0, hj => simp at hj; subst hj; simp [Addr.add]
            | 1, hj => simp at hj; subst hj; simp [Addr.add]
          case c2 => intro u hu; simp at hu; rcases hu with rfl | rfl <;> rfl
          case c3 => unfold maxLen; omega
          case c4 => omega
          case c5 => have := hb.size; simp; omega
          intro v' w4 hown' hgrow _
          have hb' : Below w3.heap.size w3 w4 := (hb.alloc hb.size _).grown hgrow (by have := hb.size; simp; omega) (fun j hj => by have := (hown.lt j hj).1; omega)
          have hown2 : w4.ownsRow w3.heap.size 9 1 v' (2 * (k + 1)) (partsL ss (k + 1)) := hown'
          clear hown' hgrow hown hb hadd2
          go_wp2_with fail
          go_roundw
          case rel => exact ⟨k + 1, by omega, by omega, rfl, hown2, by go_num, hb'⟩
          case measure => simp [intOf]; omega
        · skip
          have hk0 : 0 < k := by
            have : ss.length ≠ 0 := fun h => HNE.out (List.length_eq_zero_iff.1 h)
            omega
          have hown0 := hown
          obtain ⟨_, hcase⟩ := hown
          rcases hcase with ⟨_, h0⟩ | ⟨g, cap', cur, rfl, hg, hh, hn, hcap, hsz, htake⟩
          · exact absurd h0 (by omega)
          · have HCC := Lib.hid (show ∀ i, i < 2 * k → wr.cell? ⟨g, 0 + i, none⟩ = some (.string (part2 ss i)) from fun i hi => by
              rw [Nat.zero_add, hown0.cellAt i (by simpa using hi), parts_at ss k i hi])
            have HCAT := Lib.hid (cat_parts ss k)
            have hAs := allB_size ss k
            clear hown0 htake hh hsz hn hcap
            obtain ⟨A, hA⟩ : ∃ A, allB ss k = A := ⟨_, rfl⟩
            rw [hA] at HCAT hAs ⊢
            clear hA
            have hAs2 : A.size ≤ 360 := by omega
            have hadd : ∀ w, (Op.stringOp .add A (wordB (sum A.data.toList))).run Try.prog w = .ok (.string (sealB A)) w := fun w => by
              rw [run_string_add_sum _ _ _ (by rw [wordB_size]; omega), sealB_eq]
            go_wp2_with fail
            refine (sum_any B g 0 (2 * k) cap' (part2 ss) _ (by omega) (by exact hT.out.below hb) (fun i hi => HCC.out i hi) (fun i _ => part2_size ss i)).mono ?_
            rintro e w' ⟨rfl, q, rfl⟩
            rw [HCAT.out]
            go_wp2_with fail
            refine (rsum_any A _ (by omega)).mono ?_
            rintro e w' ⟨rfl, rfl⟩
            go_wp2_with fail
            refine (sum_any B g 0 (2 * k) cap' (part2 ss) _ (by omega) (by first | exact hT.out.below hb | exact (hT.out.below hb).drewN _) (fun i hi => by first | exact HCC.out i hi | (rw [World.cell?_drewN]; exact HCC.out i hi)) (fun i _ => part2_size ss i)).mono ?_
            rintro e w' ⟨rfl, q2, rfl⟩
            rw [HCAT.out]
            go_wp2_with fail
            refine (four_any _ (sum A.data.toList) _ rfl).mono ?_
            rintro e w6 ⟨rfl, hb6⟩
            have hb6' : Below w3.heap.size w3 w6 := (below_drewN hb _).trans (hb6.mono (by simpa using hb.size))
            clear hb6
            go_wp2_with fail
            refine (fits_any B (sealB A) _ (by exact hT.out.below hb6') (by rw [sealB_size]; omega)).mono ?_
            rintro e w7 ⟨rfl, hb7⟩
            rw [sealB_list, fits_seal]
            go_wp2_with fail
            go_ret
            exact ⟨rfl, hb3.trans ((hb6'.mono hs3).trans (hb7.mono (Nat.le_trans hs3 hb6'.size)))⟩
      · skip
        have hk0 : 0 < k := by
          have : ss.length ≠ 0 := fun h => HNE.out (List.length_eq_zero_iff.1 h)
          omega
        have hown0 := hown
        obtain ⟨_, hcase⟩ := hown
        rcases hcase with ⟨_, h0⟩ | ⟨g, cap', cur, rfl, hg, hh, hn, hcap, hsz, htake⟩
        · exact absurd h0 (by omega)
        · have HCC := Lib.hid (show ∀ i, i < 2 * k → wr.cell? ⟨g, 0 + i, none⟩ = some (.string (part2 ss i)) from fun i hi => by
            rw [Nat.zero_add, hown0.cellAt i (by simpa using hi), parts_at ss k i hi])
          have HCAT := Lib.hid (cat_parts ss k)
          have hAs := allB_size ss k
          clear hown0 htake hh hsz hn hcap
          obtain ⟨A, hA⟩ : ∃ A, allB ss k = A := ⟨_, rfl⟩
          rw [hA] at HCAT hAs ⊢
          clear hA
          have hAs2 : A.size ≤ 360 := by omega
          have hadd : ∀ w, (Op.stringOp .add A (wordB (sum A.data.toList))).run Try.prog w = .ok (.string (sealB A)) w := fun w => by
            rw [run_string_add_sum _ _ _ (by rw [wordB_size]; omega), sealB_eq]
          go_wp2_with fail
          refine (sum_any B g 0 (2 * k) cap' (part2 ss) _ (by omega) (by exact hT.out.below hb) (fun i hi => HCC.out i hi) (fun i _ => part2_size ss i)).mono ?_
          rintro e w' ⟨rfl, q, rfl⟩
          rw [HCAT.out]
          go_wp2_with fail
          refine (rsum_any A _ (by omega)).mono ?_
          rintro e w' ⟨rfl, rfl⟩
          go_wp2_with fail
          refine (sum_any B g 0 (2 * k) cap' (part2 ss) _ (by omega) (by first | exact hT.out.below hb | exact (hT.out.below hb).drewN _) (fun i hi => by first | exact HCC.out i hi | (rw [World.cell?_drewN]; exact HCC.out i hi)) (fun i _ => part2_size ss i)).mono ?_
          rintro e w' ⟨rfl, q2, rfl⟩
          rw [HCAT.out]
          go_wp2_with fail
          refine (four_any _ (sum A.data.toList) _ rfl).mono ?_
          rintro e w6 ⟨rfl, hb6⟩
          have hb6' : Below w3.heap.size w3 w6 := (below_drewN hb _).trans (hb6.mono (by simpa using hb.size))
          clear hb6
          go_wp2_with fail
          refine (fits_any B (sealB A) _ (by exact hT.out.below hb6') (by rw [sealB_size]; omega)).mono ?_
          rintro e w7 ⟨rfl, hb7⟩
          rw [sealB_list, fits_seal]
          go_wp2_with fail
          go_ret
          exact ⟨rfl, hb3.trans ((hb6'.mono hs3).trans (hb7.mono (Nat.le_trans hs3 hb6'.size)))⟩

theorem own : ownKnob Try.prog.godebug = none := by kernel_rfl
theorem laidOut : laidOutB Try.prog = true := by kernel_rfl

set_option maxRecDepth 100000 in
theorem lifted (os : Os) (started : os.Started) (H : Type) (enc : TypeId × Value → H) :
    ReturnsInHanded {} Try.checked os 7 .any (Rows.crcPartsSpec.pre6 enc Try.prog Try.f7 Rows.crcPartsRow.domain false) (Rows.crcPartsSpec.post enc Try.prog Try.f7 false true false false) := by
  refine Base.law_lifted (C := Try.checked) own started (by kernel_rfl) Try.func7 laidOut (by kernel_rfl) rfl Try.underlying4 rfl ?_
    (ChangeSpec.witness6 (enc := enc) (C := Try.checked) false ⟨#[], #[.slice none 0 0], []⟩ 8 (by kernel_rfl) (by kernel_rfl) (by kernel_rfl) (by kernel_rfl)) ?_
  · intro ds h
    match ds, h with
    | [_d0], _ => exact ⟨rfl, rfl, rfl⟩
  · intro W base args ds before hval0 hA0 hlt hsz
    have hval : ∀ (j : Nat) t v, Try.f7.params[j]? = some t → args[j]? = some v → Value.okWide Try.prog W .any base t v := hval0
    have hA : DataW.TrodAll enc Try.prog W 0 (fun _ => true) true Try.f7.params.toList args.toList ds before := hA0
    clear hval0 hA0
    rw [Try.params7] at hA hval hsz
    obtain ⟨v0, vs0, d0, ds0, p0, q0, hargs, rfl, rfl, h0, r0⟩ := trodAll_cons hA
    obtain ⟨rfl, rfl, rfl⟩ := trodAll_nil r0
    obtain rfl : args = #[v0] := by cases args; simp_all
    obtain ⟨a0, w0⟩ := Base.open_str_slice Try.underlying38 Try.underlying9 (by kernel_rfl) (hval 0 38 v0 rfl rfl) h0 (fun x hx => hlt x (by simp [hx]))
    exact walk W v0 a0 w0

theorem over : Rows.crcPartsRow.holds Try.pinned (OpenSpec.ofChange Rows.crcPartsSpec) :=
  OpenClaim.holds_of_wide 7 Try.f7 rfl rfl rfl rfl rfl rfl rfl ⟨rfl, rfl, rfl, rfl, rfl⟩ rfl rfl rfl rfl rfl (by kernel_rfl) Try.func7 (by kernel_rfl)
    (of_decide_eq_true (by kernel_rfl)) (by unfold Func.isWrapper; first | (rw [if_pos (by decide +kernel)]; kernel_rfl) | (rw [if_neg (by decide +kernel)]; exact ⟨rfl, rfl⟩))
    (fun os started H enc _ => lifted os started H enc)

theorem proved : Rows.CrcPartsSaid :=
  over
#print axioms proved
end Go.Proofs.Ytfcdhfdjnfolkaa.crcParts
