/-
  GapsFar is proved: of any numbers, also far ones, how many a pair has, and which, is as the document says; for every input the law returns true.
-/
import Derived.Test.YtpaogpjdkkkihaaBase
import Derived.Test.YtpaogpjdkkkihaaGaps7
import Derived.Test.YtpaogpjdkkkihaaOwnOn
namespace Go.Proofs.Ytpaogpjdkkkihaa.gapsFar
open Go.ChangeShapes Go.WideShapes Go.ChangeAt Go.RowKit
set_option linter.unusedVariables false      -- a walk need not use every bound of an argument

open Gaps SpanMath Own
theorem cnt1 (L : List Int) (a b : Int) (h0 : L.getD 0 0 = a) (h1 : L.getD 1 0 = b) (hl : L.length / 2 = 1) : countL L = if wayI a b ≤ 8388608 then wayI a b else 0 := by
  unfold countL
  rw [hl]
  show (0 : Int) + (if wayI (L.getD 0 0) (L.getD 1 0) ≤ 8388608 then wayI (L.getD 0 0) (L.getD 1 0) else 0) = _
  rw [h0, h1]; omega
theorem count2 (a b : Int) : countL [a, b] = if wayI a b ≤ 8388608 then wayI a b else 0 := cnt1 _ a b rfl rfl (by simp)
theorem count3 (a b c : Int) : countL [a, b, c] = if wayI a b ≤ 8388608 then wayI a b else 0 := cnt1 _ a b rfl rfl (by simp)
theorem rd3 (W : World) (o : Obj) (a b c : Int) (Z : Array Value) : RdI .u32 ((W.alloc o).alloc (.cells (#[.int .u32 a, .int .u32 b, .int .u32 c] ++ Z) 28)).drew (some ⟨W.heap.size + 1, 0, none⟩) 3 [a, b, c] := by
  refine ⟨rfl, fun _ => ⟨_, 0, rfl, by show _ < ((W.alloc o).alloc _).heap.size; simp, fun i hi => ?_⟩⟩
  have hblk : ((W.alloc o).alloc (.cells (#[.int .u32 a, .int .u32 b, .int .u32 c] ++ Z) 28)).drew.heap[W.heap.size + 1]? = some (.cells (#[.int .u32 a, .int .u32 b, .int .u32 c] ++ Z) 28 (0, 0)) := by
    have := heap_alloc_new (W.alloc o) (.cells (#[.int .u32 a, .int .u32 b, .int .u32 c] ++ Z) 28 (0, 0))
    rw [show (W.alloc o).heap.size = W.heap.size + 1 from by simp] at this
    exact this
  refine (cell_of_row _ _ _ _ _ _ hblk).trans ?_
  rcases (show i = 0 ∨ i = 1 ∨ i = 2 by omega) with rfl | rfl | rfl <;> simp [Array.getElem?_append]
theorem run_new (a : Int) : ∀ (n : Nat), n ≤ 2000 → Gaps.runN a [] n = (List.range n).map fun i : Nat => (a + (i : Int)) % 16777216
  | 0, _ => rfl
  | n + 1, h => by
    rw [Gaps.runN_succ, run_new a n (by omega), List.range_succ, List.map_append]
    unfold stepN
    rw [if_pos ⟨by simp; omega, fun hm => by
      obtain ⟨i, hi, he⟩ := List.mem_map.1 hm
      have := List.mem_range.1 hi
      omega⟩]
    rfl
theorem named2 (a b : Int) : namedL [a, b] = if wayI a b ≤ 8388608 then Gaps.runN a [] (wayI a b).toNat else [] := by
  unfold namedL
  rw [show ([a, b] : List Int).length / 2 = 1 from by simp]
  rfl
set_option maxRecDepth 100000 in
set_option maxHeartbeats 2000000 in
theorem walk (w : World) (a0 : Int) (w0 : (Lit.int .u32 a0).wf = true) (a1 : Int) (w1 : (Lit.int .u32 a1).wf = true) (a2 : Int) (w2 : (Lit.int .u32 a2).wf = true) :
    Calls Try.prog 6 #[.int .u32 a0, .int .u32 a1, .int .u32 a2] w fun e w' => e = .returned (.bool true) ∧ Below w.heap.size w w' := by
  obtain ⟨x1, x2⟩ := bounds_u32 w0
  obtain ⟨y1, y2⟩ := bounds_u32 w1
  obtain ⟨q, hq⟩ : ∃ q, wayI a0 a1 = q := ⟨_, rfl⟩
  have hq2 : (a1 - a0) % 16777216 = q := hq
  have hqb := way_bounds a0 a1
  rw [hq] at hqb
  obtain ⟨q0, q1⟩ := hqb
  have HQ := Lib.hid hq
  have HQ2 := Lib.hid hq2
  clear hq hq2 w0 w1 w2
  go_enter Try.func6, Try.ntmps6
  go_wp2_with fail
  refine (awake_any _).mono ?_; rintro e W1 ⟨rfl, hb1⟩
  have B1 := Lib.hid hb1
  clear hb1
  go_upto_region 4 with (fail)
  have hal : Below W1.heap.size W1 (W1.alloc (.cells #[.int .u32 a0, .int .u32 a1] 28)) := (Below.refl _ _).alloc (Nat.le_refl _) _
  have B2 := Lib.hid (B1.out.trans (hal.mono B1.out.size))
  have R2 := Lib.hid (rdU_lit2_at W1 a0 a1 W1.heap.size rfl)
  clear hal
  change Code.wp _ _ _ _ (W1.alloc (.cells #[.int .u32 a0, .int .u32 a1] 28))
  generalize W1.alloc (.cells #[.int .u32 a0, .int .u32 a1] 28) = W2 at *
  generalize W1.heap.size = g at *
  go_wp2_with fail
  refine (SeqCalls.rto_any a0 a1 _ (by omega) (by omega) (by omega) (by omega)).mono ?_; rintro e W3 ⟨rfl, rfl⟩
  rw [HQ2.out]
  by_cases hbig : 8388608 < q
  · have HC2 : Hid (countL [a0, a1] = 0) := Lib.hid (by rw [count2, if_neg (by rw [HQ.out]; omega)])
    have HC3 : Hid (countL [a0, a1, a2] = 0) := Lib.hid (by rw [count3, if_neg (by rw [HQ.out]; omega)])
    have HNM : Hid (namedL [a0, a1] = []) := Lib.hid (by rw [named2, if_neg (by rw [HQ.out]; omega)])
    go_wp2_with fail
    refine (count_any _ 2 2 [a0, a1] _ R2.out ⟨Nat.le_refl _, by unfold maxLen; omega, fun h => by cases h⟩ (by decide)).mono ?_; rintro e W3 ⟨rfl, hb3⟩
    rw [HC2.out]
    have B3 := Lib.hid (B2.out.trans (hb3.mono B2.out.size))
    have R3 := Lib.hid (R2.out.below hb3)
    clear hb3
    obtain ⟨b', off', e1, hlt, k0⟩ := R3.out.at_ (k := 0) (by decide)
    cases e1
    obtain ⟨b', off', e1, _, k1⟩ := R3.out.at_ (k := 1) (by decide)
    cases e1
    rw [Nat.add_zero] at k0
    rw [Nat.zero_add] at k1
    simp only [List.getD_cons_zero, List.getD_cons_succ] at k0 k1
    go_wp2_with fail
    generalize hC : (Question.appendCap 3 2 28).cut (W3.tape W3.drawn (Question.appendCap 3 2 28)) = C
    have hC1 : 3 ≤ C := by rw [← hC]; exact grownCap_ge W3 3 2 28
    have hC2 : C ≤ maxLen := by rw [← hC]; exact grownCap_le_maxLen W3 3 2 28 (by unfold maxLen; omega)
    have R5 := Lib.hid (rd3 W3 (.cells #[.int .u32 a2] 28 (0, 0)) a0 a1 a2 (Builtin.zeroCells #[.int .u32 0] (C - 3)))
    have hal : Below W3.heap.size W3 ((W3.alloc (.cells #[.int .u32 a2] 28)).alloc (.cells (#[.int .u32 a0, .int .u32 a1, .int .u32 a2] ++ Builtin.zeroCells #[.int .u32 0] (C - 3)) 28)).drew := (((Below.refl _ _).alloc (Nat.le_refl _) _).alloc (by simp) _).drew
    have B5 := Lib.hid (B3.out.trans (hal.mono B3.out.size))
    have R6 := Lib.hid (R3.out.below hal)
    clear hal hC k0 k1 hlt
    generalize ((W3.alloc (.cells #[.int .u32 a2] 28)).alloc (.cells (#[.int .u32 a0, .int .u32 a1, .int .u32 a2] ++ Builtin.zeroCells #[.int .u32 0] (C - 3)) 28)).drew = W5 at *
    generalize W3.heap.size + 1 = g5 at *
    refine (count_any _ 3 C [a0, a1, a2] _ R5.out ⟨hC1, hC2, fun h => by cases h⟩ (by decide)).mono ?_; rintro e W6 ⟨rfl, hb6⟩
    rw [HC3.out]
    have B6 := Lib.hid (B5.out.trans (hb6.mono B5.out.size))
    have R7 := Lib.hid (R6.out.below hb6)
    clear hb6 hC1 hC2
    go_wp2_with fail
    refine (named_any 12 0 0 0 0 _ 2 2 [a0, a1] false ⟨#[]⟩ _ R7.out ⟨Nat.le_refl _, by unfold maxLen; omega, fun h => by cases h⟩ (.inr rfl)).mono ?_; rintro e W8 ⟨v8, rfl, ho8, hb8⟩
    rw [HNM.out] at ho8
    obtain ⟨a8, c8, rfl, _, _⟩ := own_rd ho8
    have B8 := Lib.hid (B6.out.trans (hb8.mono B6.out.size))
    clear ho8 hb8
    rw [show ([] : List Int).length = 0 from rfl]
    go_wp2_with fail
    go_loop [44] (fun s44 => s44 = .int .i64 0) (fun _ => 0)
    case atStart => rfl
    case round =>
      obtain rfl := hrel
      go_wp2_with fail
      go_ret
      exact ⟨rfl, B8.out⟩
  · have hle : q ≤ 8388608 := by omega
    have HC2 : Hid (countL [a0, a1] = q) := Lib.hid (by rw [count2, if_pos (by rw [HQ.out]; omega), HQ.out])
    have HC3 : Hid (countL [a0, a1, a2] = q) := Lib.hid (by rw [count3, if_pos (by rw [HQ.out]; omega), HQ.out])
    have HNM : Hid (namedL [a0, a1] = Gaps.runN a0 [] q.toNat) := Lib.hid (by rw [named2, if_pos (by rw [HQ.out]; omega), HQ.out])
    clear hbig
    go_wp2_with fail
    refine (count_any _ 2 2 [a0, a1] _ R2.out ⟨Nat.le_refl _, by unfold maxLen; omega, fun h => by cases h⟩ (by decide)).mono ?_; rintro e W3 ⟨rfl, hb3⟩
    rw [HC2.out]
    have B3 := Lib.hid (B2.out.trans (hb3.mono B2.out.size))
    have R3 := Lib.hid (R2.out.below hb3)
    clear hb3
    obtain ⟨b', off', e1, hlt, k0⟩ := R3.out.at_ (k := 0) (by decide)
    cases e1
    obtain ⟨b', off', e1, _, k1⟩ := R3.out.at_ (k := 1) (by decide)
    cases e1
    rw [Nat.add_zero] at k0
    rw [Nat.zero_add] at k1
    simp only [List.getD_cons_zero, List.getD_cons_succ] at k0 k1
    go_wp2_with fail
    generalize hC : (Question.appendCap 3 2 28).cut (W3.tape W3.drawn (Question.appendCap 3 2 28)) = C
    have hC1 : 3 ≤ C := by rw [← hC]; exact grownCap_ge W3 3 2 28
    have hC2 : C ≤ maxLen := by rw [← hC]; exact grownCap_le_maxLen W3 3 2 28 (by unfold maxLen; omega)
    have R5 := Lib.hid (rd3 W3 (.cells #[.int .u32 a2] 28 (0, 0)) a0 a1 a2 (Builtin.zeroCells #[.int .u32 0] (C - 3)))
    have hal : Below W3.heap.size W3 ((W3.alloc (.cells #[.int .u32 a2] 28)).alloc (.cells (#[.int .u32 a0, .int .u32 a1, .int .u32 a2] ++ Builtin.zeroCells #[.int .u32 0] (C - 3)) 28)).drew := (((Below.refl _ _).alloc (Nat.le_refl _) _).alloc (by simp) _).drew
    have B5 := Lib.hid (B3.out.trans (hal.mono B3.out.size))
    have R6 := Lib.hid (R3.out.below hal)
    clear hal hC k0 k1 hlt
    generalize ((W3.alloc (.cells #[.int .u32 a2] 28)).alloc (.cells (#[.int .u32 a0, .int .u32 a1, .int .u32 a2] ++ Builtin.zeroCells #[.int .u32 0] (C - 3)) 28)).drew = W5 at *
    generalize W3.heap.size + 1 = g5 at *
    refine (count_any _ 3 C [a0, a1, a2] _ R5.out ⟨hC1, hC2, fun h => by cases h⟩ (by decide)).mono ?_; rintro e W6 ⟨rfl, hb6⟩
    rw [HC3.out]
    have B6 := Lib.hid (B5.out.trans (hb6.mono B5.out.size))
    have R7 := Lib.hid (R6.out.below hb6)
    clear hb6 hC1 hC2
    by_cases hfar : 2000 < q
    · go_wp2_with fail
      go_ret
      exact ⟨rfl, B6.out⟩
    · go_wp2_with fail
      refine (named_any 12 0 0 0 0 _ 2 2 [a0, a1] false ⟨#[]⟩ _ R7.out ⟨Nat.le_refl _, by unfold maxLen; omega, fun h => by cases h⟩ (.inr rfl)).mono ?_; rintro e W8 ⟨v8, rfl, ho8, hb8⟩
      rw [HNM.out] at ho8
      obtain ⟨m, hm⟩ : ∃ m : Nat, q = (m : Int) := ⟨q.toNat, by omega⟩
      have hm2 : m ≤ 2000 := by omega
      rw [show q.toNat = m from by omega, run_new a0 m hm2] at ho8
      obtain ⟨a8, c8, rfl, _, hr8⟩ := own_rd ho8
      have hln : ((List.range m).map fun i : Nat => (a0 + (i : Int)) % 16777216).length = m := by simp
      rw [hln] at hr8 ⊢
      have B8 := Lib.hid (B6.out.trans (hb8.mono B6.out.size))
      have R8 := Lib.hid hr8
      have HM := Lib.hid hm
      have hmi : (m : Int) ≤ 2000 := by omega
      clear ho8 hb8 hr8 hln hm2 hm
      go_wp2_with fail
      go_loop [44] (fun s44 => ∃ i : Nat, i ≤ m ∧ s44 = .int .i64 (i : Int)) (fun s44 => m - (intOf s44).toNat)
      case atStart => exact ⟨0, Nat.zero_le _, rfl⟩
      case round =>
        obtain ⟨i, hi, rfl⟩ := hrel
        by_cases him : i < m
        · obtain ⟨b, off, rfl, _, hc⟩ := R8.out.at_ him
          rw [show ((List.range m).map fun i : Nat => (a0 + (i : Int)) % 16777216).getD i 0 = (a0 + (i : Int)) % 16777216 from by simp [List.getD, him]] at hc
          have HI := Lib.hid him
          have hii : (i : Int) < (m : Int) := by omega
          clear him hi
          obtain ⟨x, hx⟩ : ∃ x, (a0 + (i : Int)) % 16777216 = x := ⟨_, rfl⟩
          rw [hx] at hc
          have hx0 : 0 ≤ x ∧ x < 16777216 := by omega
          obtain ⟨hxa, hxb⟩ := hx0
          have HX := Lib.hid hx
          clear hx
          have hne : (x != x) = false := by simp
          go_wp2_with fail
          refine (SeqCalls.of_any a0 _ (by omega) (by omega)).mono ?_; rintro e W9 ⟨rfl, rfl⟩
          go_wp2_with fail
          refine (SeqCalls.of_any _ _ (by omega) (by omega)).mono ?_; rintro e W9 ⟨rfl, rfl⟩
          rw [show (a0 % 16777216 + (i : Int)) % 16777216 = x from by rw [← HX.out]; omega]
          go_wp2_with fail
          go_round
          case rel => exact ⟨i + 1, HI.out, by go_num⟩
          case measure => simp [intOf]; have := HI.out; omega
        · obtain rfl : i = m := by omega
          have hqq : ((i : Int) == q) = true := by rw [HM.out]; simp
          go_wp2_with fail
          go_ret
          exact ⟨by first | rfl | (simp only [hqq]; rfl), B8.out⟩

theorem own : ownKnob Try.prog.godebug = none := by kernel_rfl
theorem laidOut : laidOutB Try.prog = true := by kernel_rfl

set_option maxRecDepth 100000 in
theorem lifted (os : Os) (started : os.Started) (H : Type) (enc : TypeId × Value → H) :
    ReturnsInHanded {} Try.checked os 6 .any (Rows.gapsFarSpec.pre6 enc Try.prog Try.f6 Rows.gapsFarRow.domain false) (Rows.gapsFarSpec.post enc Try.prog Try.f6 false true false false) := by
  refine Base.law_lifted (C := Try.checked) own started (by kernel_rfl) Try.func6 laidOut (by kernel_rfl) rfl Try.underlying4 rfl ?_
    (ChangeSpec.witness6 (enc := enc) (C := Try.checked) false ⟨#[], #[.int .u32 0, .int .u32 0, .int .u32 0], []⟩ 8 (by kernel_rfl) (by kernel_rfl) (by kernel_rfl) (by kernel_rfl)) ?_
  · intro ds h
    match ds, h with
    | [_d0, _d1, _d2], _ => exact ⟨rfl, rfl, rfl⟩
  · intro W base args ds before hval0 hA0 hlt hsz
    have hval : ∀ (j : Nat) t v, Try.f6.params[j]? = some t → args[j]? = some v → Value.okWide Try.prog W .any base t v := hval0
    have hA : DataW.TrodAll enc Try.prog W 0 (fun _ => true) true Try.f6.params.toList args.toList ds before := hA0
    clear hval0 hA0
    rw [Try.params6] at hA hval hsz
    obtain ⟨v0, vs0, d0, ds0, p0, q0, hargs, rfl, rfl, h0, r0⟩ := trodAll_cons hA
    obtain ⟨v1, vs1, d1, ds1, p1, q1, rfl, rfl, rfl, h1, r1⟩ := trodAll_cons r0
    obtain ⟨v2, vs2, d2, ds2, p2, q2, rfl, rfl, rfl, h2, r2⟩ := trodAll_cons r1
    obtain ⟨rfl, rfl, rfl⟩ := trodAll_nil r2
    obtain rfl : args = #[v0, v1, v2] := by cases args; simp_all
    obtain ⟨a0, rfl, rfl, rfl, w0⟩ := open_int Try.underlying27 (hval 0 27 v0 rfl rfl) h0
    obtain ⟨a1, rfl, rfl, rfl, w1⟩ := open_int Try.underlying27 (hval 1 27 v1 rfl rfl) h1
    obtain ⟨a2, rfl, rfl, rfl, w2⟩ := open_int Try.underlying27 (hval 2 27 v2 rfl rfl) h2
    exact walk W a0 w0 a1 w1 a2 w2

theorem over : Rows.gapsFarRow.holds Try.pinned (OpenSpec.ofChange Rows.gapsFarSpec) :=
  OpenClaim.holds_of_wide 6 Try.f6 rfl rfl rfl rfl rfl rfl rfl ⟨rfl, rfl, rfl, rfl, rfl⟩ rfl rfl rfl rfl rfl (by kernel_rfl) Try.func6 (by kernel_rfl)
    (of_decide_eq_true (by kernel_rfl)) (by unfold Func.isWrapper; first | (rw [if_pos (by decide +kernel)]; kernel_rfl) | (rw [if_neg (by decide +kernel)]; exact ⟨rfl, rfl⟩))
    (fun os started H enc _ => lifted os started H enc)

theorem proved : Rows.GapsFarSaid :=
  over
#print axioms proved
end Go.Proofs.Ytpaogpjdkkkihaa.gapsFar
