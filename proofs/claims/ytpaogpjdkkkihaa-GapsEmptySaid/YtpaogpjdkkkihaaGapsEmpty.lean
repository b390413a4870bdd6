/-
  GapsEmpty is proved: what has no numbers has no pairs, a single number is a pair, the whole is one; for every input the law returns true.
-/
import Derived.Test.YtpaogpjdkkkihaaBase
import Derived.Test.YtpaogpjdkkkihaaGapsA
import Derived.Test.YtpaogpjdkkkihaaSpanLen
import Derived.Deep.RegionHeld3
namespace Go.Proofs.Ytpaogpjdkkkihaa.gapsEmpty
open Go.ChangeShapes Go.WideShapes Go.ChangeAt Go.RowKit
set_option linter.unusedVariables false      -- a walk need not use every bound of an argument

open Gaps SpanMath
theorem one_set {x y : Int} (h : x < y) : IsSet [(x, y)] (inSp [(x, y)]) := ⟨⟨by simp, by simpa using h⟩, fun n => mem_nums⟩
theorem one_flat (b x y : Int) : flatB b [(x, y)] = [(b + x) % 16777216, (b + y) % 16777216] := rfl
theorem way_of (b x : Int) (h0 : 0 ≤ x) (h1 : x < 16777216) : wayI b ((b + x) % 16777216) = x := by unfold wayI; omega
theorem one_good {b m t : Int} (h1 : 1 ≤ m) (h2 : m ≤ 300) : goodS b ((b + t) % 16777216) [(b + 0) % 16777216, (b + m) % 16777216] = (decide (wayI b ((b + t) % 16777216) ≤ 8388608) && decide (m ≤ wayI b ((b + t) % 16777216))) := by
  have hb := way_bounds b ((b + t) % 16777216)
  unfold goodS
  rw [riseL, riseL, riseL, way_of b 0 (by omega) (by omega), way_of b m (by omega) (by omega)]
  generalize wayI b ((b + t) % 16777216) = q at *
  rw [if_neg (by omega)]
  by_cases hq : m ≤ q
  · rw [if_neg (by omega)]; simp [hq]
  · rw [if_pos (by omega)]; simp [hq]
theorem none_good (b : Int) : goodS b b [] = true := by
  unfold goodS; rw [show wayI b b = 0 from by unfold wayI; omega]; rfl
theorem one_spans {b m : Int} (h1 : 1 ≤ m) (h2 : m ≤ 300) : spansOf b [(b + 0) % 16777216, (b + m) % 16777216] = [(0, m)] := by
  have e : ([(b + 0) % 16777216, (b + m) % 16777216] : List Int).length / 2 = 1 := by simp
  unfold spansOf
  rw [e, List.range_one]
  show [(wayI b ((b + 0) % 16777216), wayI b ((b + m) % 16777216))] = _
  rw [way_of b 0 (by omega) (by omega), way_of b m (by omega) (by omega)]
theorem nums_one {m : Int} (h : 0 ≤ m) : ((nums [(0, m)]).length : Int) = m := by
  simp [nums, run]; omega
theorem nil_set : IsSet [] (inSp []) := ⟨⟨by simp, by simp⟩, fun n => mem_nums⟩
theorem count_one {b m : Int} (h1 : 1 ≤ m) (h2 : m ≤ 300) : countL (flatB b [(0, m)]) = m := by
  rw [count_flat]
  show (0 : Int) + (if (m - 0) % 16777216 ≤ 8388608 then (m - 0) % 16777216 else 0) = m
  rw [if_pos (by omega)]; omega
set_option maxRecDepth 100000 in
set_option maxHeartbeats 4000000 in
theorem walk (w : World) (a0 : Int) (w0 : (Lit.int .u32 a0).wf = true) (n0 : Int) (w1 : (Lit.int .i64 n0).wf = true) :
    Calls Try.prog 7 #[.int .u32 a0, .int .i64 n0] w fun e w' => e = .returned (.bool true) ∧ Below w.heap.size w w' := by
  obtain ⟨x1, x2⟩ := bounds_u32 w0
  obtain ⟨y1, y2⟩ := bounds_i64 w1
  clear w0 w1
  go_enter Try.func7, Try.ntmps7
  go_wp2_with fail
  refine (gawake_any _).mono ?_; rintro e W1 ⟨rfl, hb1⟩
  have B1 := Lib.hid hb1
  clear hb1
  go_wp2_with fail
  refine (SeqCalls.low_any a0 _ x1 (by omega)).mono ?_; rintro e W2 ⟨rfl, rfl⟩
  obtain ⟨b, hb⟩ : ∃ b, a0 % 16777216 = b := ⟨_, rfl⟩
  rw [hb]
  clear hb
  go_upto_region 5 with (fail)
  obtain ⟨m, hm⟩ : ∃ m, max 1 (min n0 300) = m := ⟨_, rfl⟩
  have hm1 : 1 ≤ m ∧ m ≤ 300 := by omega
  obtain ⟨m1, m2⟩ := hm1
  rw [hm]
  clear hm
  generalize min n0 300 = n1
  have hb0 : Below W1.heap.size W1 (W1.alloc (.cells #[.int .i64 (m - 1), .int .i64 m] 56)) := (Below.refl _ _).alloc (Nat.le_refl _) _
  have hr0 : View.RdS (W1.alloc (.cells #[.int .i64 (m - 1), .int .i64 m] 56)) (some ⟨W1.heap.size, 0, none⟩) 1 [(m - 1, m)] := ⟨rfl, fun _ => ⟨_, 0, rfl, by simp, fun i hi => by
    rcases (show i = 0 by omega) with rfl; simp⟩⟩
  have HB0 := Lib.hid hb0
  have HR0 := Lib.hid hr0
  clear hb0 hr0
  go_wp2_with fail
  refine (SpanCalls.of_any _ 1 1 [(m - 1, m)] [(m - 1, m)] _ HR0.out ⟨Nat.le_refl _, by unfold maxLen; omega, fun h => by cases h⟩ ⟨by simp, by simp; omega⟩ (one_set (by omega))).mono ?_; rintro e W3 ⟨v3, rfl, ho3, hb3⟩
  obtain ⟨a3, n3, c3, rfl, hf3, hr3⟩ := ho3.form
  have B3 := Lib.hid (B1.out.trans ((HB0.out.trans (hb3.mono HB0.out.size)).mono B1.out.size))
  have R3 := Lib.hid hr3
  have F3 := Lib.hid hf3
  clear ho3 hb3 hr3 hf3 HR0 HB0
  go_wp2_with fail
  refine (glist_any b a3 n3 c3 [(m - 1, m)] [(m - 1, m)] [(m - 1, m)] _ R3.out F3.out ⟨by simp, by simp; omega⟩ (one_set (by omega)) (by simp) (both_self (one_set (by omega)).1 (by simp; omega)) (by simp)).mono ?_; rintro e W4 ⟨v4, rfl, ho4, hb4⟩
  rw [one_flat] at ho4
  obtain ⟨a4, c4, rfl, hf4, hr4⟩ := own_rd ho4
  have B4 := Lib.hid (B3.out.trans (hb4.mono B3.out.size))
  have R4 := Lib.hid hr4
  clear ho4 hb4 hr4 hf4 R3 F3
  rw [show ([(b + (m - 1)) % 16777216, (b + m) % 16777216] : List Int).length = 2 from rfl] at R4 ⊢
  go_upto_region 6 with (fail)
  have hb0 : Below W4.heap.size W4 (W4.alloc (.cells #[.int .i64 0, .int .i64 m] 56)) := (Below.refl _ _).alloc (Nat.le_refl _) _
  have hr0 : View.RdS (W4.alloc (.cells #[.int .i64 0, .int .i64 m] 56)) (some ⟨W4.heap.size, 0, none⟩) 1 [(0, m)] := ⟨rfl, fun _ => ⟨_, 0, rfl, by simp, fun i hi => by
    rcases (show i = 0 by omega) with rfl; simp⟩⟩
  have HB0 := Lib.hid hb0
  have HR0 := Lib.hid hr0
  clear hb0 hr0
  go_wp2_with fail
  refine (SpanCalls.of_any _ 1 1 [(0, m)] [(0, m)] _ HR0.out ⟨Nat.le_refl _, by unfold maxLen; omega, fun h => by cases h⟩ ⟨by simp, by simp; omega⟩ (one_set (by omega))).mono ?_; rintro e W5 ⟨v5, rfl, ho5, hb5⟩
  obtain ⟨a5, n5, c5, rfl, hf5, hr5⟩ := ho5.form
  have B5 := Lib.hid (B4.out.trans ((HB0.out.trans (hb5.mono HB0.out.size)).mono B4.out.size))
  have R45 := Lib.hid (R4.out.below (HB0.out.trans (hb5.mono HB0.out.size)))
  have R5 := Lib.hid hr5
  have F5 := Lib.hid hf5
  clear ho5 hb5 hr5 hf5 HR0 HB0 R4
  go_wp2_with fail
  refine (glist_any b a5 n5 c5 [(0, m)] [(0, m)] [(0, m)] _ R5.out F5.out ⟨by simp, by simp; omega⟩ (one_set (by omega)) (by simp) (both_self (one_set (by omega)).1 (by simp; omega)) (by simp)).mono ?_; rintro e W6 ⟨v6, rfl, ho6, hb6⟩
  rw [one_flat] at ho6
  obtain ⟨a6, c6, rfl, hf6, hr6⟩ := own_rd ho6
  have B6 := Lib.hid (B5.out.trans (hb6.mono B5.out.size))
  have R46 := Lib.hid (R45.out.below hb6)
  have R6 := Lib.hid hr6
  have F6 := Lib.hid hf6
  clear ho6 hb6 hr6 hf6 R5 F5 R45
  rw [show ([(b + 0) % 16777216, (b + m) % 16777216] : List Int).length = 2 from rfl] at R6 F6 ⊢
  go_wp2_with fail
  refine (SeqCalls.add_any _ _ _).mono ?_; rintro e W7 ⟨rfl, rfl⟩
  go_wp2_with fail
  refine (gset_any b ((b + m) % 16777216) a6 2 c6 _ _ R6.out F6.out (by decide)).mono ?_; rintro e W7 ⟨v7, rfl, ho7, hb7⟩
  have hg7 : goodS b ((b + m) % 16777216) [(b + 0) % 16777216, (b + m) % 16777216] = true := by
    rw [one_good m1 m2, way_of b m (by omega) (by omega)]; simp; omega
  unfold setL at ho7
  rw [if_pos hg7, one_spans m1 m2] at ho7
  rw [hg7]
  obtain ⟨a7, n7, c7, rfl, hf7, hr7⟩ := ho7.form
  have B7 := Lib.hid (B6.out.trans (hb7.mono B6.out.size))
  have R47 := Lib.hid (R46.out.below hb7)
  have R67 := Lib.hid (R6.out.below hb7)
  have R7 := Lib.hid hr7
  clear ho7 hb7 hr7 hf7 hg7 R46 R6
  go_wp2_with fail
  refine (SeqCalls.add_any _ _ _).mono ?_; rintro e W8 ⟨rfl, rfl⟩
  go_wp2_with fail
  refine (gset_any b ((b + (m - 1)) % 16777216) a6 2 c6 _ _ R67.out F6.out (by decide)).mono ?_; rintro e W8 ⟨v8, rfl, _, hb8⟩
  have hg8 : goodS b ((b + (m - 1)) % 16777216) [(b + 0) % 16777216, (b + m) % 16777216] = false := by
    rw [one_good m1 m2, way_of b (m - 1) (by omega) (by omega)]; simp; omega
  rw [hg8]
  have B8 := Lib.hid (B7.out.trans (hb8.mono B7.out.size))
  have R48 := Lib.hid (R47.out.below hb8)
  have R68 := Lib.hid (R67.out.below hb8)
  have R78 := Lib.hid (R7.out.below hb8)
  clear hb8 hg8 R47 R67 R7
  go_wp2_with fail
  refine (gset_any b b none 0 0 [] _ ⟨rfl, fun h => by cases h⟩ ⟨Nat.le_refl _, by unfold maxLen; omega, fun _ => rfl⟩ (by decide)).mono ?_; rintro e W9 ⟨v9, rfl, ho9, hb9⟩
  unfold setL at ho9
  rw [if_pos (none_good b)] at ho9
  rw [none_good b]
  obtain ⟨a9, n9, c9, rfl, hf9, hr9⟩ := ho9.form
  have B9 := Lib.hid (B8.out.trans (hb9.mono B8.out.size))
  have R49 := Lib.hid (R48.out.below hb9)
  have R69 := Lib.hid (R68.out.below hb9)
  have R79 := Lib.hid (R78.out.below hb9)
  have R9 := Lib.hid hr9
  clear ho9 hb9 hr9 hf9 R48 R68 R78
  obtain ⟨b4, o4, rfl, hl4, d0⟩ := R49.out.at_ (k := 0) (by decide)
  obtain ⟨b', o', e1, _, d1⟩ := R49.out.at_ (k := 1) (by decide)
  cases e1
  rw [Nat.add_zero] at d0
  simp only [List.getD_cons_zero, List.getD_cons_succ] at d0 d1
  go_upto_region 10 with (fail)
  obtain ⟨k7, hk7⟩ : ∃ k7, k7 = m := ⟨_, rfl⟩
  have hkm : (k7 == m) = true := by rw [hk7]; simp
  have HLEN7 : Hid (∀ W : World, Below W9.heap.size W9 W → Calls Try.prog 28 #[.slice a7 n7 c7] W fun e w' => e = .returned (.int .i64 k7) ∧ Below W.heap.size W w') := Lib.hid (fun W hW =>
    (SpanCalls.len_any a7 n7 c7 [(0, m)] W (R79.out.below hW) ⟨by simp, by simp; omega⟩ (one_set (by omega)).1).mono fun e w' ⟨h1, h2⟩ => ⟨by rw [h1, nums_one (by omega), hk7], h2⟩)
  have HLEN9 : Hid (∀ W : World, Below W9.heap.size W9 W → Calls Try.prog 28 #[.slice a9 n9 c9] W fun e w' => e = .returned (.int .i64 0) ∧ Below W.heap.size W w') := Lib.hid (fun W hW =>
    (SpanCalls.len_any a9 n9 c9 [] W (R9.out.below hW) ⟨by simp, by simp⟩ ⟨by simp, by simp⟩).mono fun e w' ⟨h1, h2⟩ => ⟨h1, h2⟩)
  have HCNT : Hid (∀ W : World, Below W9.heap.size W9 W → Calls Try.prog 16 #[.slice a6 2 c6] W fun e w' => e = .returned (.int .i64 k7) ∧ Below W.heap.size W w') := Lib.hid (fun W hW =>
    (count_any a6 2 c6 _ W (R69.out.below hW) F6.out (by decide)).mono fun e w' ⟨h1, h2⟩ => ⟨by rw [h1, ← one_flat, count_one m1 m2, hk7], h2⟩)
  have HLIST : Hid (∀ W : World, Calls Try.prog 13 #[.int .u32 b, .slice none 0 0] W fun e w' => (∃ a1 c1, e = .returned (.slice a1 0 c1)) ∧ Below W.heap.size W w') := Lib.hid (fun W =>
    (glist_any b none 0 0 [] [] [] W ⟨rfl, fun h => by cases h⟩ ⟨Nat.le_refl _, by unfold maxLen; omega, fun _ => rfl⟩ ⟨by simp, by simp⟩ nil_set (by simp) (both_self nil_set.1 (by simp)) (by simp)).mono fun e w' ⟨v, h1, h2, h3⟩ => ⟨by
      obtain ⟨a1, c1, rfl, _, _⟩ := own_rd (L := []) h2
      exact ⟨a1, c1, h1⟩, h3⟩)
  have HL4 := Lib.hid hl4
  clear hk7
  obtain ⟨P, hP⟩ : ∃ P, (b + (m - 1)) % 16777216 = P := ⟨_, rfl⟩
  obtain ⟨Q, hQ⟩ : ∃ Q, (b + m) % 16777216 = Q := ⟨_, rfl⟩
  rw [hP] at d0
  rw [hQ] at d1
  have hq1 : ((P + 1) % 16777216 == Q) = true := by rw [← hP, ← hQ]; simp; omega
  have HWR : Hid (IntKind.i64.wrap (m - 1) = m - 1) := Lib.hid (by rw [IntKind.wrap_i64]; omega)
  have hp1 : (P == (b + IntKind.i64.wrap (m - 1)) % 16777216) = true := by rw [HWR.out, hP]; simp
  clear hl4 R49 R69 R79 R9 F6 hP hQ
  go_region_held3 (fun w' => w'.cell? ⟨b4, o4, none⟩ = some (.int .u32 P) ∧ w'.cell? ⟨b4, o4 + 1, none⟩ = some (.int .u32 Q))
    (first | (with_reducible assumption) | exact ⟨d0, d1⟩ | exact ⟨r0, r1⟩ | exact ⟨s0, s1⟩ | exact ⟨t0, t1⟩ | exact ⟨u0, u1⟩ | go_keep)
    (first
      | (go_at_call 13
         refine (HLIST.out _).mono ?_
         rintro e w1 ⟨⟨a1, c1, rfl⟩, hb1⟩
         (have HBA : Hid (Below W9.heap.size W9 w1) := Lib.hid (((Below.refl _ _).drew).trans hb1))
         (have r0 : w1.cell? ⟨b4, o4, none⟩ = some (.int .u32 P) := (Own.cell_below HBA.out HL4.out).trans d0)
         (have r1 : w1.cell? ⟨b4, o4 + 1, none⟩ = some (.int .u32 Q) := (Own.cell_below HBA.out HL4.out).trans d1)
         clear hb1)
      | (go_at_call 18
         refine (SeqCalls.add_any _ _ _).mono ?_
         rintro e w' ⟨rfl, rfl⟩)
      | (go_at_call 28
         first
           | (refine (HLEN9.out _ HBB.out).mono ?_
              rintro e w3 ⟨rfl, hb3⟩
              (have HBC : Hid (Below W9.heap.size W9 w3) := Lib.hid (HBB.out.trans (hb3.mono HBB.out.size)))
              (have t0 : w3.cell? ⟨b4, o4, none⟩ = some (.int .u32 P) := (Own.cell_below HBC.out HL4.out).trans d0)
              (have t1 : w3.cell? ⟨b4, o4 + 1, none⟩ = some (.int .u32 Q) := (Own.cell_below HBC.out HL4.out).trans d1)
              clear hb3)
           | (refine (HLEN7.out _ HBA.out).mono ?_
              rintro e w2 ⟨rfl, hb2⟩
              (have HBB : Hid (Below W9.heap.size W9 w2) := Lib.hid (HBA.out.trans (hb2.mono HBA.out.size)))
              (have s0 : w2.cell? ⟨b4, o4, none⟩ = some (.int .u32 P) := (Own.cell_below HBB.out HL4.out).trans d0)
              (have s1 : w2.cell? ⟨b4, o4 + 1, none⟩ = some (.int .u32 Q) := (Own.cell_below HBB.out HL4.out).trans d1)
              clear hb2))
      | (go_at_call 16
         refine (HCNT.out _ HBC.out).mono ?_
         rintro e w4 ⟨rfl, hb4⟩
         (have HBD : Hid (Below W9.heap.size W9 w4) := Lib.hid (HBC.out.trans (hb4.mono HBC.out.size)))
         (have u0 : w4.cell? ⟨b4, o4, none⟩ = some (.int .u32 P) := (Own.cell_below HBD.out HL4.out).trans d0)
         (have u1 : w4.cell? ⟨b4, o4 + 1, none⟩ = some (.int .u32 Q) := (Own.cell_below HBD.out HL4.out).trans d1)
         clear hb4))
  all_goals
    go_wp2_with fail
    go_ret
    exact ⟨rfl, B9.out.trans (HBD.out.mono B9.out.size)⟩

theorem own : ownKnob Try.prog.godebug = none := by kernel_rfl
theorem laidOut : laidOutB Try.prog = true := by kernel_rfl

set_option maxRecDepth 100000 in
theorem lifted (os : Os) (started : os.Started) (H : Type) (enc : TypeId × Value → H) :
    ReturnsInHanded {} Try.checked os 7 .any (Rows.gapsEmptySpec.pre6 enc Try.prog Try.f7 Rows.gapsEmptyRow.domain false) (Rows.gapsEmptySpec.post enc Try.prog Try.f7 false true false false) := by
  refine Base.law_lifted (C := Try.checked) own started (by kernel_rfl) Try.func7 laidOut (by kernel_rfl) rfl Try.underlying4 rfl ?_
    (ChangeSpec.witness6 (enc := enc) (C := Try.checked) false ⟨#[], #[.int .u32 0, .int .i64 0], []⟩ 8 (by kernel_rfl) (by kernel_rfl) (by kernel_rfl) (by kernel_rfl)) ?_
  · intro ds h
    match ds, h with
    | [_d0, _d1], _ => exact ⟨rfl, rfl, rfl⟩
  · intro W base args ds before hval0 hA0 hlt hsz
    have hval : ∀ (j : Nat) t v, Try.f7.params[j]? = some t → args[j]? = some v → Value.okWide Try.prog W .any base t v := hval0
    have hA : DataW.TrodAll enc Try.prog W 0 (fun _ => true) true Try.f7.params.toList args.toList ds before := hA0
    clear hval0 hA0
    rw [Try.params7] at hA hval hsz
    obtain ⟨v0, vs0, d0, ds0, p0, q0, hargs, rfl, rfl, h0, r0⟩ := trodAll_cons hA
    obtain ⟨v1, vs1, d1, ds1, p1, q1, rfl, rfl, rfl, h1, r1⟩ := trodAll_cons r0
    obtain ⟨rfl, rfl, rfl⟩ := trodAll_nil r1
    obtain rfl : args = #[v0, v1] := by cases args; simp_all
    obtain ⟨a0, rfl, rfl, rfl, w0⟩ := open_int Try.underlying27 (hval 0 27 v0 rfl rfl) h0
    obtain ⟨a1, rfl, rfl, rfl, w1⟩ := open_int Try.underlying3 (hval 1 3 v1 rfl rfl) h1
    exact walk W a0 w0 a1 w1

theorem over : Rows.gapsEmptyRow.holds Try.pinned (OpenSpec.ofChange Rows.gapsEmptySpec) :=
  OpenClaim.holds_of_wide 7 Try.f7 rfl rfl rfl rfl rfl rfl rfl ⟨rfl, rfl, rfl, rfl, rfl⟩ rfl rfl rfl rfl rfl (by kernel_rfl) Try.func7 (by kernel_rfl)
    (of_decide_eq_true (by kernel_rfl)) (by unfold Func.isWrapper; first | (rw [if_pos (by decide +kernel)]; kernel_rfl) | (rw [if_neg (by decide +kernel)]; exact ⟨rfl, rfl⟩))
    (fun os started H enc _ => lifted os started H enc)

theorem proved : Rows.GapsEmptySaid :=
  over
#print axioms proved
end Go.Proofs.Ytpaogpjdkkkihaa.gapsEmpty
