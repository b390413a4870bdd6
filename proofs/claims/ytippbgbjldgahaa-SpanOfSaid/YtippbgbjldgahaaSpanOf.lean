/-
  SpanOf is proved: of any spans the set is their numbers, written in one way; for every input the law returns true.
-/
import Derived.Test.YtippbgbjldgahaaBase
import Derived.Test.YtippbgbjldgahaaLaw03Kit
import Derived.Test.YtippbgbjldgahaaSpanHas
namespace Go.Proofs.Ytippbgbjldgahaa.spanOf
open Go.ChangeShapes Go.WideShapes Go.ChangeAt Go.RowKit
set_option linter.unusedVariables false      -- a walk need not use every bound of an argument

open SpanMath View SpanCalls Law03 Ref

set_option maxHeartbeats 1000000 in
theorem walk (w : World) (v0 : Value) (D : List (Int × Int)) (w0 : Base.Pairs w v0 D) (x : Int) (w1 : (Lit.int .i64 x).wf = true) :
    Calls Try.prog 3 #[v0, .int .i64 x] w fun e w' => e = .returned (.bool true) ∧ Below w.heap.size w w' := by
  obtain ⟨a, n, cap, rfl, hf, hr⟩ := rd_pairs w0
  have HL := Lib.hid hr
  obtain ⟨S, hS, hsm⟩ := few_set D
  have HS := Lib.hid hS
  have HSM := Lib.hid hsm
  clear w0 w1 hr hf hS hsm
  go_enter Try.func3, Try.ntmps3
  go_wp2_with fail
  refine (awake_any _).mono ?_; rintro e w1 ⟨rfl, hb1⟩
  go_wp2_with fail
  refine (few_any a n cap D _ (HL.out.below hb1)).mono ?_; rintro e w2 ⟨v1, v2, A, rfl, hown, hown2, hj, hb2⟩
  have hb3 := hb1.trans (hb2.mono hb1.size)
  have HLOW : Hid (w.heap.size ≤ w1.heap.size) := Lib.hid hb1.size
  obtain ⟨a1, n1, c1, rfl, hf1, hr1⟩ := hown.form
  obtain ⟨a2, n2, c2, rfl, hf2, hr2⟩ := hown2.form
  have hn1 : n1 ≤ 12 := by rw [hr1.1]; exact fewL_len D
  have HA : Hid (nums S = A) := Lib.hid (just_nums HS.out hj)
  have hl2 : n2 ≤ 800 := by rw [hr2.1, ← HA.out]; exact small_len HSM.out HS.out.1
  have HLT : Hid (∀ k, Value.ownBlock (.slice a1 n1 c1) = some k → k < w2.heap.size) := Lib.hid (fun k hk => (hown.lt k hk).2)
  have HO := Lib.hid hown
  have HR1 := Lib.hid hr1
  have HR2 := Lib.hid hr2
  have HF1 := Lib.hid hf1
  clear hb1 hb2 hj hown hown2 hr1 hr2 hf1 hf2
  go_wp2_with fail
  refine (of_any a1 n1 c1 (fewL D) S _ HR1.out HF1.out (few_near D) HS.out).mono ?_; rintro e w3 ⟨v3, rfl, hown3, hb4⟩
  obtain ⟨a3, n3, c3, rfl, hf3, hr3⟩ := hown3.form
  have HS3 := Lib.hid hown3
  have hn3 : n3 ≤ 1000 := by rw [hr3.1]; exact HSM.out.1
  have HR3 := Lib.hid hr3
  have HF3 := Lib.hid hf3
  have hb5 := hb3.trans (hb4.mono hb3.size)
  have HO5 := Lib.hid (HO.out.below hb4)
  have HR15 := Lib.hid (HR1.out.below hb4)
  have HR25 := Lib.hid (HR2.out.below hb4)
  clear hown3 hr3 hf3 hb3 hb4
  go_wp2_with fail
  refine (is_any a3 n3 c3 S a2 n2 c2 A _ HR3.out HSM.out HS.out.1 HR25.out HA.out).mono ?_; rintro e w4 ⟨rfl, hb6⟩
  have hb7 := hb5.trans (hb6.mono hb5.size)
  have HR37 := Lib.hid (HR3.out.below hb6)
  have HO7 := Lib.hid (HO5.out.below hb6)
  have HS7 := Lib.hid (HS3.out.below hb6)
  have HR17 := Lib.hid (HR15.out.below hb6)
  have HR27 := Lib.hid (HR25.out.below hb6)
  clear hb5 hb6
  go_wp2_with fail
  refine (has_any a3 n3 c3 S x _ HR37.out (by omega)).mono ?_; rintro e w5 ⟨rfl, hb8⟩
  rw [HA.out]
  have hb9 := hb7.trans (hb8.mono hb7.size)
  have HR39 := Lib.hid (HR37.out.below hb8)
  have HO9 := Lib.hid (HO7.out.below hb8)
  have HS9 := Lib.hid (HS7.out.below hb8)
  have HR19 := Lib.hid (HR17.out.below hb8)
  have HR29 := Lib.hid (HR27.out.below hb8)
  clear hb7 hb8
  go_wp2_with fail
  refine (rhas_any a2 n2 c2 A x _ HR29.out (by omega)).mono ?_; rintro e w' ⟨rfl, rfl⟩
  go_wp2_with fail
  refine (of_any a3 n3 c3 S S _ HR39.out HF3.out (near_small HSM.out) (set_again HS.out)).mono ?_; rintro e w6 ⟨v6, rfl, hown6, hb10⟩
  obtain ⟨a6, n6, c6, rfl, hf6, hr6⟩ := hown6.form
  have hn6 : n6 ≤ 1000 := by rw [hr6.1]; exact HSM.out.1
  have HR6 := Lib.hid hr6
  have hb11 := hb9.trans (hb10.mono hb9.size)
  have HR311 := Lib.hid (HR39.out.below hb10)
  have HO11 := Lib.hid (HO9.out.below hb10)
  have HS11 := Lib.hid (HS9.out.below hb10)
  have HR111 := Lib.hid (HR19.out.below hb10)
  clear hown6 hr6 hf6 hb9 hb10
  go_wp2_with fail
  refine (same_any a3 n3 c3 S a6 n6 c6 S _ HR311.out HR6.out (by omega) (by omega)).mono ?_; rintro e w7 ⟨rfl, hb12⟩
  rw [decide_eq_true rfl]
  have hb13 := hb11.trans (hb12.mono hb11.size)
  have HR313 := Lib.hid (HR311.out.below hb12)
  have HO13 := Lib.hid (HO11.out.below hb12)
  have HS13 := Lib.hid (HS11.out.below hb12)
  have HR113 := Lib.hid (HR111.out.below hb12)
  have hs13 := hb13.size
  clear hb11 hb12
  go_wp2_with (at_builtin; refine wpList_appS_on (by rfl) (.tmp 37) (.tmp 38) 22 rfl Try.underlying22 w.heap.size _ (fewL D) rfl (HO13.out.lower (by exact HLOW.out)) a1 n1 c1 (fewL D) rfl HR113.out HF1.out.2.2 (by have := fewL_len D; omega) hs13 ?_)
  intro v8 w8 hown8 hgr8
  have hb14 : Below w.heap.size w w8 := own_grown hb13 hs13 hgr8 (HO13.out.lower HLOW.out)
  obtain ⟨a8, n8, c8, rfl, hf8, hr8⟩ := hown8.form
  have HR8 := Lib.hid hr8
  have HF8 := Lib.hid hf8
  have hs14 : OwnS w8 _ (.slice a3 n3 c3) S := World.ownsRow.kept HS13.out hgr8 (apart_SS HS13.out HLT.out)
  obtain ⟨a9, n9, c9, e9, _, hr9⟩ := hs14.form
  cases e9
  have HR9 := Lib.hid hr9
  clear hb13 hgr8 hown8 hr8 hf8 hs14 hr9
  go_wp2_with fail
  refine (of_any a8 n8 c8 (fewL D ++ fewL D) S _ HR8.out HF8.out (near_few2 D) (set_few HS.out)).mono ?_; rintro e w10 ⟨v10, rfl, hown10, hb15⟩
  obtain ⟨a10, n10, c10, rfl, hf10, hr10⟩ := hown10.form
  have hn10 : n10 ≤ 1000 := by rw [hr10.1]; exact HSM.out.1
  have HR10 := Lib.hid hr10
  have hb16 := hb14.trans (hb15.mono hb14.size)
  have HR916 := Lib.hid (HR9.out.below hb15)
  clear hown10 hr10 hf10 hb14 hb15
  go_wp2_with fail
  refine (same_any a3 n3 c3 S a10 n10 c10 S _ HR916.out HR10.out (by omega) (by omega)).mono ?_; rintro e w11 ⟨rfl, hb17⟩
  rw [decide_eq_true rfl]
  have hb18 := hb16.trans (hb17.mono hb16.size)
  clear hb16 hb17
  go_wp2_with fail
  go_ret
  exact ⟨rfl, hb18⟩

theorem own : ownKnob Try.prog.godebug = none := by kernel_rfl
theorem laidOut : laidOutB Try.prog = true := by kernel_rfl

set_option maxRecDepth 100000 in
theorem lifted (os : Os) (started : os.Started) (H : Type) (enc : TypeId × Value → H) :
    ReturnsInHanded {} Try.checked os 3 .any (Rows.spanOfSpec.pre6 enc Try.prog Try.f3 Rows.spanOfRow.domain false) (Rows.spanOfSpec.post enc Try.prog Try.f3 false true false false) := by
  refine Base.law_lifted (C := Try.checked) own started (by kernel_rfl) Try.func3 laidOut (by kernel_rfl) rfl Try.underlying4 rfl ?_
    (ChangeSpec.witness6 (enc := enc) (C := Try.checked) false ⟨#[], #[.slice none 0 0, .int .i64 0], []⟩ 8 (by kernel_rfl) (by kernel_rfl) (by kernel_rfl) (by kernel_rfl)) ?_
  · intro ds h
    match ds, h with
    | [_d0, _d1], _ => exact ⟨rfl, rfl, rfl⟩
  · intro W base args ds before hval0 hA0 hlt hsz
    have hval : ∀ (j : Nat) t v, Try.f3.params[j]? = some t → args[j]? = some v → Value.okWide Try.prog W .any base t v := hval0
    have hA : DataW.TrodAll enc Try.prog W 0 (fun _ => true) true Try.f3.params.toList args.toList ds before := hA0
    clear hval0 hA0
    rw [Try.params3] at hA hval hsz
    obtain ⟨v0, vs0, d0, ds0, p0, q0, hargs, rfl, rfl, h0, r0⟩ := trodAll_cons hA
    obtain ⟨v1, vs1, d1, ds1, p1, q1, rfl, rfl, rfl, h1, r1⟩ := trodAll_cons r0
    obtain ⟨rfl, rfl, rfl⟩ := trodAll_nil r1
    obtain rfl : args = #[v0, v1] := by cases args; simp_all
    obtain ⟨a0, w0⟩ := Base.open_pairs Try.underlying22 Try.underlying35 (by kernel_rfl) rfl rfl rfl rfl Try.underlying3 (by kernel_rfl) (hval 0 22 v0 rfl rfl) h0 (fun x hx => hlt x (by simp [hx]))
    obtain ⟨a1, rfl, rfl, rfl, w1⟩ := open_int Try.underlying3 (hval 1 3 v1 rfl rfl) h1
    exact walk W v0 a0 w0 a1 w1

theorem over : Rows.spanOfRow.holds Try.pinned (OpenSpec.ofChange Rows.spanOfSpec) :=
  OpenClaim.holds_of_wide 3 Try.f3 rfl rfl rfl rfl rfl rfl rfl ⟨rfl, rfl, rfl, rfl, rfl⟩ rfl rfl rfl rfl rfl (by kernel_rfl) Try.func3 (by kernel_rfl)
    (of_decide_eq_true (by kernel_rfl)) (by unfold Func.isWrapper; first | (rw [if_pos (by decide +kernel)]; kernel_rfl) | (rw [if_neg (by decide +kernel)]; exact ⟨rfl, rfl⟩))
    (fun os started H enc _ => lifted os started H enc)

theorem proved : Rows.SpanOfSaid :=
  over
#print axioms proved
end Go.Proofs.Ytippbgbjldgahaa.spanOf
