/-
  PduReads is proved: of any bytes there is the unit whose bytes they are, or what is wrong; for every input the law returns true.
-/
import Derived.Test.YtempfbfbllamoaaDoorLaid
import Derived.Test.YtempfbfbllamoaaDoorCards
import Derived.Test.YtempfbfbllamoaaDoorPduLaw2
import Derived.Test.YtempfbfbllamoaaDoorPduPR7
import Derived.Test.YtempfbfbllamoaaDoorPduAwake
namespace Go.Proofs.YtempfbfbllamoaaDoor.pduReads
open Go.ChangeShapes Go.WideShapes Go.ChangeAt Go.RowKit
set_option linter.unusedVariables false      -- a walk need not use every bound of an argument

open Pdu Own
set_option maxRecDepth 100000 in
set_option maxHeartbeats 4000000 in
theorem walk (w : World) (a0 : ByteArray) (w0 : a0.size ≤ 140737488351232) (hL : laidMetH Tryd.prog Rows.pduReadsRow.laid w) :
    Calls Tryd.prog 3 #[.string a0] w fun e w' => e = .returned (.bool true) ∧ Below w.heap.size w w' := by
  have HF := Lib.hid (forms_laid (by kernel_rfl) hL (by simp [Rows.pduReadsRow]))
  obtain ⟨S, hS⟩ : ∃ S, cutL a0 600 = S := ⟨_, rfl⟩
  have hss : S.size ≤ 600 := by rw [← hS]; exact (cutL_le a0 600).1
  have HS := Lib.hid hS
  obtain ⟨k, sq, n, ps, mr, L, sf, d, m, c, hml, hm, bn, bp, bm, bl, hok, x1, x2, x3, hp, hr⟩ := parse_pair S (by omega)
  have HML := Lib.hid hml
  have HM := Lib.hid hm
  have HB := Lib.hid (And.intro bn (And.intro bp (And.intro bm bl)))
  have HOK := Lib.hid hok
  have HPP := Lib.hid hp
  have HRP := Lib.hid hr
  have HSM : Hid (sameU ⟨k, sq, n, ps, mr, L, sf, d⟩ ⟨k, sq, n, ps, mr, L, sf, d⟩ = true) := Lib.hid ((same_iff _ _).2 rfl)
  clear hL hS hss hml hm bn bp bm bl hok hp hr w0 x1 x2 x3
  go_enter Tryd.func3, Tryd.ntmps3
  go_wp2_with fail
  refine (awake_any _ HF.out).mono ?_; rintro e W1 ⟨rfl, hb1⟩
  have HB1 := Lib.hid hb1
  have HF1 := Lib.hid (HF.out.below hb1 (Nat.le_refl _))
  clear hb1
  go_wp2_with fail
  refine (cut_any _ _ 600 _ rfl).mono ?_; rintro e w' ⟨rfl, rfl⟩
  rw [HS.out]
  go_upto_region 5 with (first
    | ((have _s := t1); (refine wpList_store_row rfl 28 _ _ rfl W2.heap.size (aggU k sq n ps mr (.slice a m cap) sf d) rfl rfl 28 #[.int .i64 0, .int .i64 0, .int .u32 0, .int .u32 0, .int .u32 0, .slice none 0 0, .bool false, .string ⟨#[]⟩] (heap_alloc_new W2 _) info_pdu rfl (by simp [Value.oneCell']) ?_); rw [World.setRow_alloc_new])
    | (go_at_call 6
       refine (HPP.out _ HF1.out).mono ?_
       rintro e W2 ⟨a, cap, rfl, hr2, hb2⟩
       have t1 : True := trivial))
  have HU : Hid ((W2.alloc (.cells (aggU k sq n ps mr (.slice a m cap) sf d) 28)).heap[W2.heap.size]? = some (.cells (aggU k sq n ps mr (.slice a m cap) sf d) 28 (0, 0))) := Lib.hid (heap_alloc_new W2 _)
  have HR3 : Hid (RdI .u32 (W2.alloc (.cells (aggU k sq n ps mr (.slice a m cap) sf d) 28)) a m L) := Lib.hid (hr2.alloc _)
  have HB3 : Hid (Below w.heap.size w (W2.alloc (.cells (aggU k sq n ps mr (.slice a m cap) sf d) 28))) := Lib.hid ((HB1.out.trans (hb2.mono HB1.out.size)).alloc (Nat.le_trans HB1.out.size hb2.size) _)
  clear hr2 hb2 HB1 HF1
  generalize W2.alloc (.cells (aggU k sq n ps mr (.slice a m cap) sf d) 28) = W3 at *
  generalize W2.heap.size = gp at *
  go_upto_region 6 with (first
    | ((have _s := t2); (refine wpList_store_row rfl 34 _ _ rfl W4.heap.size (aggR k sq n ps mr (.slice a2 m cap2) sf d) rfl rfl 34 zeroR (heap_alloc_new W4 _) info_refp rfl (by simp [Value.oneCell']) ?_); rw [World.setRow_alloc_new])
    | (go_at_call 7
       refine (HRP.out _).mono ?_
       rintro e W4 ⟨a2, cap2, rfl, hr4, hb4⟩
       have t2 : True := trivial))
  have HRR : Hid (RdI .i64 (W4.alloc (.cells (aggR k sq n ps mr (.slice a2 m cap2) sf d) 34)) a2 m L) := Lib.hid (hr4.alloc _)
  have hlx := (Array.getElem?_eq_some_iff.1 HU.out).1
  have hU4 : (W4.alloc (.cells (aggR k sq n ps mr (.slice a2 m cap2) sf d) 34)).heap[gp]? = some (.cells (aggU k sq n ps mr (.slice a m cap) sf d) 28 (0, 0)) := (((Below.refl W4.heap.size W4).alloc (Nat.le_refl _) _).block gp (Nat.lt_of_lt_of_le hlx hb4.size)).trans ((hb4.block gp hlx).trans HU.out)
  have hR4 : (W4.alloc (.cells (aggR k sq n ps mr (.slice a2 m cap2) sf d) 34)).heap[W4.heap.size]? = some (.cells (aggR k sq n ps mr (.slice a2 m cap2) sf d) 34 (0, 0)) := heap_alloc_new W4 _
  have HRU : Hid (RdI .u32 (W4.alloc (.cells (aggR k sq n ps mr (.slice a2 m cap2) sf d) 34)) a m L) := Lib.hid ((HR3.out.below hb4).alloc _)
  have HB5 : Hid (Below w.heap.size w (W4.alloc (.cells (aggR k sq n ps mr (.slice a2 m cap2) sf d) 34))) := Lib.hid ((HB3.out.trans (hb4.mono HB3.out.size)).alloc (Nat.le_trans HB3.out.size hb4.size) _)
  have HU4 := Lib.hid hU4
  have HR4 := Lib.hid hR4
  clear hr4 hb4 HB3 HU HR3 hlx hU4 hR4
  generalize W4.alloc (.cells (aggR k sq n ps mr (.slice a2 m cap2) sf d) 34) = W5 at *
  generalize W4.heap.size = gr at *
  have HF5 : Hid (Forms W5) := Lib.hid (HF.out.below HB5.out (Nat.le_refl _))
  have e1 := HU4.out
  have e2 := HR4.out
  have q0 := Go.Joins.cell_of_block e1 0
  have q1 := Go.Joins.cell_of_block e1 1
  have q2 := Go.Joins.cell_of_block e1 2
  have q3 := Go.Joins.cell_of_block e1 3
  have q4 := Go.Joins.cell_of_block e1 4
  have q5 := Go.Joins.cell_of_block e1 5
  have q6 := Go.Joins.cell_of_block e1 6
  have q7 := Go.Joins.cell_of_block e1 7
  have k0 := Go.Joins.cell_of_block e2 0
  have k1 := Go.Joins.cell_of_block e2 1
  have k2 := Go.Joins.cell_of_block e2 2
  have k3 := Go.Joins.cell_of_block e2 3
  have k4 := Go.Joins.cell_of_block e2 4
  have k5 := Go.Joins.cell_of_block e2 5
  have k6 := Go.Joins.cell_of_block e2 6
  have k7 := Go.Joins.cell_of_block e2 7
  clear e1 e2
  have hcc : (c == c) = true := by simp
  by_cases hc : c = 0
  · subst hc
    have HCK : Hid (checkU ⟨k, sq, n, ps, mr, L, sf, d⟩ = 0) := Lib.hid (HOK.out rfl).1
    have HBY : Hid (bytesU ⟨k, sq, n, ps, mr, L, sf, d⟩ = S) := Lib.hid (HOK.out rfl).2
    have hse : (S.toList == S.toList) = true := by simp
    have h0n : ((0 : Int) != 0) = false := by decide
    go_wp2_with (first
      | ((have _s := hb7); go_at_call 10
         refine (checkV k sq n ps mr a m cap L sf d _ (HF5.out.below hb7 (Nat.le_refl _)) (HRU.out.below hb7) (by have := HM.out; omega) HB.out.2.2.2).mono ?_
         rintro e W8 ⟨rfl, h8⟩
         rw [HCK.out])
      | ((have _s := hb6); go_at_call 9
         refine (bytesV k sq n ps mr a m cap L sf d _ (HF5.out.below hb6 (Nat.le_refl _)) (HRU.out.below hb6) (by have := HM.out; omega) HB.out.2.2.2 HB.out.1.1).mono ?_
         rintro e W7 ⟨rfl, h7⟩
         rw [HBY.out]
         (have hb7 := hb6.trans (h7.mono hb6.size))
         (have e1 := (hb7.block gp (Array.getElem?_eq_some_iff.1 HU4.out).1).trans HU4.out)
         clear q0 q1 q2 q3 q4 q5 q6 q7
         (have q0 := Go.Joins.cell_of_block e1 0); (have q1 := Go.Joins.cell_of_block e1 1); (have q2 := Go.Joins.cell_of_block e1 2); (have q3 := Go.Joins.cell_of_block e1 3); (have q4 := Go.Joins.cell_of_block e1 4); (have q5 := Go.Joins.cell_of_block e1 5); (have q6 := Go.Joins.cell_of_block e1 6); (have q7 := Go.Joins.cell_of_block e1 7)
         clear e1)
      | (go_at_call 8
         refine (same_any k sq n ps mr a m cap L sf d k sq n ps mr a2 m cap2 L sf d _ HRU.out HRR.out (by have := HM.out; omega) (by have := HM.out; omega) (by have := HB.out.1; omega) (by have := HB.out.2.1; omega) (by have := HB.out.2.2.1; omega) (fun z hz => by have := HB.out.2.2.2 z hz; omega)).mono ?_
         rintro e W6 ⟨rfl, hb6⟩
         rw [HSM.out]
         (have e1 := (hb6.block gp (Array.getElem?_eq_some_iff.1 HU4.out).1).trans HU4.out)
         clear q0 q1 q2 q3 q4 q5 q6 q7 k0 k1 k2 k3 k4 k5 k6 k7
         (have q0 := Go.Joins.cell_of_block e1 0); (have q1 := Go.Joins.cell_of_block e1 1); (have q2 := Go.Joins.cell_of_block e1 2); (have q3 := Go.Joins.cell_of_block e1 3); (have q4 := Go.Joins.cell_of_block e1 4); (have q5 := Go.Joins.cell_of_block e1 5); (have q6 := Go.Joins.cell_of_block e1 6); (have q7 := Go.Joins.cell_of_block e1 7)
         clear e1))
    go_ret
    exact ⟨rfl, HB5.out.trans ((hb7.trans (h8.mono hb7.size)).mono HB5.out.size)⟩
  · have hcb : (c != 0) = true := by simp [hc]
    go_wp2_with (first
      | (go_at_call 8
         refine (same_any k sq n ps mr a m cap L sf d k sq n ps mr a2 m cap2 L sf d _ HRU.out HRR.out (by have := HM.out; omega) (by have := HM.out; omega) (by have := HB.out.1; omega) (by have := HB.out.2.1; omega) (by have := HB.out.2.2.1; omega) (fun z hz => by have := HB.out.2.2.2 z hz; omega)).mono ?_
         rintro e W6 ⟨rfl, hb6⟩
         rw [HSM.out]))
    go_ret
    exact ⟨rfl, HB5.out.trans (hb6.mono HB5.out.size)⟩

theorem own : ownKnob Tryd.prog.godebug = none := by kernel_rfl
theorem laidOut : laidOutB Tryd.prog = true := by kernel_rfl

set_option maxRecDepth 100000 in
theorem lifted (os : Os) (started : os.Started) (H : Type) (enc : TypeId × Value → H) :
    ReturnsInHanded {} Tryd.checked os 3 .any (fun w args => (Rows.pduReadsSpec.pre enc Tryd.prog Tryd.f3 Rows.pduReadsRow.domain false w args ∧ laidMetH Tryd.prog Rows.pduReadsRow.laid w) ∧ sizedMet enc Tryd.prog Tryd.f3 (OpenSpec.ofChange Rows.pduReadsSpec) false w args) (Rows.pduReadsSpec.post enc Tryd.prog Tryd.f3 false true false false) := by
  refine Base.law_laid (C := Tryd.checked) own started (by kernel_rfl) Tryd.func3 laidOut (by kernel_rfl) rfl Tryd.underlying4 rfl ?_
    (Base.laid_witness #[.string ⟨#[]⟩] (World.shaped_of_ZipB (by kernel_rfl) (by kernel_rfl)) (by kernel_rfl) (by kernel_rfl) (by kernel_rfl) (by rw [MakeChecks.laidMetH_plain _ _ _ (by kernel_rfl)]; exact laidMet_laidAll _ (by kernel_rfl) (by kernel_rfl))) ?_
  · intro ds h
    match ds, h with
    | [_d0], _ => exact ⟨rfl, rfl, rfl⟩
  · intro W base args ds before hval0 hA0 hlt hsz hL
    have hval : ∀ (j : Nat) t v, Tryd.f3.params[j]? = some t → args[j]? = some v → Value.okWide Tryd.prog W .any base t v := hval0
    have hA : DataW.TrodAll enc Tryd.prog W 0 (fun _ => true) true Tryd.f3.params.toList args.toList ds before := hA0
    clear hval0 hA0
    rw [Tryd.params3] at hA hval hsz
    obtain ⟨v0, vs0, d0, ds0, p0, q0, hargs, rfl, rfl, h0, r0⟩ := trodAll_cons hA
    obtain ⟨rfl, rfl, rfl⟩ := trodAll_nil r0
    obtain rfl : args = #[v0] := by cases args; simp_all
    obtain ⟨a0, rfl, rfl, rfl, _⟩ := Go.ChangeMaps.open_string Tryd.underlying9 (hval 0 9 v0 rfl rfl) h0
    have w0 : a0.size ≤ 140737488351232 := by have := sized_string hsz (j := 0) rfl rfl; simpa [reachBytes] using this
    exact walk W a0 w0 hL

theorem over : Rows.pduReadsRow.holds Tryd.pinned (OpenSpec.ofChange Rows.pduReadsSpec) :=
  OpenClaim.holds_of_wide 3 Tryd.f3 rfl rfl rfl rfl rfl rfl rfl ⟨rfl, rfl, rfl, rfl, rfl⟩ rfl rfl rfl rfl rfl (by kernel_rfl) Tryd.func3 (by kernel_rfl)
    (of_decide_eq_true (by kernel_rfl)) (by unfold Func.isWrapper; first | (rw [if_pos (by decide +kernel)]; kernel_rfl) | (rw [if_neg (by decide +kernel)]; exact ⟨rfl, rfl⟩))
    (fun os started H enc _ => lifted os started H enc)

theorem proved : Rows.PduReadsCardSaid :=
  Claim7.holds_tied_plain_at .later [] [.data] true Rows.pduReadsCard.stood.harness false over (fun _ h => by cases h) (by kernel_rfl) (fun _ h => by cases h) pduReads_row_tie rfl ⟨rfl, rfl⟩ (by kernel_rfl) rfl
    (fun f fn hf hfn => by
      obtain rfl : f = 3 := Option.some.inj ((show Tryd.prog.funcNamed Rows.pduReadsRow.func = some 3 by kernel_rfl).symm.trans hf) |>.symm
      obtain rfl : fn = Tryd.f3 := (Option.some.inj (Tryd.func3.symm.trans hfn)).symm
      exact ⟨by kernel_rfl, fun j t ht => by
        rw [Tryd.params3] at ht
        have hm : t ∈ [9] := by simpa using Array.mem_of_getElem? ht
        have hall : ([9].all fun u => !Tryd.prog.wantsStandIn u) = true := by kernel_rfl
        exact (show Tryd.prog.wantsStandIn t = false by simpa using List.all_eq_true.1 hall t hm)⟩)
    (by kernel_rfl)
#print axioms proved
end Go.Proofs.YtempfbfbllamoaaDoor.pduReads
