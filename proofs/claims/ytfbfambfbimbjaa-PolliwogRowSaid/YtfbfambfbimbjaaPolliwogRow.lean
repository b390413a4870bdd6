/-
  PolliwogRow is proved: what goes through a row, sealed, fits behind it, each once; for every input the law returns true.
-/
import Derived.Test.YtfbfambfbimbjaaBase
import Derived.Test.YtfbfambfbimbjaaRowKit
import Derived.Test.YtfbfambfbimbjaaCrcAwake
import Derived.Deep.DeepCutAuto
namespace Go.Proofs.Ytfbfambfbimbjaa.polliwogRow
open Go.ChangeShapes Go.WideShapes Go.ChangeAt Go.RowKit
set_option linter.unusedVariables false      -- a walk need not use every bound of an argument

open RingS CrcMath CrcCalls

theorem seal_fits (s : ByteArray) : fits (sealB s).data.toList = true := by
  rw [sealB_list]; exact fits_seal _
def AllFit (L : List ByteArray) : Prop := ∀ x ∈ L, fits x.data.toList = true ∧ x.size ≤ 140737488351232
theorem allFit_nil : AllFit [] := fun x hx => by cases hx
theorem allFit_app {L : List ByteArray} {x : ByteArray} (h : AllFit L) (hx : x.size ≤ 100) : AllFit (L ++ [sealB x]) := fun y hy => by
  rcases List.mem_append.1 hy with hy | hy
  · exact h y hy
  · rw [List.mem_singleton] at hy
    subst hy
    exact ⟨seal_fits x, by rw [sealB_size]; omega⟩
theorem allFit_tail {L : List ByteArray} (h : AllFit L) : AllFit L.tail := fun y hy => h y (List.mem_of_mem_tail hy)
theorem allFit_head {L : List ByteArray} (h : AllFit L) (hl : 0 < L.length) : fits (headRow L).data.toList = true ∧ (headRow L).size ≤ 140737488351232 := by
  cases L with
  | nil => simp at hl
  | cons x L => exact h x (by simp)
theorem none_code {L : List ByteArray} (hl : 0 < L.length) : noneCode L = 0 := by
  unfold noneCode
  rw [if_neg]
  rintro rfl
  simp at hl

theorem tab_at {W0 x : World} {B : Nat} (hT : Tab W0 B) (hB : B < W0.heap.size) (hb : Below W0.heap.size W0 x) : Tab x B := fun j hj => (hb.cell (p := ⟨B, j, none⟩) hB).trans (hT j hj)
theorem cut30 (s : ByteArray) : (if 30 < s.size then s.extract 0 30 else s).size ≤ 100 := by
  split
  · rw [ByteArray.size_extract]; omega
  · omega

set_option maxRecDepth 100000 in
set_option maxHeartbeats 4000000 in
theorem walk (w : World) (v0 : Value) (T : List ByteArray) (w0 : Base.StrSlice w v0 T) (a1 : Int) (w1 : (Lit.int .i64 a1).wf = true) :
    Calls Try.prog 3 #[v0, .int .i64 a1] w fun e w' => e = .returned (.bool true) ∧ Below w.heap.size w w' := by
  obtain ⟨y1, y2⟩ := bounds_i64 w1
  obtain ⟨a, cap, rfl, hl64, hs64, hrd⟩ := w0
  obtain ⟨M, hM⟩ : ∃ M, T.length = M := ⟨_, rfl⟩
  rw [hM] at hl64 ⊢
  have HRD : Hid (∀ i, i < M → ∃ b off, a = some ⟨b, off, none⟩ ∧ b < w.heap.size ∧ w.cell? ⟨b, off + i, none⟩ = some (.string (T.getD i ByteArray.empty)) ∧ (T.getD i ByteArray.empty).size ≤ maxLen) := Lib.hid (fun i hi => by
    rcases hrd with rfl | ⟨b, off, e, hb, hc⟩
    · simp at hM; omega
    · refine ⟨b, off, e, hb, hc i (by omega), hs64 _ ?_⟩
      have : i < T.length := by omega
      simp [List.getD, this])
  clear hrd hs64 hM w1
  have hz := zero_run
  have hl : M ≤ 9223372036854775807 := by unfold maxLen at hl64; omega
  clear hl64
  go_enter Try.func3, Try.ntmps3
  go_wp2_with fail
  refine (make_any _).mono ?_; rintro e w2 ⟨rfl, hb2⟩
  go_upto_region 2 with (refine wpList_store_row rfl 25 _ _ rfl _ table rfl rfl 25 zeros (heap_alloc_last _ _) (by rw [table_size]; exact tableInfo) (by rw [table_size, zeros_size]) table_cells ?_; rw [World.setRow_alloc_new])
  have HT := Lib.hid (tab_new w2 25)
  have HB3 : Hid (Below w.heap.size w (w2.alloc (.cells table 25))) := Lib.hid (hb2.alloc hb2.size _)
  have HBL : Hid (w2.heap.size < (w2.alloc (.cells table 25)).heap.size) := Lib.hid (by simp)
  clear hb2 hz
  generalize w2.alloc (.cells table 25) = W0 at *
  generalize w2.heap.size = B at *
  simp only [Act.put]
  go_cut [6] (fun s6 wx => ∃ R mm : Nat, s6 = .pointer (some ⟨R, 0, none⟩) ∧ 1 ≤ mm ∧ mm ≤ 40 ∧ Hid (Mine W0 W0.heap.size R mm [] none wx))
  case first =>
    obtain ⟨mm, hmm, hm1, hm2⟩ : ∃ mm : Nat, max 1 (min a1 40) = (mm : Int) ∧ 1 ≤ mm ∧ mm ≤ 40 := ⟨(max 1 (min a1 40)).toNat, by omega, by omega, by omega⟩
    have HMM := Lib.hid hmm
    clear hmm
    go_wp2_with fail
    all_goals
      refine (new_own W0 W0 W0.heap.size _ mm (by have := HMM.out; omega) (Below.refl _ _) (Nat.le_refl _)).mono ?_; rintro e W1 ⟨R, rfl, _, h1⟩
      have H1 := Lib.hid h1
      clear h1
      go_wp2_with fail
      go_meet
      exact ⟨R, mm, rfl, hm1, hm2, H1⟩
  case rest =>
  obtain ⟨R, mm, rfl, hm1, hm2, H1⟩ := hcut
  go_wp2_with fail
  refine (sum_none B _).mono ?_; rintro e W1 ⟨rfl, q, rfl⟩
  rw [show ((sum []).toNat : Int) = 0 from by decide +kernel]
  have H2 := Lib.hid (H1.out.drewN q)
  clear H1
  generalize wc.drewN q = W2 at *
  clear y1 y2
  go_wp2_with fail
  go_loopw [7, 8] (fun s7 s8 wr => ∃ (i n : Nat) (L : List ByteArray) (G : Option Nat), i ≤ 40 ∧ i ≤ M ∧ s8 = .int .i64 (i : Int) ∧ s7 = .int .i64 (n : Int) ∧ n + L.length = i ∧ Hid (Mine W0 W0.heap.size R mm L G wr) ∧ Hid (AllFit L)) (fun _ s8 _ => 40 - (intOf s8).toNat)
  case atStart => exact ⟨0, 0, [], none, by omega, by omega, rfl, rfl, rfl, H2, Lib.hid allFit_nil⟩
  case round =>
    obtain ⟨i, n, L, G, hi40, hiM, rfl, rfl, hnl, hm, hf⟩ := hrel
    by_cases hgo : i < M ∧ i < 40
    · obtain ⟨hg1, hg2⟩ := hgo
      have hd1 : decide (i < M) = true := decide_eq_true hg1
      have hd2 : decide ((i : Int) < 40) = true := decide_eq_true (by omega)
      obtain ⟨b, off, rfl, hbl, hc, hcs⟩ := HRD.out i hg1
      have hc2 : wr.cell? ⟨b, off + i, none⟩ = _ := ((HB3.out.trans (hm.out.1.mono HB3.out.size)).cell (p := ⟨b, off + i, none⟩) hbl).trans hc
      obtain ⟨s, hs⟩ : ∃ s, T.getD i ByteArray.empty = s := ⟨_, rfl⟩
      rw [hs] at hc2 hcs
      have hcs' : s.size ≤ 9223372036854775807 := by unfold maxLen at hcs; omega
      have hin : (i : Int) < (M : Int) := by omega
      have hn40 : n ≤ 40 := by omega
      have HNL := Lib.hid hnl
      obtain ⟨ll, hll⟩ : ∃ ll, L.length = ll := ⟨_, rfl⟩
      have hlm : ll ≤ mm := by rw [← hll]; exact hm.out.facts.1
      have HLL := Lib.hid hll
      clear hc hs hbl hcs hnl hll
      obtain ⟨t, ht, hts⟩ : ∃ t, (if 30 < s.size then s.extract 0 30 else s) = t ∧ t.size ≤ 100 := ⟨_, rfl, cut30 s⟩
      have HTS := Lib.hid hts
      have hcase : ((30 : Int) < (s.size : Int) ∧ s.extract 0 30 = t) ∨ ((s.size : Int) ≤ 30 ∧ s = t) := by
        by_cases h : 30 < s.size
        · rw [if_pos h] at ht; exact .inl ⟨by omega, ht⟩
        · rw [if_neg h] at ht; exact .inr ⟨by omega, ht⟩
      clear ht hts
      obtain ⟨W3, hW3⟩ : ∃ W3, W3 = wr := ⟨_, rfl⟩
      rw [← hW3] at hm hc2 ⊢
      clear hW3
      go_upto_if 41 with (fail)
      go_cut [9] (fun s9 wx => s9 = .string t ∧ wx = W3)
      case first =>
        rcases hcase with ⟨g1, g2⟩ | ⟨g1, g2⟩
        · go_wp2_with fail
          go_meet
          exact ⟨congrArg Value.string (by first | exact g2 | (rw [← g2]; done) | (rw [← g2]; rfl)), rfl⟩
        · subst g2
          go_wp2_with fail
          go_meet
          exact ⟨rfl, rfl⟩
      case rest =>
      obtain ⟨rfl, rfl⟩ := hcut
      clear hcase hcs' hc2
      go_wp2_with fail
      refine (room_own hm.out).mono ?_; rintro e W4 ⟨rfl, h4⟩
      rw [HLL.out]
      have H4 := Lib.hid h4
      clear h4 hm
      by_cases hfull : ll = mm
      · have hz0 : ((mm : Int) - (ll : Int) == 0) = true := by rw [beq_iff_eq]; omega
        have hlp : 0 < L.length := by rw [HLL.out]; omega
        have HH := Lib.hid (allFit_head hf.out hlp)
        have HNC := Lib.hid (none_code hlp)
        have HLT : Hid (L.tail.length + 1 = ll) := Lib.hid (by rw [List.length_tail, HLL.out]; omega)
        subst hfull
        clear hlp
        go_wp2_with fail
        refine (take_own H4.out).mono ?_; rintro e W5 ⟨rfl, h5, _⟩
        rw [HNC.out]
        have H5 := Lib.hid h5
        clear h5
        go_wp2_with fail
        refine (fits_any B (headRow L) _ (tab_at HT.out HBL.out H5.out.1) HH.out.2).mono ?_; rintro e W6 ⟨rfl, hb6⟩
        rw [HH.out.1]
        have H6 := Lib.hid (H5.out.below hb6)
        clear hb6
        go_wp2_with fail
        refine (seal_any B t _ (tab_at HT.out HBL.out H6.out.1) (by have := HTS.out; omega)).mono ?_; rintro e W7 ⟨rfl, hb7⟩
        have H7 := Lib.hid (H6.out.below hb7)
        clear hb7
        go_wp2_with fail
        refine (put_own (sealB t) H7.out).mono ?_; rintro e W8 ⟨rfl, G8, h8, _, _⟩
        rw [show fullCode ll L.tail = 0 from if_pos (by have := HLT.out; omega)]
        rw [show putRow ll L.tail (sealB t) = L.tail ++ [sealB t] from if_pos (by have := HLT.out; omega)] at h8
        have H8 := Lib.hid h8
        clear h8
        go_wp2_with fail
        go_roundw
        case rel => exact ⟨i + 1, n + 1, L.tail ++ [sealB t], G8, by omega, by omega, by go_num, by go_num, by rw [List.length_append, List.length_singleton]; have := HLT.out; have := HNL.out; have := HLL.out; omega, H8, Lib.hid (allFit_app (allFit_tail hf.out) HTS.out)⟩
        case measure => simp [intOf]; omega
      · have hz0 : ((mm : Int) - (ll : Int) == 0) = false := by rw [beq_eq_false_iff_ne]; omega
        have HLT : Hid (L.length < mm) := Lib.hid (by rw [HLL.out]; omega)
        clear hfull
        go_wp2_with fail
        refine (seal_any B t _ (tab_at HT.out HBL.out H4.out.1) (by have := HTS.out; omega)).mono ?_; rintro e W7 ⟨rfl, hb7⟩
        have H7 := Lib.hid (H4.out.below hb7)
        clear hb7
        go_wp2_with fail
        refine (put_own (sealB t) H7.out).mono ?_; rintro e W8 ⟨rfl, G8, h8, _, _⟩
        rw [show fullCode mm L = 0 from if_pos HLT.out]
        rw [show putRow mm L (sealB t) = L ++ [sealB t] from if_pos HLT.out] at h8
        have H8 := Lib.hid h8
        clear h8
        go_wp2_with fail
        go_roundw
        case rel => exact ⟨i + 1, n, L ++ [sealB t], G8, by omega, by omega, by go_num, rfl, by rw [List.length_append, List.length_singleton]; have := HNL.out; omega, H8, Lib.hid (allFit_app hf.out HTS.out)⟩
        case measure => simp [intOf]; omega
    · have hcase : (decide (i < M) = false ∧ i = M) ∨ (decide (i < M) = true ∧ decide ((i : Int) < 40) = false ∧ i = 40) := by
        by_cases h1 : i < M
        · exact .inr ⟨decide_eq_true h1, decide_eq_false (by omega), by omega⟩
        · exact .inl ⟨decide_eq_false h1, by omega⟩
      have hlf := hm.out.facts.1
      obtain ⟨ll, hll⟩ : ∃ ll, L.length = ll := ⟨_, rfl⟩
      rw [hll] at hnl hlf
      have hn40 : n ≤ 40 := by omega
      have hl40 : ll ≤ 40 := by omega
      have HNL := Lib.hid hnl
      have HLL := Lib.hid hll
      obtain ⟨W3, hW3⟩ : ∃ W3, W3 = wr := ⟨_, rfl⟩
      rw [← hW3] at hm ⊢
      clear hgo hnl hll hlf hW3
      have hmin : (M ≤ 40 ∧ i = M) ∨ (40 < M ∧ i = 40) ∨ (M = 40 ∧ i = 40) := by
        rcases hcase with ⟨_, h⟩ | ⟨_, _, h⟩ <;> omega
      have HMI := Lib.hid hmin
      clear hmin
      rcases hcase with ⟨hd1, hi9⟩ | ⟨hd1, hd2, hi9⟩
      all_goals
        have HI9 := Lib.hid hi9
        clear hi9
        go_wp2_with fail
        refine (clear_own hm.out).mono ?_; rintro e W5 ⟨g, rfl, hg, h5⟩
        rw [HLL.out]
        have H5 := Lib.hid h5
        have HG := Lib.hid hg
        have HGL : Hid (g < W5.heap.size) := Lib.hid (Array.getElem?_eq_some_iff.1 hg).1
        clear hg h5 hm
        go_wp2_with fail
        go_loopw [7, 69] (fun s7 s69 wx => ∃ j p : Nat, j ≤ ll ∧ s69 = .int .i64 (j : Int) ∧ s7 = .int .i64 (p : Int) ∧ Hid (p = n + j) ∧ Hid (Below W5.heap.size W5 wx)) (fun _ s69 _ => ll - (intOf s69).toNat)
        case atStart => exact ⟨0, n, Nat.zero_le _, rfl, rfl, Lib.hid rfl, Lib.hid (Below.refl _ _)⟩
        case round =>
          obtain ⟨j, p, hj, rfl, rfl, hp, hbx⟩ := hrel
          have hp80 : p ≤ 80 := by have := hp.out; omega
          by_cases hjl : j < ll
          · have hjL : j < L.length := by have := HLL.out; omega
            have hce : wr.cell? ⟨g, j, none⟩ = _ := (hbx.out.cell (p := ⟨g, j, none⟩) HGL.out).trans (row_cell HG.out j _ (encs_at L j hjL))
            have hxf : fits (L.getD j zero).data.toList = true ∧ (L.getD j zero).size ≤ 140737488351232 := hf.out _ (by simp [List.getD, hjL])
            obtain ⟨x, hx⟩ : ∃ x, L.getD j zero = x := ⟨_, rfl⟩
            rw [hx] at hce hxf
            rw [show enc x = Value.string x from rfl] at hce
            have HXF := Lib.hid hxf
            have HJL := Lib.hid hjL
            clear hx hxf hjL
            go_wp2_with fail
            refine (fits_any B x _ (tab_at HT.out HBL.out (H5.out.1.trans (hbx.out.mono H5.out.2.1))) HXF.out.2).mono ?_; rintro e W6 ⟨rfl, hb6⟩
            rw [HXF.out.1]
            have HB6 : Hid (Below W5.heap.size W5 W6) := Lib.hid (hbx.out.trans (hb6.mono hbx.out.size))
            clear hb6
            go_wp2_with fail
            go_roundw
            case rel => exact ⟨j + 1, p + 1, by omega, by go_num, by go_num, Lib.hid (by have := hp.out; omega), HB6⟩
            case measure => simp [intOf]; omega
          · have hpi : p = i := by have := hp.out; have := HNL.out; omega
            subst hpi
            have hfin := HMI.out
            rcases hfin with ⟨h1, h2⟩ | ⟨h1, h2⟩ | ⟨h1, h2⟩
            all_goals
              have hM : (M : Int) ≤ 40 ∨ (40 : Int) < (M : Int) := by omega
              have HFI : Hid ((p : Int) = min (M : Int) 40) := Lib.hid (by omega)
              have hres : ((p : Int) == min (M : Int) 40) = true := by rw [beq_iff_eq]; exact HFI.out
              first | (have h1' : (M : Int) ≤ 40 := by omega) | (have h1' : (40 : Int) < (M : Int) := by omega)
              subst h2
              go_wp2_with fail
              go_ret
              exact ⟨rfl, HB3.out.trans ((H5.out.1.trans (hbx.out.mono H5.out.2.1)).mono HB3.out.size)⟩

theorem own : ownKnob Try.prog.godebug = none := by kernel_rfl
theorem laidOut : laidOutB Try.prog = true := by kernel_rfl

set_option maxRecDepth 100000 in
theorem lifted (os : Os) (started : os.Started) (H : Type) (enc : TypeId × Value → H) :
    ReturnsInHanded {} Try.checked os 3 .any (Rows.polliwogRowSpec.pre6 enc Try.prog Try.f3 Rows.polliwogRowRow.domain false) (Rows.polliwogRowSpec.post enc Try.prog Try.f3 false true false false) := by
  refine Base.law_lifted (C := Try.checked) own started (by kernel_rfl) Try.func3 laidOut (by kernel_rfl) rfl Try.underlying4 rfl ?_
    (ChangeSpec.witness6 (enc := enc) (C := Try.checked) false ⟨#[], #[.slice none 0 0, .int .i64 0], []⟩ 8 (by kernel_rfl) (by kernel_rfl) (by kernel_rfl) (by kernel_rfl)) ?_
  · intro ds h
    match ds, h with
    | [_d0, _d1], _ => exact ⟨rfl, rfl, rfl⟩
  · intro W base args ds before hval0 hA0 hlt hsz
    have hval : ∀ (j : Nat) t v, Try.f3.params[j]? = some t → args[j]? = some v → Value.okWide Try.prog W .any base t v := hval0
    have hA : DataW.TrodAll enc Try.prog W 0 (fun _ => true) true Try.f3.params.toList args.toList ds before := hA0
    clear hval0 hA0
    rw [Try.params3] at hA hval hsz
    obtain ⟨v0, vs0, d0, ds0, p0, q0, hargs, rfl, rfl, h0, r0⟩ := trodAll_cons hA
    obtain ⟨v1, vs1, d1, ds1, p1, q1, rfl, rfl, rfl, h1, r1⟩ := trodAll_cons r0
    obtain ⟨rfl, rfl, rfl⟩ := trodAll_nil r1
    obtain rfl : args = #[v0, v1] := by cases args; simp_all
    obtain ⟨a0, w0⟩ := Base.open_str_slice Try.underlying22 Try.underlying9 (by kernel_rfl) (hval 0 22 v0 rfl rfl) h0 (fun x hx => hlt x (by simp [hx]))
    obtain ⟨a1, rfl, rfl, rfl, w1⟩ := open_int Try.underlying3 (hval 1 3 v1 rfl rfl) h1
    exact walk W v0 a0 w0 a1 w1

theorem over : Rows.polliwogRowRow.holds Try.pinned (OpenSpec.ofChange Rows.polliwogRowSpec) :=
  OpenClaim.holds_of_wide 3 Try.f3 rfl rfl rfl rfl rfl rfl rfl ⟨rfl, rfl, rfl, rfl, rfl⟩ rfl rfl rfl rfl rfl (by kernel_rfl) Try.func3 (by kernel_rfl)
    (of_decide_eq_true (by kernel_rfl)) (by unfold Func.isWrapper; first | (rw [if_pos (by decide +kernel)]; kernel_rfl) | (rw [if_neg (by decide +kernel)]; exact ⟨rfl, rfl⟩))
    (fun os started H enc _ => lifted os started H enc)

theorem proved : Rows.PolliwogRowSaid :=
  over
#print axioms proved
end Go.Proofs.Ytfbfambfbimbjaa.polliwogRow
