/-
  Gaps: the set whose pairs numbers are.
-/
import Derived.Test.YtdnikjjcgoilfaaGaps8
namespace Go.Proofs.Ytdnikjjcgoilfaa.Gaps
open Go.ChangeShapes Go.WideShapes Go.RowKit SpanMath

def setL (b t : Int) (L : List Int) : List Sp := if goodS b t L = true then spansOf b L else []
set_option maxRecDepth 100000 in
set_option maxHeartbeats 4000000 in
theorem gset_any (b t : Int) (a : Option Addr) (n cap : Nat) (L : List Int) (w : World) (h : Own.RdI .u32 w a n L) (hf : Own.Fit a n cap) (hn : n ≤ 10000) :
    Calls Try.prog 17 #[.int .u32 b, .int .u32 t, .slice a n cap] w fun e w' => ∃ v, e = .returned (.tuple #[v, .bool (goodS b t L)]) ∧ View.OwnS w' w.heap.size v (setL b t L) ∧ Below w.heap.size w w' := by
  have hal : Below w.heap.size w (w.alloc (.cells #[.int .u32 b] 28)) := (Below.refl _ _).alloc (Nat.le_refl _) _
  have hblk : (w.alloc (.cells #[.int .u32 b] 28)).heap[w.heap.size]? = some (.cells #[.int .u32 b] 28 (0, 0)) := heap_alloc_new w _
  have hs1 : (w.alloc (.cells #[.int .u32 b] 28)).heap.size = w.heap.size + 1 := by simp
  have HL0 := Lib.hid h
  have HL := Lib.hid (h.below hal)
  have HF := Lib.hid hf
  have HLN := Lib.hid h.1
  have HB1 := Lib.hid hal
  have HBLK := Lib.hid hblk
  have HS1 := Lib.hid hs1
  have hn2 : (n : Int) ≤ 10000 := by omega
  have HN := Lib.hid hn
  obtain ⟨q, hq⟩ : ∃ q, wayI b t = q := ⟨_, rfl⟩
  have hqb := way_bounds b t
  rw [hq] at hqb
  obtain ⟨q0, q1⟩ := hqb
  have HQ : Hid ((t - b) % 16777216 = q) := Lib.hid hq
  have HG : Hid (goodS b t L = (decide (q ≤ 8388608) && (decide (n % 2 = 0) && riseL b q 0 L))) := Lib.hid (by unfold goodS; rw [hq, ← h.1])
  clear h hf hal hblk hs1 hn hq
  go_enter Try.func17, Try.ntmps17
  go_upto_region 1 with (fail)
  change Code.wp _ _ _ _ (w.alloc (.cells #[.int .u32 b] 28))
  generalize w.alloc (.cells #[.int .u32 b] 28) = W at *
  have k0 : W.cell? ⟨w.heap.size, 0, none⟩ = some (.int .u32 b) := Go.Joins.cell_of_block HBLK.out 0
  go_wp2_with fail
  refine (SeqCalls.to_any _ _ _).mono ?_; rintro e w2 ⟨rfl, rfl⟩
  rw [HQ.out]
  by_cases hbig : 8388608 < q
  · have HB : Hid (goodS b t L = false) := Lib.hid (by rw [HG.out, decide_eq_false (by omega)]; rfl)
    go_wp2_with fail
    go_ret2
    exact ⟨.slice none 0 0, by rw [HB.out]; rfl, by unfold setL; rw [HB.out]; exact View.OwnS.nil, HB1.out⟩
  · have hle : q ≤ 8388608 := by omega
    by_cases hodd : n % 2 = 0
    · have hmod : (n : Int) % 2 = 0 := by omega
      obtain ⟨r, hr⟩ : ∃ r, riseL b q 0 L = r := ⟨_, rfl⟩
      have HG2 : Hid (goodS b t L = r) := Lib.hid (by rw [HG.out, decide_eq_true hle, decide_eq_true hodd, hr]; rfl)
      have HR := Lib.hid hr
      clear hr hodd hbig
      go_wp2_with fail
      refine (rise_any b q a n cap L _ HL.out (by have := HN.out; omega)).mono ?_; rintro e w3 ⟨rfl, rfl⟩
      rw [HR.out]
      cases r
      · go_wp2_with fail
        go_ret2
        exact ⟨.slice none 0 0, by rw [HG2.out]; rfl, by unfold setL; rw [HG2.out]; exact View.OwnS.nil, HB1.out⟩
      · go_wp2_with fail
        have HSS : Hid (SS w w.heap.size (W.alloc (.cells #[.slice none 0 0] 22)) w.heap.size W.heap.size b (.slice none 0 0) []) := Lib.hid ⟨(((Below.refl W.heap.size W).alloc (Nat.le_refl _) _).block _ (by rw [HS1.out]; omega)).trans HBLK.out, heap_alloc_new W _, View.OwnS.nil, HB1.out.alloc (by rw [HS1.out]; omega) _, Nat.le_refl _, by rw [HS1.out]; omega⟩
        have HP := Lib.hid (pairsS_any w.heap.size W.heap.size a n cap L (W.alloc (.cells #[.slice none 0 0] 22)) (fun k W2 => k ≤ L.length / 2 ∧ ∃ v', SS w w.heap.size W2 w.heap.size W.heap.size b v' (spTo b L k)) ⟨Nat.zero_le _, _, HSS.out⟩ HLN.out HF.out.1 (by have := HF.out.2.1; unfold maxLen at this; omega)
          (fun k W2 ⟨_, v', h2⟩ => HL0.out.below h2.below)
          (fun k W2 r ⟨h1, v', h2⟩ => ⟨h1, v', h2.drewN r⟩)
          (fun k W2 hk hno ⟨h1, v', h2⟩ => ⟨by omega, v', by rw [spTo, if_neg (show ¬ (wayI (L.getD (2 * k) 0) (L.getD (2 * k + 1) 0) ≤ 8388608) from hno), List.append_nil]; exact h2⟩)
          (fun k W2 hk hok ⟨h1, v', h2⟩ => by
            have hw := way_bounds (L.getD (2 * k) 0) (L.getD (2 * k + 1) 0)
            refine (setC_any w w.heap.size _ _ b v' (spTo b L k) _ _ W2 h2 (by have := spTo_len b L k; have := HLN.out; have := HN.out; omega) ⟨hw.1, by omega⟩).mono ?_
            rintro e W' ⟨hv, v2, h4⟩
            exact ⟨hv, by omega, v2, by rw [spTo, if_pos (show wayI (L.getD (2 * k) 0) (L.getD (2 * k + 1) 0) ≤ 8388608 from hok)]; exact h4⟩))
        refine HP.out.mono ?_; rintro e W3 ⟨⟨_, rfl⟩, _, v', hs⟩
        rw [sp_good HG2.out (L.length / 2) (Nat.le_refl _)] at hs
        obtain ⟨a5, q5, c5, rfl, hf5, hr5⟩ := hs.own.form
        have hnm := spans_norm HG2.out
        have hlen : (spansOf b L).length ≤ 10000 := by unfold spansOf; simp; have := HLN.out; have := HN.out; omega
        have k1 : W3.cell? ⟨W.heap.size, 0, none⟩ = some (.slice a5 q5 c5) := Go.Joins.cell_of_block hs.gs1 0
        have HS3 := Lib.hid hs.below
        have HR5 := Lib.hid hr5
        have HF5 := Lib.hid hf5
        have HNM := Lib.hid hnm
        have HLEN := Lib.hid hlen
        have hwt := way_bounds b t
        have HWT := Lib.hid hwt
        clear hs hf5 hr5 hnm hlen k0 hwt
        go_wp2_with fail
        refine (SpanCalls.of_any a5 q5 c5 (spansOf b L) (spansOf b L) _ HR5.out HF5.out ⟨HLEN.out, fun x hx => by
          have h1 := HNM.out.2 x hx
          have h2 := HNM.out.1.2 x hx
          have := HWT.out
          omega⟩ ⟨HNM.out.1, fun z => mem_nums⟩).mono ?_; rintro e W4 ⟨v4, rfl, ho4, hb4⟩
        obtain ⟨a6, q6, c6, rfl, _, _⟩ := ho4.form
        have HO4 := Lib.hid ho4
        have HB4 := Lib.hid (HS3.out.trans (hb4.mono HS3.out.size))
        clear ho4 hb4 k1
        go_wp2_with fail
        go_ret2
        exact ⟨_, by rw [HG2.out]; rfl, by unfold setL; rw [if_pos HG2.out]; exact HO4.out.lower HS3.out.size, HB4.out⟩
    · have hmod : (n : Int) % 2 = 1 := by omega
      have HB : Hid (goodS b t L = false) := Lib.hid (by rw [HG.out, decide_eq_false hodd]; simp)
      clear hodd hbig
      go_wp2_with fail
      go_ret2
      exact ⟨.slice none 0 0, by rw [HB.out]; rfl, by unfold setL; rw [HB.out]; exact View.OwnS.nil, HB1.out⟩
end Go.Proofs.Ytdnikjjcgoilfaa.Gaps
