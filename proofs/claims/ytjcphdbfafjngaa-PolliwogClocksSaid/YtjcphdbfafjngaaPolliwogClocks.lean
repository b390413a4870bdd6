/-
  PolliwogClocks is proved: timers that are started alike are over alike, each on its own; for every input the law returns true.
-/
import Derived.Test.YtjcphdbfafjngaaBase
import Derived.Test.YtjcphdbfafjngaaClk
namespace Go.Proofs.Ytjcphdbfafjngaa.polliwogClocks
open Go.ChangeShapes Go.WideShapes Go.ChangeAt Go.RowKit
set_option linter.unusedVariables false      -- a walk need not use every bound of an argument

open Bank View
theorem law : Go.Maps.Keyed Try.prog 3 := Go.Maps.int_keyed Try.underlying3
theorem zeroE (w : World) : (zeroValue 3).run Try.prog w = .ok (.int .i64 0) w := by kernel_rfl
/-- what the map counts -/
def Cnt (D : DataW Unit) (zs : List Int) : Prop := Go.Maps.IsMap D ∧ ∀ i : Int, D.atKey (.int .i64 i) (.lit (.int .i64 0)) = .lit (.int .i64 (zs.count i : Nat))
theorem cnt_zero : Cnt (.map []) [] := ⟨Go.Maps.isMap_empty, fun i => by simp [DataW.atKey]⟩
theorem cnt_step {D : DataW Unit} {zs : List Int} (h : Cnt D zs) (z : Int) : Cnt (D.put (.int .i64 z) (.lit (.int .i64 ((zs.count z : Nat) + 1 : Nat)))) (zs ++ [z]) := by
  refine ⟨h.1.put _ _, fun i => ?_⟩
  by_cases hz : i = z
  · subst hz
    rw [Go.Maps.atKey_put_same h.1 (by trivial)]
    rw [List.count_append, List.count_singleton_self]
  · rw [Go.Maps.atKey_put_other (by simpa using hz), h.2 i, List.count_append]
    have : [z].count i = 0 := by rw [List.count_eq_zero]; simpa using hz
    rw [this]; rfl
theorem lit_inj {a b : Int} (h : (DataW.lit (.int .i64 a) : DataW Unit) = .lit (.int .i64 b)) : a = b := by simpa using h

theorem map_keep {w w' : World} {b n : Nat} {D : DataW Unit} (h : w.ownsMap Try.prog 3 (plainElem (H := Unit) Try.prog 3) b n D) (hk : w'.heap[b]? = w.heap[b]?) : w'.ownsMap Try.prog 3 (plainElem (H := Unit) Try.prog 3) b n D := by
  obtain ⟨es, clock, hb, r⟩ := h
  exact ⟨es, clock, hk.trans hb, r⟩
theorem cell_of_block_eq {w w' : World} {g j : Nat} (h : w'.heap[g]? = w.heap[g]?) : w'.cell? ⟨g, j, none⟩ = w.cell? ⟨g, j, none⟩ := by
  simp only [World.cell?, h]
theorem mix_next (L : List Nat) (i : Nat) : mixF L (i + 1) i = L.getD i 0 - 1 := if_pos (Nat.lt_succ_self i)
/-- a slice of the law's own -/
def SlA (x : World) (base : Nat) (a : Option Addr) (zs : List Int) : Prop := 0 < zs.length → ∃ g, a = some ⟨g, 0, none⟩ ∧ base ≤ g ∧ g < x.heap.size ∧ ∀ j, j < zs.length → x.cell? ⟨g, j, none⟩ = some (.int .i64 (zs.getD j 0))
theorem overs_mem (L : List Nat) : ∀ z ∈ oversL L, ∃ j : Nat, z = (j : Int) ∧ j < 5 := by
  intro z hz
  unfold oversL oversTo at hz
  obtain ⟨j, hj, rfl⟩ := List.mem_map.1 hz
  exact ⟨j, rfl, List.mem_range.1 (List.mem_filter.1 hj).1⟩

set_option maxRecDepth 100000 in
set_option maxHeartbeats 4000000 in
theorem walk (w : World) (v0 : Value) (T : List Int) (w0 : Base.IntSlice .i64 8 w v0 T) :
    Calls Try.prog 3 #[v0] w fun e w' => e = .returned (.bool true) ∧ Below w.heap.size w w' := by
  obtain ⟨a, cap, rfl, hr, hb64, hl64⟩ := rd_ints w0
  obtain ⟨M, hM⟩ : ∃ M, T.length = M := ⟨_, rfl⟩
  rw [hM] at hr hl64 ⊢
  have HT := Lib.hid hr
  have HM := Lib.hid hM
  have hmm := @run_makeMap Try.prog
  clear hr hb64 hM w0
  go_enter Try.func3, Try.ntmps3
  go_wp2_with fail
  refine (start_own 1 1 (mine_new (Below.refl _ w) (Nat.le_refl _))).mono ?_; rintro e x1 ⟨⟨_, rfl⟩, h1, _⟩
  go_wp2_with fail
  refine (tick_own h1).mono ?_; rintro e x2 ⟨a2, c2, rfl, hr2, h2, _⟩
  rw [show oversL (startL zeroL 1 1) = [1] from by decide +kernel] at hr2 ⊢
  obtain ⟨b2, o2, rfl, _, hc2⟩ := hr2.at_ (k := 0) (by decide)
  rw [Nat.add_zero] at hc2
  have hc2' : x2.cell? ⟨b2, o2, none⟩ = some (.int .i64 1) := hc2
  have H2 := Lib.hid (And.intro h2.1 h2.2.1)
  clear h1 h2 hr2 hc2
  go_wp2_with fail
  have H3 : Hid (St w w.heap.size x2.heap.size (x2.heap.size + 1) zeroL (getF zeroL) ((x2.alloc (.cells #[.int .i64 0, .int .i64 0, .int .i64 0, .int .i64 0, .int .i64 0] 25)).alloc (.cells #[.int .i64 0, .int .i64 0, .int .i64 0, .int .i64 0, .int .i64 0, .int .i64 0, .int .i64 0, .int .i64 0, .int .i64 0, .int .i64 0, .int .i64 0, .int .i64 0, .int .i64 0, .int .i64 0, .int .i64 0, .int .i64 0, .int .i64 0, .int .i64 0, .int .i64 0, .int .i64 0, .int .i64 0, .int .i64 0, .int .i64 0, .int .i64 0, .int .i64 0] 28))) := Lib.hid (by
    have hm := mine_new H2.out.1 H2.out.2
    have hs : (x2.alloc (.cells #[.int .i64 0, .int .i64 0, .int .i64 0, .int .i64 0, .int .i64 0] 25)).heap.size = x2.heap.size + 1 := by simp
    refine ⟨⟨hm.1.alloc hm.2.1 _, by have := H2.out.2; simp; omega, H2.out.2, hm.2.2.2.below ((Below.refl _ _).alloc (Nat.le_refl _) _)⟩, ⟨?_, fun i => by unfold getF; rw [getD_zero]; omega⟩, by have := H2.out.2; omega, by omega⟩
    rw [← hs]
    exact heap_alloc_new _ _)
  generalize ((x2.alloc (.cells #[.int .i64 0, .int .i64 0, .int .i64 0, .int .i64 0, .int .i64 0] 25)).alloc (.cells #[.int .i64 0, .int .i64 0, .int .i64 0, .int .i64 0, .int .i64 0, .int .i64 0, .int .i64 0, .int .i64 0, .int .i64 0, .int .i64 0, .int .i64 0, .int .i64 0, .int .i64 0, .int .i64 0, .int .i64 0, .int .i64 0, .int .i64 0, .int .i64 0, .int .i64 0, .int .i64 0, .int .i64 0, .int .i64 0, .int .i64 0, .int .i64 0, .int .i64 0] 28)) = x3 at *
  obtain ⟨A, hA⟩ : ∃ A, x2.heap.size = A := ⟨_, rfl⟩
  obtain ⟨E, hE⟩ : ∃ E, x2.heap.size + 1 = E := ⟨_, rfl⟩
  rw [hE, hA] at H3
  rw [hE, hA]
  clear hE hA H2 hc2'
  go_loopw [27] (fun s27 wr => ∃ (i : Nat) (L : List Nat), i ≤ 5 ∧ s27 = .int .i64 (i : Int) ∧ Hid (St w w.heap.size A E L (getF L) wr) ∧ Hid (∀ j, L.getD j 0 ≤ 60)) (fun s27 _ => 5 - (intOf s27).toNat)
  case atStart => exact ⟨0, zeroL, by omega, rfl, H3, Lib.hid (fun j => by rw [getD_zero]; omega)⟩
  case round =>
    obtain ⟨i, L, hi, rfl, hst, hbd⟩ := hrel
    by_cases hi5 : i < 5
    · have hi5i : (i : Int) < 5 := by omega
      have HI := Lib.hid hi5
      have HI2 := Lib.hid hi
      clear hi5 hi
      by_cases him : i < M
      · obtain ⟨b, off, rfl, _, hc⟩ := (HT.out.below hst.out.below).at_ him
        obtain ⟨y, hy⟩ : ∃ y, T.getD i 0 = y := ⟨_, rfl⟩
        rw [hy] at hc
        clear hy
        go_wp2_with fail
        all_goals
          refine (start_all (i : Int) _ hst.out).mono ?_; rintro e x4 ⟨⟨_, rfl⟩, h4⟩
          have H4 := Lib.hid h4
          clear h4
          go_wp2_with fail
          refine (start_one i HI.out _ H4.out).mono ?_; rintro e x5 ⟨⟨_, rfl⟩, h5⟩
          rw [start_get L hst.out.mine.2.2.2.len i _ HI.out] at h5
          obtain ⟨L2, h6, h7⟩ : ∃ L2, Hid (St w w.heap.size A E L2 (getF L2) x5) ∧ Hid (∀ j, L2.getD j 0 ≤ 60) := ⟨_, Lib.hid h5, Lib.hid (fun j => by
            rw [getD_start hst.out.mine.2.2.2.len i j _ HI.out]
            split
            · unfold clampN; have := HI.out; omega
            · exact hbd.out j)⟩
          clear h5
          go_wp2_with fail
          go_roundw
          case rel => exact ⟨i + 1, L2, by have := HI.out; omega, by go_num, h6, h7⟩
          case measure => simp [intOf]; omega
      · have him2 : (M : Int) ≤ (i : Int) := by omega
        have hd : decide ((i : Int) < (M : Int)) = false := decide_eq_false (by omega)
        clear him
        go_wp2_with fail
        all_goals
          refine (start_all (i : Int) _ hst.out).mono ?_; rintro e x4 ⟨⟨_, rfl⟩, h4⟩
          have H4 := Lib.hid h4
          clear h4
          go_wp2_with fail
          refine (start_one i HI.out _ H4.out).mono ?_; rintro e x5 ⟨⟨_, rfl⟩, h5⟩
          rw [start_get L hst.out.mine.2.2.2.len i _ HI.out] at h5
          obtain ⟨L2, h6, h7⟩ : ∃ L2, Hid (St w w.heap.size A E L2 (getF L2) x5) ∧ Hid (∀ j, L2.getD j 0 ≤ 60) := ⟨_, Lib.hid h5, Lib.hid (fun j => by
            rw [getD_start hst.out.mine.2.2.2.len i j _ HI.out]
            split
            · unfold clampN; have := HI.out; omega
            · exact hbd.out j)⟩
          clear h5
          go_wp2_with fail
          go_roundw
          case rel => exact ⟨i + 1, L2, by have := HI.out; omega, by go_num, h6, h7⟩
          case measure => simp [intOf]; omega
    · obtain rfl : i = 5 := by omega
      have hl5 := hst.out.mine.2.2.2.len
      clear hi hi5 HT HM
      rw [show ((5 : Nat) : Int) = 5 from rfl]
      go_wp2_with fail
      obtain ⟨W0, hW0⟩ : ∃ W0, W0 = wr := ⟨_, rfl⟩
      rw [← hW0] at hst ⊢
      clear hW0
      go_loopw [51] (fun s51 wr => ∃ (r : Nat), r ≤ 61 ∧ s51 = .int .i64 (r : Int) ∧ Hid (St w w.heap.size A E (downL L r) (getF (downL L r)) wr)) (fun s51 _ => 61 - (intOf s51).toNat)
      case atStart => exact ⟨0, by omega, rfl, Lib.hid (by rw [down_zero]; exact hst.out)⟩
      case round =>
        obtain ⟨r, hr, rfl, hst2⟩ := hrel
        by_cases hr61 : r < 61
        · have hri : (r : Int) < 61 := by omega
          have HR := Lib.hid hr61
          clear hr61 hr
          obtain ⟨L3, hL3⟩ : ∃ L3, downL L r = L3 := ⟨_, rfl⟩
          rw [hL3] at hst2
          have HL3 := Lib.hid hL3
          clear hL3
          go_wp2_with fail
          have H4 : Hid (St w w.heap.size A E L3 (getF L3) (wr.alloc (.map #[] 0))) := Lib.hid (hst2.out.step ((Below.refl _ _).alloc (Nat.le_refl _) _))
          have M4 : Hid ((wr.alloc (.map #[] 0)).ownsMap Try.prog 3 (plainElem (H := Unit) Try.prog 3) wr.heap.size 0 (.map [])) := Lib.hid (World.ownsMap_made _ _ _ _)
          have A4 : Hid (A < wr.heap.size ∧ E < wr.heap.size ∧ w.heap.size ≤ wr.heap.size ∧ (wr.alloc (.map #[] 0)).heap.size = wr.heap.size + 1) := Lib.hid ⟨hst2.out.mine.2.2.2.lt, hst2.out.each.lt, hst2.out.base_le, by simp⟩
          obtain ⟨W4, hW4⟩ : ∃ W4, wr.alloc (.map #[] 0) = W4 := ⟨_, rfl⟩
          rw [hW4] at H4 M4 A4 ⊢
          clear hW4 hst2
          generalize wr.heap.size = Bm at *
          refine (tick_all H4.out).mono ?_; rintro e x6 ⟨v, rfl, ho, h6, h6o⟩
          obtain ⟨a6, c6, rfl, _, hsl⟩ := own_form ho
          have M6 : Hid (x6.ownsMap Try.prog 3 (plainElem (H := Unit) Try.prog 3) Bm 0 (.map [])) := Lib.hid (map_keep M4.out (h6o.block Bm M4.out.lt (by have := A4.out; omega)))
          have H6 := Lib.hid h6
          have SL6 : Hid (SlA x6 (Bm + 1) a6 (oversL L3)) := Lib.hid (fun h0 => by
            obtain ⟨g, h1, h2, h3, h4⟩ := hsl h0
            refine ⟨g, h1, by have := A4.out; omega, h3, fun j hj => h4 j _ ?_⟩
            simp [encI, List.getD, hj])
          have HE : Hid (∀ z ∈ oversL L3, ∃ j : Nat, z = (j : Int) ∧ j < 5) := Lib.hid (overs_mem L3)
          have HLE : (oversL L3).length ≤ 5 := overs_len L3 5
          have HCN : Hid (∀ i : Nat, i < 5 → (oversL L3).count (i : Int) = cntL L3 i) := Lib.hid (cnt_overs L3)
          clear ho h6 h6o hsl H4 M4
          generalize oversL L3 = zs at *
          obtain ⟨n, hn⟩ : ∃ n, zs.length = n := ⟨_, rfl⟩
          rw [hn] at HLE ⊢
          have HN := Lib.hid hn
          clear hn
          go_wp2_with fail
          go_loopw [56] (fun s56 wr => ∃ (k : Nat) (D : DataW Unit), k ≤ n ∧ s56 = .int .i64 (k : Int) ∧ Hid (St w w.heap.size A E (tickL L3) (getF L3) wr) ∧ Hid (wr.ownsMap Try.prog 3 (plainElem (H := Unit) Try.prog 3) Bm k D) ∧ Hid (Cnt D (zs.take k)) ∧ Hid (SlA wr (Bm + 1) a6 zs)) (fun s56 _ => n - (intOf s56).toNat)
          case atStart => exact ⟨0, _, Nat.zero_le _, rfl, H6, M6, Lib.hid cnt_zero, SL6⟩
          case round =>
            obtain ⟨k, D, hk, rfl, hs, hm, hc, hsl⟩ := hrel
            by_cases hkn : k < n
            · obtain ⟨g, rfl, hg1, hg2, hg3⟩ := hsl.out (by have := HN.out; omega)
              have hgk := hg3 k (by have := HN.out; omega)
              obtain ⟨z, hz⟩ : ∃ z, zs.getD k 0 = z := ⟨_, rfl⟩
              rw [hz] at hgk
              have hzm : z ∈ zs := by rw [← hz]; have : k < zs.length := (by have := HN.out; omega); simp [List.getD, this]
              obtain ⟨j, hzj, hj5⟩ := HE.out z hzm
              have hkey : keyOf Try.prog 3 (.int .i64 z) = some (.int .i64 z) := Go.Maps.keyOf_int_mk Try.underlying3 (WalkArith.wf_i64 (by omega))
              have HKEY := Lib.hid hkey
              obtain ⟨q, hq⟩ : ∃ q, (zs.take k).count z = q := ⟨_, rfl⟩
              have hq5 : q ≤ 5 := by
                have := List.count_le_length (a := z) (l := zs.take k)
                rw [List.length_take] at this
                omega
              have hqi : (q : Int) ≤ 5 := by omega
              have HAT : Hid (D.atKey (.int .i64 z) (.lit (.int .i64 0)) = .lit (.int .i64 (q : Int))) := Lib.hid (by rw [← hq]; exact hc.out.2 z)
              have HC2 : Hid (Cnt (D.put (.int .i64 z) (.lit (.int .i64 ((q + 1 : Nat) : Int)))) (zs.take (k + 1))) := Lib.hid (by
                rw [take_succ' zs 0 k (by have := HN.out; omega), hz, ← hq]
                exact cnt_step hc.out z)
              have HG2 : Hid (g < wr.heap.size) := Lib.hid hg2
              have HG1 : Hid (Bm + 1 ≤ g) := Lib.hid hg1
              have HKN := Lib.hid hkn
              clear hkey hzm hz hzj hj5 hq hq5 hg1 hg2 hg3 hc
              go_wp2_with (first
                | (at_lookup; refine wpList_lookup_own_int _ rfl _ _ 29 rfl 3 3 .i64 law Try.underlying29 Try.underlying3 (zeroE _) Bm k _ rfl hm.out _ _ rfl HKEY.out ?_; intro c hat hwc; obtain rfl : c = (q : Int) := lit_inj (hat.symm.trans HAT.out); clear hat hwc)
                | (at_mapUpdate; refine wpList_mapUpdate_own _ rfl _ _ _ 29 rfl 3 3 law Try.underlying29 _ Bm k _ rfl hm.out (by unfold maxLen; omega) _ _ _ rfl rfl HKEY.out _ [] (plainElem_int Try.underlying3 (WalkArith.wf_i64 (by omega))) ?_; intro w7 hown7 hgrow7))
              have S7 : Hid (St w w.heap.size A E (tickL L3) (getF L3) w7) := Lib.hid (by
                have := A4.out
                exact hs.out.next (hs.out.below.grown hgrow7 hs.out.base_le (fun j hj => by cases hj; omega)) hgrow7.size (hgrow7.block A hs.out.mine.2.2.2.lt (by intro e; cases e; omega)) (hgrow7.block E hs.out.each.lt (by intro e; cases e; omega)))
              have M7 := Lib.hid hown7
              have SL7 : Hid (SlA w7 (Bm + 1) (some ⟨g, 0, none⟩) zs) := Lib.hid (fun h0 => by
                obtain ⟨g', h1, h2, h3, h4⟩ := hsl.out h0
                obtain rfl : g = g' := by simpa using h1
                refine ⟨g, rfl, h2, Nat.lt_of_lt_of_le h3 hgrow7.size, fun j hj => ?_⟩
                rw [← h4 j hj]
                exact cell_of_block_eq (hgrow7.block g h3 (by intro e; cases e; omega)))
              clear hown7 hgrow7
              go_roundw
              case rel => exact ⟨k + 1, _, HKN.out, by go_num, S7, M7, HC2, SL7⟩
              case measure => simp [intOf]; have := HKN.out; omega
            · obtain rfl : n = k := by omega
              have HCT : Hid (∀ i : Nat, i < 5 → D.atKey (.int .i64 (i : Int)) (.lit (.int .i64 0)) = .lit (.int .i64 (cntL L3 i : Nat))) := Lib.hid (fun i hi => by
                rw [hc.out.2, List.take_of_length_le (by rw [HN.out]; exact Nat.le_refl _), HCN.out i hi])
              have S8 : Hid (St w w.heap.size A E (tickL L3) (mixF L3 0) wr) := Lib.hid (by rw [mix_zero]; exact hs.out)
              have hl3 : Hid (L3.length = 5) := Lib.hid (by rw [← HL3.out]; simp [downL, hl5])
              clear hs hc hsl HE HCN SL6 M6 hkn hk
              obtain ⟨W8, hW8⟩ : ∃ W8, W8 = wr := ⟨_, rfl⟩
              rw [← hW8] at S8 hm ⊢
              clear hW8
              go_wp2_with fail
              go_loopw [65] (fun s65 wr => ∃ (i : Nat), i ≤ 5 ∧ s65 = .int .i64 (i : Int) ∧ Hid (St w w.heap.size A E (tickL L3) (mixF L3 i) wr) ∧ Hid (wr.ownsMap Try.prog 3 (plainElem (H := Unit) Try.prog 3) Bm n D)) (fun s65 _ => 5 - (intOf s65).toNat)
              case atStart => exact ⟨0, by omega, rfl, S8, hm⟩
              case round =>
                obtain ⟨i, hi, rfl, hs2, hm2⟩ := hrel
                by_cases hi5 : i < 5
                · have hii : (i : Int) < 5 := by omega
                  have HI := Lib.hid hi5
                  have HAT := Lib.hid (HCT.out i hi5)
                  have HKEY := Lib.hid (Go.Maps.keyOf_int_mk Try.underlying3 (a := (i : Int)) (WalkArith.wf_i64 (by omega)))
                  clear hi5 hi
                  by_cases h1 : L3.getD i 0 = 1
                  · have HC0 : Hid (cntL L3 i = 1) := Lib.hid (if_pos h1)
                    have HH1 := Lib.hid h1
                    clear h1
                    go_wp2_with fail
                    refine (tick_one i HI.out hs2.out).mono ?_; rintro e x9 ⟨a9, c9, rfl, hr9, h9, h9o⟩
                    rw [mix_at, if_pos HH1.out]
                    rw [mix_at, if_pos HH1.out] at hr9
                    rw [mix_at, mix_succ] at h9
                    obtain ⟨b9, o9, rfl, _, hc9⟩ := hr9.at_ (k := 0) (by simp)
                    have hc9' : x9.cell? ⟨b9, o9, none⟩ = some (.int .i64 (i : Int)) := hc9
                    have H9 := Lib.hid h9
                    have M9 : Hid (x9.ownsMap Try.prog 3 (plainElem (H := Unit) Try.prog 3) Bm n D) := Lib.hid (map_keep hm2.out (h9o.block Bm hm2.out.lt (by have := A4.out; omega)))
                    clear h9 h9o hr9 hc9
                    go_wp2_with (at_lookup; refine wpList_lookup_own_int _ rfl _ _ 29 rfl 3 3 .i64 law Try.underlying29 Try.underlying3 (zeroE _) Bm n _ rfl M9.out _ _ rfl HKEY.out ?_; intro c hat hwc; obtain rfl : c = 1 := (lit_inj (hat.symm.trans HAT.out)).trans (by rw [HC0.out]; rfl); clear hat hwc)
                    refine (left_one i HI.out H9.out).mono ?_; rintro e x10 ⟨rfl, rfl⟩
                    rw [mix_next]
                    obtain ⟨y, hy⟩ : ∃ y : Nat, L3.getD i 0 - 1 = y := ⟨_, rfl⟩
                    rw [hy]
                    go_wp2_with fail
                    refine (left_all i HI.out H9.out).mono ?_; rintro e x10 ⟨rfl, rfl⟩
                    rw [getD_tick, hy]
                    clear hy
                    have hyy : ((y : Int) != (y : Int)) = false := by simp
                    go_wp2_with fail
                    go_roundw
                    case rel => exact ⟨i + 1, HI.out, by go_num, H9, M9⟩
                    case measure => simp [intOf]; have := HI.out; omega
                  · have HC0 : Hid (cntL L3 i = 0) := Lib.hid (if_neg h1)
                    have HH1 := Lib.hid h1
                    clear h1
                    go_wp2_with fail
                    refine (tick_one i HI.out hs2.out).mono ?_; rintro e x9 ⟨a9, c9, rfl, _, h9, h9o⟩
                    rw [mix_at, if_neg HH1.out]
                    rw [mix_at, mix_succ] at h9
                    have H9 := Lib.hid h9
                    have M9 : Hid (x9.ownsMap Try.prog 3 (plainElem (H := Unit) Try.prog 3) Bm n D) := Lib.hid (map_keep hm2.out (h9o.block Bm hm2.out.lt (by have := A4.out; omega)))
                    clear h9 h9o
                    go_wp2_with (at_lookup; refine wpList_lookup_own_int _ rfl _ _ 29 rfl 3 3 .i64 law Try.underlying29 Try.underlying3 (zeroE _) Bm n _ rfl M9.out _ _ rfl HKEY.out ?_; intro c hat hwc; obtain rfl : c = 0 := (lit_inj (hat.symm.trans HAT.out)).trans (by rw [HC0.out]; rfl); clear hat hwc)
                    refine (left_one i HI.out H9.out).mono ?_; rintro e x10 ⟨rfl, rfl⟩
                    rw [mix_next]
                    obtain ⟨y, hy⟩ : ∃ y : Nat, L3.getD i 0 - 1 = y := ⟨_, rfl⟩
                    rw [hy]
                    go_wp2_with fail
                    refine (left_all i HI.out H9.out).mono ?_; rintro e x10 ⟨rfl, rfl⟩
                    rw [getD_tick, hy]
                    clear hy
                    have hyy : ((y : Int) != (y : Int)) = false := by simp
                    go_wp2_with fail
                    go_roundw
                    case rel => exact ⟨i + 1, HI.out, by go_num, H9, M9⟩
                    case measure => simp [intOf]; have := HI.out; omega
                · obtain rfl : i = 5 := by omega
                  have S9 : Hid (St w w.heap.size A E (downL L (r + 1)) (getF (downL L (r + 1))) wr) := Lib.hid (by
                    have := hs2.out
                    rw [mix_end L3 hl3.out, ← HL3.out, down_tick] at this
                    exact this)
                  go_wp2_with fail
                  go_roundw
                  case rel => exact ⟨r + 1, HR.out, by go_num, S9⟩
                  case measure => simp [intOf]; have := HR.out; omega
        · obtain rfl : r = 61 := by omega
          have hz : nextL (downL L 61) = 0 := nextTo_zero (fun i => by rw [getD_down]; have := hbd.out i; omega) 5
          go_wp2_with fail
          refine (next_own hst2.out.mine).mono ?_; rintro e x6 ⟨rfl, rfl⟩
          rw [hz]
          go_wp2_with fail
          go_ret
          exact ⟨rfl, hst2.out.below⟩

theorem own : ownKnob Try.prog.godebug = none := by kernel_rfl
theorem laidOut : laidOutB Try.prog = true := by kernel_rfl

set_option maxRecDepth 100000 in
theorem lifted (os : Os) (started : os.Started) (H : Type) (enc : TypeId × Value → H) :
    ReturnsInHanded {} Try.checked os 3 .any (Rows.polliwogClocksSpec.pre6 enc Try.prog Try.f3 Rows.polliwogClocksRow.domain false) (Rows.polliwogClocksSpec.post enc Try.prog Try.f3 false true false false) := by
  refine Base.law_lifted (C := Try.checked) own started (by kernel_rfl) Try.func3 laidOut (by kernel_rfl) rfl Try.underlying4 rfl ?_
    (ChangeSpec.witness6 (enc := enc) (C := Try.checked) false ⟨#[], #[.slice none 0 0], []⟩ 8 (by kernel_rfl) (by kernel_rfl) (by kernel_rfl) (by kernel_rfl)) ?_
  · intro ds h
    match ds, h with
    | [_d0], _ => exact ⟨rfl, rfl, rfl⟩
  · intro W base args ds before hval0 hA0 hlt hsz
    have hval : ∀ (j : Nat) t v, Try.f3.params[j]? = some t → args[j]? = some v → Value.okWide Try.prog W .any base t v := hval0
    have hA : DataW.TrodAll enc Try.prog W 0 (fun _ => true) true Try.f3.params.toList args.toList ds before := hA0
    clear hval0 hA0
    rw [Try.params3] at hA hval hsz
    obtain ⟨v0, vs0, d0, ds0, p0, q0, hargs, rfl, rfl, h0, r0⟩ := trodAll_cons hA
    obtain ⟨rfl, rfl, rfl⟩ := trodAll_nil r0
    obtain rfl : args = #[v0] := by cases args; simp_all
    obtain ⟨a0, w0⟩ := Base.open_int_slice Try.underlying22 Try.underlying3 (by kernel_rfl) (by kernel_rfl) (hval 0 22 v0 rfl rfl) h0 (fun x hx => hlt x (by simp [hx])) (Base.sized_at hsz (j := 0) rfl rfl)
    exact walk W v0 a0 w0

theorem over : Rows.polliwogClocksRow.holds Try.pinned (OpenSpec.ofChange Rows.polliwogClocksSpec) :=
  OpenClaim.holds_of_wide 3 Try.f3 rfl rfl rfl rfl rfl rfl rfl ⟨rfl, rfl, rfl, rfl, rfl⟩ rfl rfl rfl rfl rfl (by kernel_rfl) Try.func3 (by kernel_rfl)
    (of_decide_eq_true (by kernel_rfl)) (by unfold Func.isWrapper; first | (rw [if_pos (by decide +kernel)]; kernel_rfl) | (rw [if_neg (by decide +kernel)]; exact ⟨rfl, rfl⟩))
    (fun os started H enc _ => lifted os started H enc)

theorem proved : Rows.PolliwogClocksSaid :=
  over
#print axioms proved
end Go.Proofs.Ytjcphdbfafjngaa.polliwogClocks
