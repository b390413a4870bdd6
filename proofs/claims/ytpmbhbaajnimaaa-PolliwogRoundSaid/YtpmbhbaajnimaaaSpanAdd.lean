/-
  A set with the numbers of a span.
-/
import Derived.Test.YtpmbhbaajnimaaaSetOf
import Derived.Lib.AppendZerosOnto
namespace Go.Proofs.Ytpmbhbaajnimaaa.SpanCalls
open Go.RowKit SpanMath View

theorem grow_any (n : Nat) (w : World) (h1 : 1 ≤ n) (h2 : n ≤ 100000) :
    Calls Try.prog 23 #[.slice none 0 0, .int .i64 (n : Int)] w fun e w' => ∃ v, e = .returned v ∧ OwnS w' w.heap.size v [] ∧ Below w.heap.size w w' := by
  obtain ⟨i0, hi, hz0, hz1, hz2⟩ := info_parts spInfo
  have hrun : ∀ ty, (Builtin.append_ #[26, 3] ty #[.slice none 0 0, .int .i64 (n : Int)]).run Try.prog w =
      .ok (.slice (some ⟨w.heap.size, 0, none⟩) n (grownCap w n 0 25)) (w.drew.alloc (.cells (#[] ++ Builtin.zeroCells #[.int .i64 0, .int .i64 0] n ++ Builtin.zeroCells #[.int .i64 0, .int .i64 0] (grownCap w n 0 25 - n)) 25)) := fun ty => by
    have h := Lib.run_append_grow_zeros w 26 3 ty 25 i0 _ .i64 .i64 Try.underlying26 Try.underlying3 hi hz0 none 0 0 [] (run_firstCells_none w.drew i0.size 0 0 0) n (by omega) (by omega) (by omega) (by omega) (by rw [hz2]; omega)
      (by rw [Nat.zero_add]; exact growslice_fits (by omega) (by rw [hz2]; omega))
    rw [Nat.zero_add] at h
    exact h
  have hGn : n ≤ grownCap w n 0 25 := grownCap_ge w _ _ _
  have hG63 := grownCap_le_maxLen w n 0 25 (by unfold maxLen; omega)
  obtain ⟨G, hG⟩ : ∃ G, grownCap w n 0 25 = G := ⟨_, rfl⟩
  rw [hG] at hrun hGn hG63
  have hsz : (#[] ++ Builtin.zeroCells #[.int .i64 0, .int .i64 0] n ++ Builtin.zeroCells #[.int .i64 0, .int .i64 0] (G - n) : Array Value).size = G * 2 := by
    simp only [Array.size_append, size_zeroCells, List.size_toArray, List.length_cons, List.length_nil]
    omega
  obtain ⟨C, hC⟩ : ∃ C, (#[] ++ Builtin.zeroCells #[.int .i64 0, .int .i64 0] n ++ Builtin.zeroCells #[.int .i64 0, .int .i64 0] (G - n) : Array Value) = C := ⟨_, rfl⟩
  rw [hC] at hrun hsz
  have HSZ := Lib.hid hsz
  have HG := Lib.hid hG63
  have hG9 : G ≤ 9223372036854775807 := by unfold maxLen at hG63; omega
  clear hC hG hz0 hz1 hz2 hi hsz hG63
  go_enter Try.func23, Try.ntmps23
  go_wp2_with (at_builtin; refine Lib.wpList_append_run _ rfl _ _ _ _ rfl _ _ rfl rfl _ _ (hrun _) ?_)
  go_ret
  refine ⟨_, rfl, ?_, (Below.refl _ w).drew.alloc (Nat.le_refl _) _⟩
  exact World.ownsRow_made w.drew C G (Nat.le_refl _) HG.out HSZ.out

set_option maxHeartbeats 1000000 in
theorem concat_any (g c : Nat) (a : Option Addr) (n cap : Nat) (S : List Sp) (a' : Option Addr) (n' cap' : Nat) (T : List Sp) (w : World)
    (hg0 : w.cell? ⟨g, 0, none⟩ = some (.slice a n cap)) (hg1 : w.cell? ⟨g, 1, none⟩ = some (.slice a' n' cap')) (hg : g < w.heap.size)
    (h : RdS w a n S) (h' : RdS w a' n' T) (hf : Fit a n cap) (hf' : Fit a' n' cap') (hn : n ≤ 10000) (hn' : n' ≤ 10000) (h1 : 1 ≤ n') :
    Calls Try.prog 18 #[.slice (some ⟨g, 0, none⟩) 2 c] w fun e w' => ∃ v, e = .returned v ∧ OwnS w' w.heap.size v (S ++ T) ∧ Below w.heap.size w w' := by
  have HL := Lib.hid h
  have HM := Lib.hid h'
  have HF := Lib.hid hf
  have HF' := Lib.hid hf'
  have HG0 := Lib.hid hg0
  have HG1 := Lib.hid hg1
  clear h h' hf hf'
  go_enter Try.func18, Try.ntmps18
  go_wp2_with fail
  refine wp_loop_rounds 3 ?_
  rw [rounds_succ]
  go_wp2_with fail
  rw [rounds_succ]
  go_wp2_with fail
  rw [rounds_succ]
  go_wp2_with fail
  have hcon := grow_any (n + n') w (by omega) (by omega)
  rw [show ((n + n' : Nat) : Int) = (n : Int) + (n' : Int) from by omega] at hcon
  refine hcon.mono ?_; rintro e w1 ⟨v1, rfl, hown1, hb1⟩
  have hc0 : w1.cell? ⟨g, 0, none⟩ = some (.slice a n cap) := (cell_below hb1 hg).trans HG0.out
  have hs1 := hb1.size
  clear hg0 hg1 hcon
  go_wp2_with fail
  refine wp_loop_rounds 3 ?_
  rw [rounds_succ]
  go_wp2_with (at_builtin; refine wpList_appS rfl (.tmp 31) (.tmp 32) 26 rfl Try.underlying26 w.heap.size _ [] rfl hown1 a n cap S rfl (HL.out.below hb1) HF.out.2.2 (by simp; omega) hs1 ?_)
  intro v2 w2 hown2 hgr2
  have hb2 : Below w.heap.size w w2 := own_grown hb1 hs1 hgr2 hown1
  have hc1 : w2.cell? ⟨g, 1, none⟩ = some (.slice a' n' cap') := (cell_below hb2 hg).trans HG1.out
  have hs2 := hb2.size
  clear hgr2 hown1 hb1 hs1 hc0
  go_wp2_with fail
  rw [rounds_succ]
  go_wp2_with (at_builtin; refine wpList_appS rfl (.tmp 31) (.tmp 32) 26 rfl Try.underlying26 w.heap.size _ S rfl hown2 a' n' cap' T rfl (HM.out.below hb2) HF'.out.2.2 (by have := HL.out.1; omega) hs2 ?_)
  intro v3 w3 hown3 hgr3
  have hb3 : Below w.heap.size w w3 := own_grown hb2 hs2 hgr3 hown2
  clear hgr3 hown2 hb2 hs2 hc1
  go_wp2_with fail
  rw [rounds_succ]
  go_wp2_with fail
  go_ret
  exact ⟨_, rfl, hown3, hb3⟩

theorem add_any (a : Option Addr) (n cap : Nat) (S : List Sp) (x1 x2 : Int) (T : List Sp) (w : World) (h : RdS w a n S) (hf : Fit a n cap) (hs : Small S) (b1 : -400 ≤ x1) (b2 : x1 ≤ 400) (b3 : -400 ≤ x2) (b4 : x2 ≤ 400)
    (hT : IsSet T fun z => z ∈ nums S ∨ (x1 ≤ z ∧ z < x2)) :
    Calls Try.prog 10 #[.slice a n cap, .agg #[.int .i64 x1, .int .i64 x2]] w fun e w' => ∃ v, e = .returned v ∧ OwnS w' w.heap.size v T ∧ Below w.heap.size w w' := by
  have HL := Lib.hid h
  have HF := Lib.hid hf
  have HT : Hid (IsSet T (inSp (S ++ [(x1, x2)]))) := Lib.hid ⟨hT.1, fun z => by
    refine (hT.2 z).trans ?_
    show (z ∈ nums S ∨ (x1 ≤ z ∧ z < x2)) ↔ _
    rw [mem_nums]
    simp only [inSp, List.mem_append, List.mem_cons, List.not_mem_nil, or_false]
    constructor
    · rintro (⟨y, hy, hh⟩ | hh)
      · exact ⟨y, .inl hy, hh⟩
      · exact ⟨(x1, x2), .inr rfl, hh⟩
    · rintro ⟨y, hy | rfl, hh⟩
      · exact .inl ⟨y, hy, hh⟩
      · exact .inr hh⟩
  have HNR : Hid (Near (S ++ [(x1, x2)])) := Lib.hid (near_of (by have := hs.1; simp; omega) (fun y hy => by
    rw [List.mem_append] at hy
    rcases hy with hy | hy
    · exact hs.2 y hy
    · simp only [List.mem_cons, List.not_mem_nil, or_false] at hy; subst hy; exact ⟨b1, b2, b3, b4⟩))
  have hn1 : n ≤ 1000 := by rw [h.1]; exact hs.1
  clear h hf hs hT
  go_enter Try.func10, Try.ntmps10
  go_wp2_with fail
  have hlit := (rdS_lit1 (w.alloc (.cells #[.int .i64 x1, .int .i64 x2] 25)) x1 x2).alloc (.cells #[.slice a n cap, .slice (some ⟨w.heap.size + 1, 0, none⟩) 1 1] 26)
  rw [World.size_alloc] at hlit
  have hrd := (((HL.out.alloc (.cells #[.int .i64 x1, .int .i64 x2] 25)).alloc (.cells #[.int .i64 x1, .int .i64 x2] 25))).alloc (.cells #[.slice a n cap, .slice (some ⟨w.heap.size + 1, 0, none⟩) 1 1] 26)
  have hbw : Below w.heap.size w (((w.alloc (.cells #[.int .i64 x1, .int .i64 x2] 25)).alloc (.cells #[.int .i64 x1, .int .i64 x2] 25)).alloc (.cells #[.slice a n cap, .slice (some ⟨w.heap.size + 1, 0, none⟩) 1 1] 26)) :=
    (((Below.refl _ w).alloc (Nat.le_refl _) _).alloc (by simp) _).alloc (by simp; omega) _
  have hc0 : (((w.alloc (.cells #[.int .i64 x1, .int .i64 x2] 25)).alloc (.cells #[.int .i64 x1, .int .i64 x2] 25)).alloc (.cells #[.slice a n cap, .slice (some ⟨w.heap.size + 1, 0, none⟩) 1 1] 26)).cell? ⟨w.heap.size + 1 + 1, 0, none⟩ = some (.slice a n cap) := by
    rw [World.cell?_alloc_at _ _ _ _ (by simp)]; rfl
  have hc1 : (((w.alloc (.cells #[.int .i64 x1, .int .i64 x2] 25)).alloc (.cells #[.int .i64 x1, .int .i64 x2] 25)).alloc (.cells #[.slice a n cap, .slice (some ⟨w.heap.size + 1, 0, none⟩) 1 1] 26)).cell? ⟨w.heap.size + 1 + 1, 1, none⟩ = some (.slice (some ⟨w.heap.size + 1, 0, none⟩) 1 1) := by
    rw [World.cell?_alloc_at _ _ _ _ (by simp)]; rfl
  have hlt : w.heap.size + 1 + 1 < (((w.alloc (.cells #[.int .i64 x1, .int .i64 x2] 25)).alloc (.cells #[.int .i64 x1, .int .i64 x2] 25)).alloc (.cells #[.slice a n cap, .slice (some ⟨w.heap.size + 1, 0, none⟩) 1 1] 26)).heap.size := by simp
  generalize ((w.alloc (.cells #[.int .i64 x1, .int .i64 x2] 25)).alloc (.cells #[.int .i64 x1, .int .i64 x2] 25)).alloc (.cells #[.slice a n cap, .slice (some ⟨w.heap.size + 1, 0, none⟩) 1 1] 26) = W at *
  refine (concat_any (w.heap.size + 1 + 1) 2 a n cap S (some ⟨w.heap.size + 1, 0, none⟩) 1 1 [(x1, x2)] W hc0 hc1 hlt hrd hlit HF.out ⟨Nat.le_refl _, by simp [maxLen], fun h => by cases h⟩ (by omega) (by omega) (Nat.le_refl _)).mono ?_
  rintro e w1 ⟨v1, rfl, hown1, hb1⟩
  have hb2 := hbw.trans (hb1.mono hbw.size)
  have hs2 := hb2.size
  obtain ⟨a1, n1, c1, rfl, hf1, hr1⟩ := hown1.form
  have HR1 := Lib.hid hr1
  have HF1 := Lib.hid hf1
  clear hlit hrd hbw hown1 hb1 hr1 hf1 hc0 hc1 hlt
  go_wp2_with fail
  refine (of_any a1 n1 c1 (S ++ [(x1, x2)]) T _ HR1.out HF1.out HNR.out HT.out).mono ?_; rintro e w2 ⟨v2, rfl, hown2, hb3⟩
  have hb4 := hb2.trans (hb3.mono hs2)
  have hown3 := hown2.lower hs2
  clear hown2 hb3
  go_wp2_with fail
  go_ret
  exact ⟨_, rfl, hown3, hb4⟩

end Go.Proofs.Ytpmbhbaajnimaaa.SpanCalls
