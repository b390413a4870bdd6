/-
  Gaps: which numbers pairs name, each once.
-/
import Derived.Test.YtdnikjjcgoilfaaGaps3
import Derived.Maps.OwnSet
import Derived.Deep.DeepCutAuto
namespace Go.Proofs.Ytdnikjjcgoilfaa.Gaps
open Go.ChangeShapes Go.WideShapes Go.RowKit Own

def stepN (N : List Int) (x : Int) : List Int := if N.length < 65536 ∧ x ∉ N then N ++ [x] else N
def runN (f : Int) (N : List Int) : Nat → List Int
  | 0 => N
  | i + 1 => stepN (runN f N i) ((f + (i : Int)) % 16777216)
theorem runN_succ (f : Int) (N : List Int) (i : Nat) : runN f N (i + 1) = stepN (runN f N i) ((f + (i : Int)) % 16777216) := rfl
theorem stepN_full {N : List Int} (h : 65536 ≤ N.length) (x : Int) : stepN N x = N := if_neg (fun e => by omega)
theorem runN_full {f : Int} {N : List Int} {i : Nat} (h : 65536 ≤ (runN f N i).length) : ∀ j, i ≤ j → runN f N j = runN f N i
  | 0, hj => by obtain rfl : i = 0 := by omega
                rfl
  | j + 1, hj => by
    by_cases he : i = j + 1
    · subst he; rfl
    · have ih := runN_full h j (by omega)
      rw [runN_succ, ih, stepN_full h]
theorem stepN_len (N : List Int) (x : Int) : (stepN N x).length ≤ N.length + 1 := by unfold stepN; split <;> simp
theorem stepN_cap {N : List Int} (h : N.length ≤ 65536) (x : Int) : (stepN N x).length ≤ 65536 := by
  unfold stepN; split
  · rename_i h1; simp; omega
  · exact h
theorem runN_cap (f : Int) {N : List Int} (h : N.length ≤ 65536) : ∀ i, (runN f N i).length ≤ 65536
  | 0 => h
  | i + 1 => by rw [runN_succ]; exact stepN_cap (runN_cap f h i) _
/-- what the first pairs name -/
def namTo (L : List Int) : Nat → List Int
  | 0 => []
  | k + 1 => if wayI (L.getD (2 * k) 0) (L.getD (2 * k + 1) 0) ≤ 8388608 then runN (L.getD (2 * k) 0) (namTo L k) (wayI (L.getD (2 * k) 0) (L.getD (2 * k + 1) 0)).toNat else namTo L k
def namedL (L : List Int) : List Int := namTo L (L.length / 2)
theorem nam_cap (L : List Int) : ∀ k, (namTo L k).length ≤ 65536
  | 0 => by simp [namTo]
  | k + 1 => by
    rw [namTo]; split
    · exact runN_cap _ (nam_cap L k) _
    · exact nam_cap L k

theorem lawU : Go.Maps.Keyed Try.prog 28 := Go.Maps.int_keyed Try.underlying28
theorem zeroU (w : World) : (zeroValue 71).run Try.prog w = .ok (.agg #[]) w := by kernel_rfl
theorem build_unit (w : World) : (Instr.build 71 #[]).run Try.prog w = .ok (.agg #[]) w := by kernel_rfl
theorem infoU : Info .u32 28 4 := by unfold Info; kernel_rfl
/-- a slice and a set of numbers that a call keeps in boxes -/
structure NS (S : World) (b : Nat) (W : World) (gl gm B base : Nat) (v : Value) (N : List Int) : Prop where
  gl1 : W.heap[gl]? = some (.cells #[v] 32 (0, 0))
  gm1 : W.heap[gm]? = some (.cells #[.map (some B)] 70 (0, 0))
  own : OwnI .u32 28 W base v N
  map : ∃ D : DataW Unit, W.ownsMap Try.prog 28 unitElem B N.length D ∧ ∀ x : Int, Go.Maps.has D (.int .u32 x) = decide (x ∈ N)
  apart : gl ≠ gm ∧ gl ≠ B ∧ gm ≠ B ∧ gl < base ∧ gm < base ∧ B < base
  below : Below b S W
  low : b ≤ gl ∧ b ≤ gm ∧ b ≤ B ∧ b ≤ base
  size : base ≤ W.heap.size
theorem own_keep {κ : IntKind} {τ : TypeId} {w w' : World} {base : Nat} {v : Value} {L : List Int} (h : OwnI κ τ w base v L) (hk : ∀ j, base ≤ j → j < w.heap.size → w'.heap[j]? = w.heap[j]?) : OwnI κ τ w' base v L := by
  refine ⟨h.1, ?_⟩
  rcases h.2 with hn | ⟨g, cap, cur, rfl, hg, hh, rest⟩
  · exact .inl hn
  · have hlt : g < w.heap.size := (Array.getElem?_eq_some_iff.1 hh).1
    exact .inr ⟨g, cap, cur, rfl, hg, (hk g hg hlt).trans hh, rest⟩
theorem map_keep {w w' : World} {k : TypeId} {b n : Nat} {D : DataW Unit} (h : w.ownsMap Try.prog k unitElem b n D) (hk : w'.heap[b]? = w.heap[b]?) : w'.ownsMap Try.prog k unitElem b n D := by
  obtain ⟨es, clock, hb, r⟩ := h
  exact ⟨es, clock, hk.trans hb, r⟩
theorem own_lt {κ : IntKind} {τ : TypeId} {w : World} {base : Nat} {v : Value} {L : List Int} (h : OwnI κ τ w base v L) : ∀ j, v.ownBlock = some j → base ≤ j ∧ j < w.heap.size := by
  intro j hj
  rcases h.2 with ⟨rfl, _⟩ | ⟨g, cap, cur, rfl, hg, hh, _⟩
  · cases hj
  · have : g = j := by simpa [Value.ownBlock] using hj
    subst this
    exact ⟨hg, (Array.getElem?_eq_some_iff.1 hh).1⟩

theorem NS.drewN {S W : World} {b gl gm B base : Nat} {v : Value} {N : List Int} (h : NS S b W gl gm B base v N) (q : Nat) : NS S b (W.drewN q) gl gm B base v N :=
  ⟨h.gl1, h.gm1, h.own, h.map, h.apart, below_drewN h.below q, h.low, h.size⟩
theorem NS.alloc {S W : World} {b gl gm B base : Nat} {v : Value} {N : List Int} (h : NS S b W gl gm B base v N) (o : Obj) : NS S b (W.alloc o) gl gm B base v N := by
  have hb : Below W.heap.size W (W.alloc o) := (Below.refl _ _).alloc (Nat.le_refl _) _
  obtain ⟨D, hm, hd⟩ := h.map
  exact ⟨(hb.block gl (Array.getElem?_eq_some_iff.1 h.gl1).1).trans h.gl1, (hb.block gm (Array.getElem?_eq_some_iff.1 h.gm1).1).trans h.gm1, h.own.below hb, ⟨D, hm.alloc _, hd⟩, h.apart, h.below.alloc (Nat.le_trans h.low.2.2.2 h.size) _, h.low, by have := h.size; simp; omega⟩
/-- .. but for the set -/
structure NSL (S : World) (b : Nat) (W : World) (gl gm B base : Nat) (v : Value) (N : List Int) : Prop where
  gl1 : W.heap[gl]? = some (.cells #[v] 32 (0, 0))
  gm1 : W.heap[gm]? = some (.cells #[.map (some B)] 70 (0, 0))
  own : OwnI .u32 28 W base v N
  apart : gl ≠ gm ∧ gl ≠ B ∧ gm ≠ B ∧ gl < base ∧ gm < base ∧ B < base
  below : Below b S W
  low : b ≤ gl ∧ b ≤ gm ∧ b ≤ B ∧ b ≤ base
  size : base ≤ W.heap.size
theorem NS.part {S W W' : World} {b gl gm B base : Nat} {v : Value} {N : List Int} (h : NS S b W gl gm B base v N) (hg : W.grownBy W' (some B)) : NSL S b W' gl gm B base v N := by
  obtain ⟨a1, a2, a3, a4, a5, a6⟩ := h.apart
  exact ⟨(hg.block gl (Array.getElem?_eq_some_iff.1 h.gl1).1 (by intro e; cases e; exact a2 rfl)).trans h.gl1, (hg.block gm (Array.getElem?_eq_some_iff.1 h.gm1).1 (by intro e; cases e; exact a3 rfl)).trans h.gm1,
    own_keep h.own (fun j hj hlt => hg.block j hlt (by intro e; cases e; omega)), h.apart, h.below.grown hg (Nat.le_trans h.low.2.2.2 h.size) (fun j hj => by cases hj; exact h.low.2.2.1), h.low, Nat.le_trans h.size hg.size⟩
/-- what a new row, or one's own, leaves as it was -/
theorem NSL.far {S W W' : World} {b gl gm B base : Nat} {v : Value} {N : List Int} {o : Obj} (h : NSL S b W gl gm B base v N) (hg : (W.alloc o).grownBy W' v.ownBlock) :
    W'.heap[gl]? = some (.cells #[v] 32 (0, 0)) ∧ W'.heap[gm]? = some (.cells #[.map (some B)] 70 (0, 0)) ∧ W'.heap[B]? = W.heap[B]? ∧ Below b S W' ∧ base ≤ W'.heap.size := by
  obtain ⟨a1, a2, a3, a4, a5, a6⟩ := h.apart
  have hb : Below W.heap.size W (W.alloc o) := (Below.refl _ _).alloc (Nat.le_refl _) _
  have hl := fun j hj => (own_lt h.own j hj).1
  have hsz := h.size
  have hk : ∀ j, j < base → W'.heap[j]? = W.heap[j]? := fun j hj => (hg.block j (by simp; omega) (by
    intro e
    have := hl j e.symm
    omega)).trans (hb.block j (by omega))
  refine ⟨(hk gl a4).trans h.gl1, (hk gm a5).trans h.gm1, hk B a6, ?_, Nat.le_trans (by simp; omega) hg.size⟩
  exact (h.below.alloc (Nat.le_trans h.low.2.2.2 h.size) _).grown hg (by have := h.low; simp; omega) (fun j hj => Nat.le_trans h.low.2.2.2 (hl j hj))
set_option maxRecDepth 100000 in
set_option maxHeartbeats 2000000 in
theorem namedC_any (S : World) (b gl gm B base : Nat) (v : Value) (N : List Int) (f n : Int) (w : World) (h : NS S b w gl gm B base v N) (hN : N.length ≤ 65536) (hn : 0 ≤ n ∧ n ≤ 16777216) :
    Calls Try.prog 42 #[.int .u32 f, .int .i64 n, .pointer (some ⟨gl, 0, none⟩), .pointer (some ⟨gm, 0, none⟩)] w fun e w' => (∃ v, e = .returned v) ∧ ∃ v', NS S b w' gl gm B base v' (runN f N n.toNat) := by
  obtain ⟨m, rfl⟩ : ∃ m : Nat, n = (m : Int) := ⟨n.toNat, by omega⟩
  rw [Int.toNat_natCast]
  have H := Lib.hid h
  have HN := Lib.hid hN
  have hm : (m : Int) ≤ 16777216 := hn.2
  clear h hN hn
  go_enter Try.func42, Try.ntmps42
  go_wp2_with fail
  go_loopw [6] (fun s6 wr => ∃ (i : Nat), i ≤ m ∧ s6 = .int .i64 (i : Int) ∧ Hid (∃ v', NS S b wr gl gm B base v' (runN f N i))) (fun s6 _ => m - (intOf s6).toNat)
  case atStart => exact ⟨0, Nat.zero_le _, rfl, Lib.hid ⟨v, H.out⟩⟩
  case round =>
    obtain ⟨i, hi, rfl, hs⟩ := hrel
    obtain ⟨v', hs⟩ := hs.out
    by_cases him : i < m
    · obtain ⟨M, hM⟩ : ∃ M, runN f N i = M := ⟨_, rfl⟩
      rw [hM] at hs
      have HM := Lib.hid hM
      have hMc : M.length ≤ 65536 := by rw [← hM]; exact runN_cap f HN.out i
      obtain ⟨a, q, cap, rfl, hft, hrd⟩ := hs.own.form
      have hq := hrd.1
      have k0 : wr.cell? ⟨gl, 0, none⟩ = some (.slice a q cap) := Go.Joins.cell_of_block hs.gl1 0
      have k1 : wr.cell? ⟨gm, 0, none⟩ = some (.map (some B)) := Go.Joins.cell_of_block hs.gm1 0
      have HQ := Lib.hid hq
      have HI := Lib.hid him
      have hii : (i : Int) < (m : Int) := by omega
      clear hM hi him hq hft hrd
      by_cases hfull : q < 65536
      · have hf2 : (q : Int) < 65536 := by omega
        obtain ⟨x, hx⟩ : ∃ x, (f + (i : Int)) % 16777216 = x := ⟨_, rfl⟩
        have hx0 : 0 ≤ x ∧ x < 16777216 := by omega
        have HX := Lib.hid hx
        have HX0 := Lib.hid hx0
        clear hx hx0
        have HST : Hid (runN f N (i + 1) = stepN M x) := Lib.hid (by rw [runN_succ, HM.out, HX.out])
        have HKEY := Lib.hid (Go.Maps.keyOf_int_mk Try.underlying28 (a := x) (WalkArith.wf_u32 (by have := HX0.out; omega)))
        obtain ⟨D, hmap, hD⟩ := hs.map
        have HMAP := Lib.hid hmap
        have HS := Lib.hid hs
        have HD := Lib.hid (hD x)
        have HDA := Lib.hid hD
        have HF := Lib.hid hfull
        clear hmap hs hD hfull hMc
        by_cases hmem : x ∈ M
        · have hh : Go.Maps.has D (.int .u32 x) = true := by rw [HD.out]; exact decide_eq_true hmem
          have HE : Hid (stepN M x = M) := Lib.hid (if_neg (fun e => e.2 hmem))
          clear hmem
          go_wp2_with fail
          refine (SeqCalls.add_any _ _ _).mono ?_; rintro e w2 ⟨rfl, rfl⟩
          rw [HX.out]
          go_wp2_with (at_lookup; refine wpList_lookup_own_unit _ rfl _ _ 70 rfl 28 71 lawU Try.underlying70 (zeroU _) B M.length _ rfl HMAP.out _ _ rfl HKEY.out ?_; rw [hh])
          go_roundw
          case rel => exact ⟨i + 1, HI.out, by go_num, Lib.hid ⟨_, by rw [HST.out, HE.out]; exact HS.out.alloc _⟩⟩
          case measure => simp [intOf]; have := HI.out; omega
        · have hh : Go.Maps.has D (.int .u32 x) = false := by rw [HD.out]; exact decide_eq_false hmem
          have HE : Hid (stepN M x = M ++ [x]) := Lib.hid (if_pos ⟨by have := HF.out; have := HQ.out; omega, hmem⟩)
          clear hmem
          go_wp2_with fail
          refine (SeqCalls.add_any _ _ _).mono ?_; rintro e w2 ⟨rfl, rfl⟩
          rw [HX.out]
          have HML : Hid (M.length < maxLen) := Lib.hid (by have := HF.out; have := HQ.out; unfold maxLen; omega)
          have HL1 : Hid (M.length + 1 ≤ 1000000) := Lib.hid (by have := HF.out; have := HQ.out; omega)
          have HSA := Lib.hid (HS.out.alloc (.cells #[] 71 (0, 0)))
          have HMA := Lib.hid (HMAP.out.alloc (.cells #[] 71 (0, 0)))
          go_upto_region 5 with (at_lookup; refine wpList_lookup_own_unit _ rfl _ _ 70 rfl 28 71 lawU Try.underlying70 (zeroU _) B M.length _ rfl HMAP.out _ _ rfl HKEY.out ?_; rw [hh])
          generalize wr.alloc (.cells #[] 71 (0, 0)) = W2 at *
          have k0 : W2.cell? ⟨gl, 0, none⟩ = some (.slice a q cap) := Go.Joins.cell_of_block HSA.out.gl1 0
          have k1 : W2.cell? ⟨gm, 0, none⟩ = some (.map (some B)) := Go.Joins.cell_of_block HSA.out.gm1 0
          clear hh
          have hbu := build_unit
          have HII := Lib.hid (And.intro hii hm)
          go_upto_region 6 with (fail)
          clear hs hf2 hii hm k0
          go_wp2_with (first
            | (at_mapUpdate; refine wpList_mapUpdate_own _ rfl _ _ _ 70 rfl 28 71 lawU Try.underlying70 unitElem B M.length _ rfl HMA.out HML.out _ _ _ rfl rfl HKEY.out _ [] unitElem_mk ?_; intro w3 hown3 hgrow3; have HS3 : Hid (NSL S b w3 gl gm B base (.slice a q cap) M) := Lib.hid (HSA.out.part hgrow3); have M3 := Lib.hid hown3; have k3 : w3.cell? ⟨gl, 0, none⟩ = some (.slice a q cap) := Go.Joins.cell_of_block HS3.out.gl1 0; clear hown3 hgrow3 k1 hbu)
            | (at_builtin; refine wpList_appI infoU (by decide) rfl (.tmp 34) (.tmp 36) 32 rfl Try.underlying32 base _ _ rfl (HS3.out.own.below ((Below.refl _ _).alloc (Nat.le_refl _) _)) _ 1 1 [x] rfl (rdI_lit1_at _ _ _ _ _ rfl) (fun h => by cases h) HL1.out (by have := HS3.out.size; simp; omega) ?_; intro v5 w5 hown5 hgrow5; obtain ⟨a5, q5, c5, rfl, _, _⟩ := hown5.form; have HO5 : Hid (OwnI .u32 28 w5 base (.slice a5 q5 c5) (M ++ [x])) := Lib.hid hown5; have hib : (i : Int) ≤ 16777216 := (by have := HII.out; omega); have HFAR := Lib.hid (HS3.out.far (o := .cells #[.int .u32 x] 28) hgrow5); have hz5 := HFAR.out.1; have hz6 : w5.frozen? ⟨gl, 0, none⟩ = false := frozen_of_row _ _ _ _ _ hz5; have hz7 : w5.cell? ⟨gl, 0, none⟩ = some (.slice a q cap) := Go.Joins.cell_of_block hz5 0; clear hown5 hgrow5 k3))
          have HN5 : Hid (NS S b (w5.setCell ⟨gl, 0, none⟩ (.slice a5 q5 c5)) gl gm B base (.slice a5 q5 c5) (M ++ [x])) := Lib.hid (by
            obtain ⟨f1, f2, f3, f4, f5⟩ := HFAR.out
            obtain ⟨p1, p2, p3, p4, p5, p6⟩ := HS3.out.apart
            have hgl := Go.Joins.block_setCell (i := 0) f1 (.slice a5 q5 c5)
            refine ⟨by simpa using hgl, (heap_setCell_other _ _ _ _ (Ne.symm p1)).trans f2, own_keep HO5.out (fun j hj _ => heap_setCell_other _ _ _ _ (by show j ≠ gl; omega)), ?_, HS3.out.apart, f4.setCell HS3.out.low.1 _, HS3.out.low, by simpa using f5⟩
            refine ⟨D.put (.int .u32 x) (.agg []), ?_, fun y => ?_⟩
            · rw [List.length_append]
              exact map_keep M3.out ((heap_setCell_other _ _ _ _ (Ne.symm p2)).trans f3)
            · by_cases hy : y = x
              · subst hy
                rw [Go.Maps.has_put_same (HMAP.out.isMap) (by trivial)]; simp
              · rw [Go.Maps.has_put_other (by simpa using hy), HDA.out y]; simp [hy])
          obtain ⟨hii, hm⟩ := HII.out
          clear hz5 hz6 hz7
          go_roundw
          case rel => exact ⟨i + 1, HI.out, by go_num, Lib.hid ⟨_, by rw [HST.out, HE.out]; exact HN5.out⟩⟩
          case measure => simp [intOf]; have := HI.out; omega
      · have hd : decide ((q : Int) < 65536) = false := decide_eq_false (by omega)
        have HE : Hid (runN f N m = M) := Lib.hid (by rw [← HM.out]; exact runN_full (by rw [HM.out]; have := HQ.out; omega) m (by have := HI.out; omega))
        have HS := Lib.hid hs
        clear hs hfull
        go_wp2_with fail
        (try simp only [Exit.inBlock, Exit.then]); refine bodyPost_end (results_none rfl _ _ _) rfl ?_
        exact ⟨⟨_, rfl⟩, _, by rw [HE.out]; exact HS.out⟩
    · obtain rfl : i = m := by omega
      have HS := Lib.hid hs
      clear hs
      go_wp2_with fail
      (try simp only [Exit.inBlock, Exit.then]); refine bodyPost_end (results_none rfl _ _ _) rfl ?_
      exact ⟨⟨_, rfl⟩, _, HS.out⟩
end Go.Proofs.Ytdnikjjcgoilfaa.Gaps
