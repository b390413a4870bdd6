/-
  The pace: the document's own tick, what is safe, a new one.
-/
import Derived.Test.YtlfjndjbfbejkaaPace5
import Derived.Test.YtlfjndjbfbejkaaAppAt
namespace Go.Proofs.Ytlfjndjbfbejkaa.Pace
open Go.RowKit View Bank AppAt

theorem below_drewN' {B : Nat} {a w : World} (h : Below B a w) (n : Nat) : Below B a (w.drewN n) := View.below_drewN h n
theorem results_row_tmp {P : Program} {fn : Func} {p u : Tmp} {ty : TypeId} (h : fn.results = #[.cell p ty, .tmp u]) (tmps : Array Value) (w : World) (g : Nat) (t : TypeId) (cs : Array Value) (fr : Nat × Nat) (d : TypeDesc)
    (hp : tmps.getD p undef = .pointer (some ⟨g, 0, none⟩)) (hg : w.heap[g]? = some (.cells cs t fr))
    (hu : P.underlying ty = some d) (hd : (match d with | .struct _ | .array _ _ => true | _ => false) = true) (hi : (P.info? ty).map (·.size) = some cs.size) :
    (results fn tmps).run P w = .ok (.tuple #[.agg cs, tmps.getD u undef]) w := by
  have hp' : tmps[p]?.getD undef = .pointer (some ⟨g, 0, none⟩) := by simpa using hp
  rw [results_cell_tmp h]
  simp [hp', asAddr, run_loadVar_row w g t ty cs fr d hg hu hd hi, Result.andThen]
section
variable (X : Nat → Prop) (K L : List Nat) (vT vL : Value) (w : World)
theorem take_succN (L : List Nat) (k : Nat) (h : k < L.length) : L.take (k + 1) = L.take k ++ [L.getD k 0] := by
  rw [List.take_succ_eq_append_getElem h]; simp [List.getD, h]
theorem tick_take {L : List Nat} {k : Nat} (h : k < L.length) : encZ ((L.take (k + 1)).map (· - 1)) = encZ ((L.take k).map (· - 1)) ++ [((L.getD k 0 - 1 : Nat) : Int)] := by
  rw [take_succN L k h]; simp [encZ]
set_option maxRecDepth 100000 in
set_option maxHeartbeats 4000000 in
theorem rtick_any (hX : ∀ b, X b → b < w.heap.size) (hT : Five w X vT K) (hL : Five w X vL L) (htop : ∀ i, L.getD i 0 ≤ 1048576) :
    Calls Try.prog 37 #[.agg #[vT, vL]] w fun e w' => ∃ v v2, e = .returned (.tuple #[.agg #[vT, v], v2]) ∧ Five w' X v (tickL L) ∧ OwnI w' w.heap.size v2 (oversL L) ∧ Below w.heap.size w w' := by
  have HT := Lib.hid hT
  have HLL := Lib.hid hL.len
  obtain ⟨gT, oT, cT, rfl, _, _⟩ := hT
  obtain ⟨gL, oL, cL, rfl, _, hrL⟩ := hL
  have HRL := Lib.hid hrL
  have HTOP := Lib.hid htop
  have HX := Lib.hid hX
  clear hrL htop hX
  obtain ⟨W, hW⟩ : ∃ W, W = (((((w.alloc (.cells #[.slice (some ⟨gT, oT, none⟩) 5 cT, .slice (some ⟨gL, oL, none⟩) 5 cL] 34)).alloc (.cells #[.slice none 0 0, .slice none 0 0] 34))).alloc (.cells #[] 3)).alloc (.cells #[] 3)) := ⟨_, rfl⟩
  have HAL : Hid (Below w.heap.size w W) := Lib.hid (by rw [hW]; exact ((((Below.refl _ w).alloc (Nat.le_refl _) _).alloc (by simp) _).alloc (by simp; omega) _).alloc (by simp; omega) _)
  have HSZ : Hid (W.heap.size = w.heap.size + 4) := Lib.hid (by rw [hW]; simp)
  have HAL2 : Hid (Below (w.heap.size + 2) ((w.alloc (.cells #[.slice (some ⟨gT, oT, none⟩) 5 cT, .slice (some ⟨gL, oL, none⟩) 5 cL] 34)).alloc (.cells #[.slice none 0 0, .slice none 0 0] 34)) W) := Lib.hid (by rw [hW]; exact ((Below.refl _ _).alloc (by simp) _).alloc (by simp) _)
  have HZ : Hid (W.heap[w.heap.size + 1]? = some (.cells #[.slice none 0 0, .slice none 0 0] 34 (0, 0))) := Lib.hid ((HAL2.out.block _ (by omega)).trans (heap_alloc2_new w _ _))
  have HBX : Hid (W.heap[w.heap.size]? = some (.cells #[.slice (some ⟨gT, oT, none⟩) 5 cT, .slice (some ⟨gL, oL, none⟩) 5 cL] 34 (0, 0))) := Lib.hid ((HAL2.out.block _ (by omega)).trans (heap_alloc2_old w _ _))
  have HO1 : Hid (OwnI W (w.heap.size + 2) (.slice (some ⟨w.heap.size + 1 + 1, 0, none⟩) 0 0) []) := Lib.hid (by
    rw [hW]
    exact Own.OwnI.below (own_empty_at (κ := .i64) (τ := 3) (base := w.heap.size + 2) (g := w.heap.size + 1 + 1) (by simp) (by simp)) ((Below.refl _ _).alloc (Nat.le_refl _) _))
  have HO2 : Hid (OwnI W (w.heap.size + 2) (.slice (some ⟨w.heap.size + 1 + 1 + 1, 0, none⟩) 0 0) []) := Lib.hid (by
    rw [hW]
    exact own_empty_at (κ := .i64) (τ := 3) (base := w.heap.size + 2) (g := w.heap.size + 1 + 1 + 1) (by simp) (by simp))
  have HTW : Hid (Two W (.slice (some ⟨w.heap.size + 1 + 1, 0, none⟩) 0 0) (.slice (some ⟨w.heap.size + 1 + 1 + 1, 0, none⟩) 0 0)) := Lib.hid ⟨w.heap.size + 1 + 1, w.heap.size + 1 + 1 + 1, rfl, rfl, by omega, by have := HSZ.out; omega, by have := HSZ.out; omega⟩
  clear HAL2
  go_enter Try.func37, Try.ntmps37
  go_wp2_with fail
  rw [← hW]
  clear hW
  go_loopw [4, 5, 13] (fun s4 s5 s13 wr => ∃ k : Nat, k ≤ 5 ∧ s13 = .int .i64 (k : Int) ∧ Hid (OwnI wr (w.heap.size + 2) s4 (encZ ((L.take k).map (· - 1)))) ∧ Hid (OwnI wr (w.heap.size + 2) s5 (oversTo L k)) ∧ Hid (Two wr s4 s5) ∧ Hid (Below (w.heap.size + 2) W wr)) (fun _ _ s13 _ => 5 - (intOf s13).toNat)
  case atStart => exact ⟨0, Nat.zero_le _, rfl, HO1, HO2, HTW, Lib.hid (Below.refl _ _)⟩
  case round =>
    obtain ⟨k, hk, rfl, ho4, ho5, htw, hb⟩ := hrel
    have HBW : Hid (Below w.heap.size w wr) := Lib.hid (HAL.out.trans (hb.out.mono (by omega)))
    have HSW : Hid (w.heap.size + 4 ≤ wr.heap.size) := Lib.hid (by have := hb.out.size; have := HSZ.out; omega)
    by_cases hlt : k < 5
    · obtain ⟨b, off, e, _, hc⟩ := (HRL.out.below HBW.out).at_ hlt
      cases e
      obtain ⟨x, hx⟩ : ∃ x, L.getD k 0 = x := ⟨_, rfl⟩
      rw [encZ_get, hx] at hc
      have hxt : x ≤ 1048576 := by rw [← hx]; exact HTOP.out k
      have HTK : Hid (encZ ((L.take (k + 1)).map (· - 1)) = encZ ((L.take k).map (· - 1)) ++ [((x - 1 : Nat) : Int)]) := Lib.hid (by rw [← hx]; exact tick_take (by rw [HLL.out]; exact hlt))
      obtain ⟨a4, n4, c4, rfl, hf4, hr4⟩ := ho4.out.form
      obtain ⟨a5, n5, c5, rfl, hf5, hr5⟩ := ho5.out.form
      have hn5 : n5 ≤ 5 := by rw [hr5.1]; have := overs_len L k; omega
      have hn4 : n4 ≤ 5 := by rw [hr4.1, encZ_len, List.length_map, List.length_take]; omega
      have HK := Lib.hid (show k + 1 ≤ 5 by omega)
      have hk5 : (k : Int) < 5 := by omega
      have HL4 : Hid ((encZ ((L.take k).map (· - 1))).length + 1 ≤ 1000000) := Lib.hid (by rw [← hr4.1]; omega)
      have HL5 : Hid ((oversTo L k).length + 1 ≤ 1000000) := Lib.hid (by rw [← hr5.1]; omega)
      clear hf4 hr4 hf5 hr5 hlt hk hn4 hn5
      by_cases h1 : x = 1
      · have HOV : Hid (oversTo L (k + 1) = oversTo L k ++ [(k : Int)]) := Lib.hid (overs_yes (by rw [hx]; exact h1))
        subst h1
        clear hx
        go_wp2_with (first
          | (at_builtin; refine wpList_appI_at rfl (.tmp 20) (.tmp 22) rfl (w.heap.size + 2) _ (oversTo L k) rfl (ho5.out.below ((Below.refl _ _).alloc (Nat.le_refl _) _)) _ 0 1 (k : Int) rfl (rdI_lit1_at _ _ _ rfl) HL5.out (by have := HSW.out; simp; omega) ?_; intro v8 w8 hown8 hgrow8 hat8; have hs8 : (wr.alloc (.cells #[.int .i64 (k : Int)] 3)).heap.size ≤ w8.heap.size := hgrow8.size; have HO8 : Hid (OwnI w8 (w.heap.size + 2) v8 (oversTo L (k + 1))) := Lib.hid (by rw [HOV.out]; exact hown8); have HO48 := Lib.hid ((htw.out.big (by simp)).kept (ho4.out.below ((Below.refl _ _).alloc (Nat.le_refl _) _)) hgrow8); have HTW8 := Lib.hid ((htw.out.big (w' := wr.alloc (.cells #[.int .i64 (k : Int)] 3)) (by simp)).more hown8 hs8 hat8); have HB8 : Hid (Below (w.heap.size + 2) W w8) := Lib.hid (View.own_grown (hb.out.alloc (by have := HSW.out; omega) _) (by have := HSW.out; simp; omega) hgrow8 (ho5.out.below ((Below.refl _ _).alloc (Nat.le_refl _) _))); have HSW8 : Hid (w.heap.size + 4 ≤ w8.heap.size) := Lib.hid (by have := HSW.out; simp at hs8; omega); clear hown8 hgrow8 hat8 hs8)
          | (at_builtin; refine wpList_appI_at rfl (.tmp 24) (.tmp 28) rfl (w.heap.size + 2) _ (encZ ((L.take k).map (· - 1))) rfl (HO48.out.below ((Below.refl _ _).alloc (Nat.le_refl _) _)) _ 0 1 0 rfl (rdI_lit1_at _ _ _ rfl) HL4.out (by have := HSW8.out; simp; omega) ?_; intro v9 w9 hown9 hgrow9 hat9; have hs9 : (w8.alloc (.cells #[.int .i64 0] 3)).heap.size ≤ w9.heap.size := hgrow9.size; have HO9 : Hid (OwnI w9 (w.heap.size + 2) v9 (encZ ((L.take (k + 1)).map (· - 1)))) := Lib.hid (by rw [HTK.out]; exact hown9); have HO59 := Lib.hid ((HTW8.out.swap.big (by simp)).kept (HO8.out.below ((Below.refl _ _).alloc (Nat.le_refl _) _)) hgrow9); have HTW9 := Lib.hid ((HTW8.out.swap.big (w' := w8.alloc (.cells #[.int .i64 0] 3)) (by simp)).more hown9 hs9 hat9).swap; have HB9 : Hid (Below (w.heap.size + 2) W w9) := Lib.hid (View.own_grown (HB8.out.alloc (by have := HSW8.out; omega) _) (by have := HSW8.out; simp; omega) hgrow9 (HO48.out.below ((Below.refl _ _).alloc (Nat.le_refl _) _))); clear hown9 hgrow9 hat9 hs9))
        go_roundw
        case rel => exact ⟨k + 1, HK.out, by go_num, HO9, HO59, HTW9, HB9⟩
        case measure => simp [intOf]; have := HK.out; omega
      · have HOV : Hid (oversTo L (k + 1) = oversTo L k) := Lib.hid (overs_no (by rw [hx]; exact h1))
        have hx1 : ((x : Int) == 1) = false := by simp; omega
        by_cases h0 : x = 0
        · subst h0
          clear hx h1 hx1
          go_wp2_with ((at_builtin; refine wpList_appI_at rfl (.tmp 24) (.tmp 28) rfl (w.heap.size + 2) _ (encZ ((L.take k).map (· - 1))) rfl (ho4.out.below ((Below.refl _ _).alloc (Nat.le_refl _) _)) _ 0 1 0 rfl (rdI_lit1_at _ _ _ rfl) HL4.out (by have := HSW.out; simp; omega) ?_; intro v9 w9 hown9 hgrow9 hat9; have hs9 : (wr.alloc (.cells #[.int .i64 0] 3)).heap.size ≤ w9.heap.size := hgrow9.size; have HO9 : Hid (OwnI w9 (w.heap.size + 2) v9 (encZ ((L.take (k + 1)).map (· - 1)))) := Lib.hid (by rw [HTK.out]; exact hown9); have HO59 := Lib.hid ((htw.out.swap.big (by simp)).kept (ho5.out.below ((Below.refl _ _).alloc (Nat.le_refl _) _)) hgrow9); have HTW9 := Lib.hid ((htw.out.swap.big (w' := wr.alloc (.cells #[.int .i64 0] 3)) (by simp)).more hown9 hs9 hat9).swap; have HB9 : Hid (Below (w.heap.size + 2) W w9) := Lib.hid (View.own_grown (hb.out.alloc (by have := HSW.out; omega) _) (by have := HSW.out; simp; omega) hgrow9 (ho4.out.below ((Below.refl _ _).alloc (Nat.le_refl _) _))); clear hown9 hgrow9 hat9 hs9))
          go_roundw
          case rel => exact ⟨k + 1, HK.out, by go_num, HO9, Lib.hid (by rw [HOV.out]; exact HO59.out), HTW9, HB9⟩
          case measure => simp [intOf]; have := HK.out; omega
        · have HY : Hid (((x - 1 : Nat) : Int) = (x : Int) - 1) := Lib.hid (by omega)
          rw [HY.out] at HTK
          have hg1 : ¬ (x : Int) - 1 < 0 := by omega
          have hg2 : (0 : Int) < (x : Int) - 1 := by omega
          have hg3 : (0 : Int) ≤ (x : Int) - 1 := by omega
          clear hx h1 h0
          go_wp2_with ((at_builtin; refine wpList_appI_at rfl (.tmp 24) (.tmp 28) rfl (w.heap.size + 2) _ (encZ ((L.take k).map (· - 1))) rfl (ho4.out.below ((Below.refl _ _).alloc (Nat.le_refl _) _)) _ 0 1 ((x : Int) - 1) rfl (rdI_lit1_at _ _ _ rfl) HL4.out (by have := HSW.out; simp; omega) ?_; intro v9 w9 hown9 hgrow9 hat9; have hs9 : (wr.alloc (.cells #[.int .i64 ((x : Int) - 1)] 3)).heap.size ≤ w9.heap.size := hgrow9.size; have HO9 : Hid (OwnI w9 (w.heap.size + 2) v9 (encZ ((L.take (k + 1)).map (· - 1)))) := Lib.hid (by rw [HTK.out]; exact hown9); have HO59 := Lib.hid ((htw.out.swap.big (by simp)).kept (ho5.out.below ((Below.refl _ _).alloc (Nat.le_refl _) _)) hgrow9); have HTW9 := Lib.hid ((htw.out.swap.big (w' := wr.alloc (.cells #[.int .i64 ((x : Int) - 1)] 3)) (by simp)).more hown9 hs9 hat9).swap; have HB9 : Hid (Below (w.heap.size + 2) W w9) := Lib.hid (View.own_grown (hb.out.alloc (by have := HSW.out; omega) _) (by have := HSW.out; simp; omega) hgrow9 (ho4.out.below ((Below.refl _ _).alloc (Nat.le_refl _) _))); clear hown9 hgrow9 hat9 hs9))
          go_roundw
          case rel => exact ⟨k + 1, HK.out, by go_num, HO9, Lib.hid (by rw [HOV.out]; exact HO59.out), HTW9, HB9⟩
          case measure => simp [intOf]; have := HK.out; omega
    · obtain rfl : k = 5 := by omega
      have HOF : Hid (OwnI wr (w.heap.size + 2) u4 (encZ (tickL L))) := Lib.hid (by have := ho4.out; rw [List.take_of_length_le (by rw [HLL.out]; decide)] at this; exact this)
      have HOV : Hid (OwnI wr w.heap.size u5 (oversL L)) := Lib.hid (View.own_base ho5.out (by omega))
      have hl5 : (encZ (tickL L)).length = 5 := by rw [encZ_len, tickL, List.length_map, HLL.out]
      have hz : wr.heap[w.heap.size + 1]? = some (.cells #[.slice none 0 0, .slice none 0 0] 34 (0, 0)) := (hb.out.block _ (by have := HSZ.out; omega)).trans HZ.out
      have hbx := (hb.out.block w.heap.size (by have := HSZ.out; omega)).trans HBX.out
      have c0 : wr.cell? ⟨w.heap.size, 0, none⟩ = some (.slice (some ⟨gT, oT, none⟩) 5 cT) := (cell_of_row _ _ _ _ _ _ hbx).trans rfl
      obtain ⟨g4, c4, rfl, hg4, _⟩ := own_block HOF.out (by rw [hl5]; decide)
      rw [hl5] at HOF ⊢
      clear hk hlt hbx
      go_wp2_with (refine wpList_store_row rfl 34 _ _ rfl (w.heap.size + 1) #[.slice (some ⟨gT, oT, none⟩) 5 cT, .slice (some ⟨g4, 0, none⟩) 5 c4] rfl rfl 34 _ hz ref_info rfl (by simp [Value.oneCell']) ?_)
      refine bodyPost_ret (results_row_tmp rfl _ _ (w.heap.size + 1) 34 _ (0, 0) _ rfl (setRow_heap _ _ _ _ 34 (0, 0) hz) Try.underlying34 rfl ref_info) rfl ?_
      refine ⟨_, u5, rfl, ?_, ?_, below_setRow HBW.out (by omega) _⟩
      · exact Five.own (own_setRow HOF.out (by omega)) (by rw [tickL, List.length_map, HLL.out]) (fun b hb => by have := HX.out b hb; omega)
      · exact View.own_base (own_setRow (κ := .i64) (τ := 3) ho5.out (by omega)) (by omega)
set_option maxRecDepth 100000 in
set_option maxHeartbeats 4000000 in
theorem rsafe_any (hL : Five w X vL L) (hT : Five w X vT K) :
    Calls Try.prog 18 #[.agg #[vT, vL]] w fun e w' => e = .returned (.bool (safeL L)) ∧ Below w.heap.size w w' := by
  obtain ⟨gT, oT, cT, rfl, _, _⟩ := hT
  obtain ⟨gL, oL, cL, rfl, _, hrL⟩ := hL
  obtain ⟨x1, h1⟩ : ∃ x, L.getD 1 0 = x := ⟨_, rfl⟩
  obtain ⟨x2, h2⟩ : ∃ x, L.getD 2 0 = x := ⟨_, rfl⟩
  obtain ⟨x3, h3⟩ : ∃ x, L.getD 3 0 = x := ⟨_, rfl⟩
  have hcell : ∀ i, i < 5 → (w.alloc (.cells #[.slice (some ⟨gT, oT, none⟩) 5 cT, .slice (some ⟨gL, oL, none⟩) 5 cL] 34)).cell? ⟨gL, oL + i, none⟩ = some (.int .i64 ((L.getD i 0 : Nat) : Int)) := fun i hi => by
    obtain ⟨b, off, e, _, hc⟩ := (hrL.alloc (.cells #[.slice (some ⟨gT, oT, none⟩) 5 cT, .slice (some ⟨gL, oL, none⟩) 5 cL] 34)).at_ hi
    cases e
    rw [encZ_get] at hc
    exact hc
  have k1 := hcell 1 (by decide)
  have k2 := hcell 2 (by decide)
  have k3 := hcell 3 (by decide)
  rw [h1] at k1
  rw [h2] at k2
  rw [h3] at k3
  have hs : safeL L = (decide (x3 = 0) || ((decide (0 < x1) && decide (x1 < x3)) || (decide (0 < x2) && decide (x2 < x3)))) := by
    unfold safeL aheadL; rw [h1, h2, h3, Bool.decide_and, Bool.decide_and]
  rw [hs]
  clear hcell h1 h2 h3 hrL hs
  by_cases h0 : x3 = 0
  · subst h0
    go_enter Try.func18, Try.ntmps18
    go_wp2_with fail
    go_ret
    exact ⟨rfl, (Below.refl _ w).alloc (Nat.le_refl _) _⟩
  · have hd0 : ((x3 : Int) == 0) = false := by simp; omega
    rw [decide_eq_false h0]
    clear h0
    obtain ⟨b1, e1⟩ : ∃ b, decide (0 < x1) = b := ⟨_, rfl⟩
    obtain ⟨b2, e2⟩ : ∃ b, decide (x1 < x3) = b := ⟨_, rfl⟩
    obtain ⟨b3, e3⟩ : ∃ b, decide (0 < x2) = b := ⟨_, rfl⟩
    obtain ⟨b4, e4⟩ : ∃ b, decide (x2 < x3) = b := ⟨_, rfl⟩
    rw [e1, e2, e3, e4]
    cases b1 <;> cases b2 <;> cases b3 <;> cases b4
    all_goals
      go_enter Try.func18, Try.ntmps18
      go_wp2_with fail
      go_ret
      exact ⟨by first | rfl | simp [e1, e2, e3, e4], (Below.refl _ w).alloc (Nat.le_refl _) _⟩
end
theorem rnew_any (X : Nat → Prop) (K : List Nat) (vT : Value) (w : World) (hX : ∀ b, X b → b < w.heap.size) (hT : Five w X vT K) :
    Calls Try.prog 11 #[vT] w fun e w' => ∃ v, e = .returned (.agg #[vT, v]) ∧ Five w' X v zeroL ∧ Below w.heap.size w w' := by
  obtain ⟨gT, oT, cT, rfl, _, _⟩ := hT
  go_enter Try.func11, Try.ntmps11
  go_wp2_with fail
  refine bodyPost_ret (results_cell_row rfl _ _ w.heap.size 34 _ (0, 0) _ rfl (heap_alloc2_old w _ _) Try.underlying34 rfl ref_info) rfl ?_
  exact ⟨_, rfl, ⟨w.heap.size + 1, 0, 5, rfl, (fun h => by have := hX _ h; omega), rd_lit _ [0, 0, 0, 0, 0] _ _ rfl _ (by simp)⟩, ((Below.refl _ w).alloc (Nat.le_refl _) _).alloc (by simp) _⟩
end Go.Proofs.Ytlfjndjbfbejkaa.Pace
