/-
  One span more, behind those that are there, in the memory of the set in the making.
-/
import Derived.Test.YtdnikjjcgoilfaaSpanSmall
import Derived.StillTailTactics
import Derived.BigQuiet
import Derived.Deep.QuietTactic
import Derived.Maps.AppendAt
namespace Go.Proofs.Ytdnikjjcgoilfaa.SpanCalls
open Go.RowKit SpanMath View

theorem grown_of_below {w w' : World} (h : Below w.heap.size w w') (row : Option Nat) : w.grownBy w' row := ⟨h.os, h.tape, h.output, h.size, fun i hi _ => h.block i hi⟩

theorem ownS_last {w : World} {base : Nat} {v : Value} {S : List Sp} {y : Sp} (h : OwnS w base v (S ++ [y])) :
    ∃ g n cap, v = .slice (some ⟨g, 0, none⟩) n cap ∧ (n : Int) - 1 = (S.length : Int) ∧ n ≤ cap ∧ base ≤ g ∧ g < w.heap.size ∧
      w.cell? ⟨g, S.length * 2, none⟩ = some (.int .i64 y.1) ∧ w.cell? ⟨g, S.length * 2 + 1, none⟩ = some (.int .i64 y.2) ∧ w.frozen? ⟨g, S.length * 2 + 1, none⟩ = false ∧
      ∀ u, OwnS (w.setCell ⟨g, S.length * 2 + 1, none⟩ (.int .i64 u)) base (.slice (some ⟨g, 0, none⟩) n cap) (S ++ [(y.1, u)]) ∧ w.grownBy (w.setCell ⟨g, S.length * 2 + 1, none⟩ (.int .i64 u)) (some g) := by
  have hl : (S ++ [y]).length = S.length + 1 := by simp
  obtain ⟨a, cap, rfl, hf, hc⟩ := own_form h
  obtain ⟨g, rfl, hg1, hg2, hcell⟩ := hc (by omega)
  have hat := encS_at (S ++ [y]) S.length (by omega)
  have hgd : (S ++ [y]).getD S.length (0, 0) = y := by simp [List.getD]
  rw [hgd] at hat
  refine ⟨g, _, cap, rfl, by rw [hl]; omega, hf.1, hg1, hg2, hcell _ _ hat.1, hcell _ _ hat.2, World.ownsRow.frozenAt h _, fun u => ?_⟩
  obtain ⟨h1, hgr⟩ := World.ownsRow.stored h (S.length * 2 + 1) (.int .i64 u)
  have e : (encS (S ++ [y])).set (S.length * 2 + 1) (.int .i64 u) = encS (S ++ [(y.1, u)]) := by
    rw [encS_append, encS_append, List.set_append_right _ _ (by rw [encS_len]; omega), encS_len, show S.length * 2 + 1 - S.length * 2 = 1 from by omega]
    rfl
  rw [e] at h1
  have hl2 : (S ++ [(y.1, u)]).length = (S ++ [y]).length := by simp
  refine ⟨?_, hgr⟩
  unfold OwnS
  rw [hl2]
  exact h1

set_option maxRecDepth 100000 in
theorem join_none_any (base : Nat) (v : Value) (S : List Sp) (x1 x2 : Int) (w : World) (hb : base ≤ w.heap.size) (h : OwnS w base v S) (hx : x2 ≤ x1) :
    Calls Try.prog 34 #[v, .agg #[.int .i64 x1, .int .i64 x2]] w fun e w' => e = .returned v ∧ OwnS w' base v S ∧ w.grownBy w' v.ownBlock ∧ Below base w w' := by
  go_enter Try.func34, Try.ntmps34
  go_wp2_with fail
  go_ret
  exact ⟨rfl, h.below ((Below.refl _ w).alloc (Nat.le_refl _) _), World.grownBy_alloc w _ _, (Below.refl _ w).alloc hb _⟩

/-- a world with a span in a box of its own, some draws on -/
def Boxed (w : World) (x1 x2 : Int) (W : World) : Prop :=
  Below w.heap.size w W ∧ w.heap.size < W.heap.size ∧ W.cell? ⟨w.heap.size, 0, none⟩ = some (.int .i64 x1) ∧ W.cell? ⟨w.heap.size, 1, none⟩ = some (.int .i64 x2)
theorem boxed (w : World) (x1 x2 : Int) (q : Nat) : Boxed w x1 x2 ((w.alloc (.cells #[.int .i64 x1, .int .i64 x2] 56)).drewN q) :=
  ⟨below_drewN ((Below.refl _ w).alloc (Nat.le_refl _) _) q, by simp, by simp, by simp⟩

set_option maxRecDepth 100000 in
set_option maxHeartbeats 1000000 in
theorem join_any (base : Nat) (v : Value) (S : List Sp) (x1 x2 : Int) (w : World) (hb : base ≤ w.heap.size) (h : OwnS w base v S) (hs : S.length ≤ 100000) :
    Calls Try.prog 34 #[v, .agg #[.int .i64 x1, .int .i64 x2]] w fun e w' => ∃ v', e = .returned v' ∧ OwnS w' base v' (join S (x1, x2)) ∧ w.grownBy w' v.ownBlock ∧ Below base w w' := by
  by_cases hx : x2 ≤ x1
  · rw [join_none S (x1, x2) hx]
    exact (join_none_any base v S x1 x2 w hb h hx).mono fun e w' ⟨h1, h2, h3, h4⟩ => ⟨v, h1, h2, h3, h4⟩
  have hx' : x1 < x2 := by omega
  clear hx
  rcases List.eq_nil_or_concat S with rfl | ⟨S', y, rfl⟩
  · rw [join_first (x1, x2) hx']
    obtain ⟨a, cap, rfl, hf, _⟩ := own_form h
    have HF := Lib.hid hf
    clear hf
    have hd : decide ((0 : Int) < (([] : List Sp).length : Nat)) = false := by simp
    simp only [List.length_nil] at hd
    have HO := Lib.hid h
    clear h
    go_enter Try.func34, Try.ntmps34
    go_wp2_with fail
    go_quiet (fail)
    have hbx := boxed w x1 x2 nq
    generalize (w.alloc (.cells #[.int .i64 x1, .int .i64 x2] 56)).drewN nq = W at *
    obtain ⟨hbw, hz, hx1, hx2⟩ := hbx
    have hbase : Below base w W := hbw.mono hb
    have hsz := hbase.size
    go_wp2_with (at_builtin; refine wpList_appS rfl (.tmp 42) (.tmp 44) 30 rfl Try.underlying30 base _ [] rfl ((HO.out.below hbw).below ((Below.refl _ _).alloc (Nat.le_refl _) _)) _ 1 1 [(x1, x2)] rfl (rdS_lit1 _ x1 x2) (fun h => by cases h) (by simp) (by simp; omega) ?_)
    intro v' w1 hown' hgrow
    have hb' : Below base w w1 := own_grown (hbase.alloc (by omega) _) (by simp; omega) hgrow (own_below (own_below HO.out hbw) ((Below.refl _ _).alloc (Nat.le_refl _) _))
    have hgr := (grown_of_below hbw _).trans ((World.grownBy_alloc W _ _).trans hgrow)
    clear hgrow
    go_wp2_with fail
    go_ret
    exact ⟨_, rfl, by simpa using hown', hgr, hb'⟩
  · rw [List.concat_eq_append] at h hs ⊢
    obtain ⟨g, n, cap, rfl, hn1, hn2, hg1, hg2, hc1, hc2, hfz, hst⟩ := ownS_last h
    obtain ⟨y1, y2⟩ := y
    simp only at hc1 hc2 hst
    have hm0 : S'.length ≤ 100000 := by simp at hs; omega
    have HO := Lib.hid h
    clear h
    obtain ⟨m, hm⟩ : ∃ m, S'.length = m := ⟨_, rfl⟩
    by_cases hy : x1 ≤ y2
    · rw [join_last S' (y1, y2) (x1, x2) hx' hy]
      have HM := Lib.hid hm
      rw [hm] at hn1 hc1 hc2 hfz hm0
      have hn3 : (m : Int) < (n : Int) := by omega
      have hn4 : (0 : Int) < (n : Int) := by omega
      have hn5 : decide (0 < n) = true := decide_eq_true (by omega)
      clear hm hst
      go_enter Try.func34, Try.ntmps34
      go_wp2_with fail
      go_quiet (fail)
      have hbx := boxed w x1 x2 nq
      generalize (w.alloc (.cells #[.int .i64 x1, .int .i64 x2] 56)).drewN nq = W at *
      obtain ⟨hbw, hz, hx1, hx2⟩ := hbx
      have hbase : Below base w W := hbw.mono hb
      have hsz := hbase.size
      have hc1' := (cell_below hbw hg2).trans hc1
      have hc2' := (cell_below hbw hg2).trans hc2
      have hfz' : W.frozen? ⟨g, m * 2 + 1, none⟩ = false := (hbw.frozen (p := ⟨g, m * 2 + 1, none⟩) hg2).trans hfz
      obtain ⟨g', n', cap', e, _, _, _, _, _, _, _, hst'⟩ := ownS_last (HO.out.below hbw)
      cases e
      simp only at hst'
      rw [HM.out] at hst'
      have HST := Lib.hid hst'
      clear hst' hc1 hc2 hfz
      go_wp2_with fail
      have hwr : IntKind.i64.wrap (m : Int) = (m : Int) := by rw [IntKind.wrap_i64]; omega
      go_still_tail 14, (by kernel_rfl)
      change wpList _ _ _ _ _ W.drew
      go_wp2_with fail
      go_ret
      exact ⟨_, rfl, (HST.out _).1.below (below_drewN (Below.refl _ _) 1), (grown_of_below hbw _).trans ((HST.out _).2.trans (grown_of_below (below_drewN (Below.refl _ _) 1) _)), (below_drewN (hbase.setCell (p := ⟨g, m * 2 + 1, none⟩) hg1 _) 1)⟩
    · have hy' : y2 < x1 := by omega
      rw [join_new S' (y1, y2) (x1, x2) hx' hy']
      rw [hm] at hn1 hc1 hc2 hfz hm0
      have hn3 : (m : Int) < (n : Int) := by omega
      have hn4 : (0 : Int) < (n : Int) := by omega
      have hn5 : decide (0 < n) = true := decide_eq_true (by omega)
      have HM := Lib.hid hm
      clear hm hst hy
      go_enter Try.func34, Try.ntmps34
      go_wp2_with fail
      go_quiet (fail)
      have hbx := boxed w x1 x2 nq
      generalize (w.alloc (.cells #[.int .i64 x1, .int .i64 x2] 56)).drewN nq = W at *
      obtain ⟨hbw, hz, hx1, hx2⟩ := hbx
      have hbase : Below base w W := hbw.mono hb
      have hsz := hbase.size
      clear hc1 hc2 hfz
      go_wp2_with (at_builtin; refine wpList_appS rfl (.tmp 42) (.tmp 44) 30 rfl Try.underlying30 base _ (S' ++ [(y1, y2)]) rfl ((HO.out.below hbw).below ((Below.refl _ _).alloc (Nat.le_refl _) _)) _ 1 1 [(x1, x2)] rfl (rdS_lit1 _ x1 x2) (fun h => by cases h) (by simp at hs ⊢; omega) (by simp; omega) ?_)
      intro v' w1 hown' hgrow
      have hb' : Below base w w1 := own_grown (hbase.alloc (by omega) _) (by simp; omega) hgrow (own_below (own_below HO.out hbw) ((Below.refl _ _).alloc (Nat.le_refl _) _))
      have hgr := (grown_of_below hbw _).trans ((World.grownBy_alloc W _ _).trans hgrow)
      clear hgrow
      go_wp2_with fail
      go_ret
      exact ⟨_, rfl, by simpa using hown', hgr, hb'⟩
end Go.Proofs.Ytdnikjjcgoilfaa.SpanCalls
