/-
  Gaps: a set's pairs.
-/
import Derived.Test.YtdnikjjcgoilfaaGaps5
import Derived.Test.YtdnikjjcgoilfaaSetOf
import Derived.Test.YtdnikjjcgoilfaaSpanBoth
import Derived.Test.YtdnikjjcgoilfaaSpanList
import Derived.Deep.RegionHeld3
import Derived.Deep.DeepCutAuto
namespace Go.Proofs.Ytdnikjjcgoilfaa.Gaps
open Go.ChangeShapes Go.WideShapes Go.RowKit SpanMath
open SpanCalls (Box)

def pairB (b : Int) (x : Sp) : List Int := [(b + x.1) % 16777216, (b + x.2) % 16777216]
def flatB (b : Int) (R : List Sp) : List Int := R.flatMap (pairB b)
theorem flatB_snoc (b : Int) (R : List Sp) (x : Sp) : flatB b (R ++ [x]) = flatB b R ++ pairB b x := by simp [flatB]
theorem flatB_len (b : Int) (R : List Sp) : (flatB b R).length = 2 * R.length := by
  induction R with
  | nil => rfl
  | cons x R ih => simp only [flatB, List.flatMap_cons, List.length_append, List.length_cons] at ih ⊢; rw [ih]; simp [pairB]; omega
theorem rdU_lit2_at (w : World) (a b : Int) (g : Nat) (hg : g = w.heap.size) : Own.RdI .u32 (w.alloc (.cells #[.int .u32 a, .int .u32 b] 28)) (some ⟨g, 0, none⟩) 2 [a, b] := by
  subst hg
  exact ⟨rfl, fun _ => ⟨_, 0, rfl, by simp, fun i hi => by
    rcases (show i = 0 ∨ i = 1 by omega) with rfl | rfl <;> simp⟩⟩
theorem whole_set : IsSet [(0, 8388609)] (inSp [(0, 8388609)]) := by
  refine ⟨⟨List.pairwise_singleton _ _, by simp⟩, fun n => mem_nums⟩

theorem grown_box {W w5 : World} {o : Obj} {row : Option Nat} {gx q : Nat} {X : Obj} (hblk : W.heap[gx]? = some X) (hg : ((W.drewN q).alloc o).grownBy w5 row) (hne : some gx ≠ row) : w5.heap[gx]? = some X := by
  have hlt : gx < W.heap.size := (Array.getElem?_eq_some_iff.1 hblk).1
  have hb : Below W.heap.size W ((W.drewN q).alloc o) := ((Own.below_drewN (Below.refl _ W) q)).alloc (Nat.le_refl _) _
  exact ((hg.block gx (by simp; omega) hne).trans (hb.block gx hlt)).trans hblk
set_option maxRecDepth 100000 in
set_option maxHeartbeats 4000000 in
theorem glist_any (b : Int) (a : Option Addr) (n cap : Nat) (D S R : List Sp) (w : World) (h : View.RdS w a n D) (hf : View.Fit a n cap) (hd : SpanCalls.Near D) (hS : IsSet S (inSp D)) (hS2 : S.length ≤ 10000)
    (hR : IsSet R fun z => z ∈ nums S ∧ z ∈ nums [(0, 8388609)]) (hR2 : R.length ≤ 10000) :
    Calls Try.prog 13 #[.int .u32 b, .slice a n cap] w fun e w' => ∃ v, e = .returned v ∧ Own.OwnI .u32 28 w' w.heap.size v (flatB b R) ∧ Below w.heap.size w w' := by
  have HD := Lib.hid h
  have HF := Lib.hid hf
  have HN := Lib.hid hd
  have HS := Lib.hid hS
  have HR := Lib.hid hR
  have HS2 := Lib.hid hS2
  have HR2 := Lib.hid hR2
  have hb0 : Below w.heap.size w (w.alloc (.cells #[.int .i64 0, .int .i64 8388609] 56)) := (Below.refl _ _).alloc (Nat.le_refl _) _
  have HB0 := Lib.hid hb0
  clear h hf hd hS hR hS2 hR2 hb0
  go_enter Try.func13, Try.ntmps13
  go_wp2_with fail
  refine (SpanCalls.of_any _ 1 1 [(0, 8388609)] [(0, 8388609)] _ (View.rdS_lit1 w 0 8388609) ⟨Nat.le_refl _, by unfold maxLen; omega, fun h => by cases h⟩ ⟨by simp, by simp⟩ whole_set).mono ?_; rintro e w1 ⟨v1, rfl, ho1, hb1⟩
  have HB1 := Lib.hid (HB0.out.trans (hb1.mono HB0.out.size))
  have HO1 := Lib.hid ho1
  have HV1 := Lib.hid ho1.form
  clear ho1 hb1
  go_wp2_with fail
  refine (SpanCalls.of_any a n cap D S _ (HD.out.below HB1.out) HF.out HN.out HS.out).mono ?_; rintro e w2 ⟨v2, rfl, ho2, hb2⟩
  have HB2 := Lib.hid (HB1.out.trans (hb2.mono HB1.out.size))
  obtain ⟨a1, n1, c1, rfl, hf1, hr1⟩ := HV1.out
  obtain ⟨a2, n2, c2, rfl, hf2, hr2⟩ := ho2.form
  have HR1 := Lib.hid (hr1.below hb2)
  have HR2' := Lib.hid hr2
  have HF1 := Lib.hid hf1
  have HF2 := Lib.hid hf2
  clear ho2 hb2 hf1 hr1 hf2 hr2
  go_wp2_with fail
  refine (SpanCalls.both_any a2 n2 c2 S a1 n1 c1 [(0, 8388609)] R _ HR2'.out HR1.out HF2.out HF1.out (by have := HR2'.out.1; have := HS2.out; omega) (by have := HR1.out.1; simp at this; omega) HS.out.1 whole_set.1 HR.out).mono ?_
  rintro e w3 ⟨v3, rfl, ho3, hb3⟩
  have HB3 := Lib.hid (HB2.out.trans (hb3.mono HB2.out.size))
  obtain ⟨a3, n3, c3, rfl, hf3, hr3⟩ := ho3.form
  have HR3 := Lib.hid hr3
  have hn3 : n3 = R.length := hr3.1
  have HN3 := Lib.hid hn3
  have HC3 := Lib.hid hf3
  clear ho3 hb3 hf3 hr3 hn3
  go_wp2_with fail
  have HW3 : Hid (w.heap.size ≤ w3.heap.size) := Lib.hid HB3.out.size
  go_loopw [6, 17] (fun s6 s17 wr => ∃ (k : Nat), k ≤ n3 ∧ s17 = .int .i64 (k : Int) ∧ Hid (Own.OwnI .u32 28 wr w3.heap.size s6 (flatB b (R.take k))) ∧ Hid (Below w3.heap.size w3 wr)) (fun _ s17 _ => n3 - (intOf s17).toNat)
  case atStart => exact ⟨0, Nat.zero_le _, rfl, Lib.hid Own.OwnI.nil, Lib.hid (Below.refl _ _)⟩
  case round =>
    obtain ⟨k, hk, rfl, ho, hb⟩ := hrel
    by_cases hlt : k < n3
    · obtain ⟨bb, off, rfl, hbl, hx, hy⟩ := (HR3.out.below hb.out).at_ hlt
      obtain ⟨x, hxx⟩ : ∃ x, R.getD k (0, 0) = x := ⟨_, rfl⟩
      rw [hxx] at hx hy
      obtain ⟨av, nv, cv, rfl, _, _⟩ := ho.out.form
      have HXX := Lib.hid hxx
      have HLT := Lib.hid hlt
      have hki : (k : Int) < (n3 : Int) := by omega
      have hkk : (k : Int) ≤ 10000 := by have := HN3.out; have := HR2.out; omega
      clear hxx hlt hk
      go_wp2_with fail
      obtain ⟨x1, x2⟩ := x
      have hbx : Below wr.heap.size wr (wr.alloc (.cells #[.int .i64 x1, .int .i64 x2] 56)) := (Below.refl _ _).alloc (Nat.le_refl _) _
      have hblk : (wr.alloc (.cells #[.int .i64 x1, .int .i64 x2] 56)).heap[wr.heap.size]? = some (.cells #[.int .i64 x1, .int .i64 x2] 56 (0, 0)) := heap_alloc_new wr _
      have HO4 := Lib.hid (ho.out.below hbx)
      have HNE : Hid (some wr.heap.size ≠ (Value.slice av nv cv).ownBlock) := Lib.hid (fun e => by have := (own_lt ho.out _ e.symm).2; omega)
      have HB4 := Lib.hid (hb.out.trans (hbx.mono hb.out.size))
      change Code.wp _ _ _ _ (wr.alloc (.cells #[.int .i64 x1, .int .i64 x2] 56))
      clear hx hy hbx
      generalize wr.alloc (.cells #[.int .i64 x1, .int .i64 x2] 56) = W at *
      generalize wr.heap.size = gx at *
      have k0 : W.cell? ⟨gx, 0, none⟩ = some (.int .i64 x1) := Go.Joins.cell_of_block hblk 0
      have k1 : W.cell? ⟨gx, 1, none⟩ = some (.int .i64 x2) := Go.Joins.cell_of_block hblk 1
      have HBLK := Lib.hid hblk
      clear hblk
      have HLEN : Hid ((flatB b (R.take k)).length + 2 ≤ 1000000) := Lib.hid (by rw [flatB_len, List.length_take]; have := HR2.out; omega)
      have HWS : Hid (w3.heap.size ≤ W.heap.size) := Lib.hid HB4.out.size
      go_region_held3 (fun w' => w'.cell? ⟨gx, 0, none⟩ = some (.int .i64 x1) ∧ w'.cell? ⟨gx, 1, none⟩ = some (.int .i64 x2))
        (first | (with_reducible assumption) | exact ⟨k0, k1⟩ | exact ⟨r0, r1⟩ | go_keep)
        (first
          | (go_at_call 18
             refine (SeqCalls.add_any _ _ _).mono ?_
             rintro e w' ⟨rfl, rfl⟩)
          | (refine Own.step_appI infoU (by decide) rfl (.tmp 21) (.tmp 30) 32 rfl Try.underlying32 w3.heap.size _ _ rfl (HO4.out.below (((Below.refl _ _).drew).alloc (by simp) _)) _ 2 2 [_, _] rfl (rdU_lit2_at _ _ _ _ (by simp)) (fun h => by cases h) HLEN.out (by have := HWS.out; simp; omega) ?_
             intro v5 w5 hown5 hgrow5
             (have hblk5 := grown_box (q := 1) HBLK.out hgrow5 HNE.out)
             (have r0 : w5.cell? ⟨gx, 0, none⟩ = some (.int .i64 x1) := Go.Joins.cell_of_block hblk5 0)
             (have r1 : w5.cell? ⟨gx, 1, none⟩ = some (.int .i64 x2) := Go.Joins.cell_of_block hblk5 1)))
      all_goals
        have HO5 : Hid (Own.OwnI .u32 28 w5 w3.heap.size v5 (flatB b (R.take (k + 1)))) := Lib.hid (by
          rw [View.take_succ' R (0, 0) k (by have := HLT.out; have := HN3.out; omega), HXX.out, flatB_snoc]
          exact hown5)
        have HB5 : Hid (Below w3.heap.size w3 w5) := Lib.hid (Own.own_grown (w := ((W.alloc (.cells #[.int .u32 ((b + x1) % 16777216), .int .u32 ((b + x2) % 16777216)] 28))).drew) ((HB4.out.alloc HWS.out _).drew) (by have := HWS.out; show _ ≤ (W.alloc _).heap.size; simp; omega) hgrow5 (Own.OwnI.below HO4.out (((Below.refl _ _).alloc (Nat.le_refl _) _).drew)))
        clear hown5 hgrow5 hblk5 r0 r1 k0 k1
        go_wp2_with fail
        go_roundw
        case rel => exact ⟨k + 1, HLT.out, by go_num, HO5, HB5⟩
        case measure => simp [intOf]; have := HLT.out; omega
    · obtain rfl : k = n3 := by omega
      have HE : Hid (R.take k = R) := Lib.hid (List.take_of_length_le (by have := HN3.out; omega))
      clear hk hlt
      go_wp2_with fail
      go_ret
      exact ⟨_, rfl, by rw [← HE.out]; exact ho.out.lower HW3.out, HB3.out.trans (hb.out.mono HW3.out)⟩
end Go.Proofs.Ytdnikjjcgoilfaa.Gaps
