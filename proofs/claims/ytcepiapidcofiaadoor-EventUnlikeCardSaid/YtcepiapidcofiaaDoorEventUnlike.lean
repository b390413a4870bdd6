/-
  EventUnlike is proved: signals that are unlike in what is named have unlike texts; for every input the law returns true.
-/
import Derived.Test.YtcepiapidcofiaaDoorLaid
import Derived.Test.YtcepiapidcofiaaDoorCards
import Derived.Test.YtcepiapidcofiaaDoorEvInj
import Derived.Laws.StructEq
namespace Go.Proofs.YtcepiapidcofiaaDoor.eventUnlike
open Go.ChangeShapes Go.WideShapes Go.ChangeAt Go.RowKit
set_option linter.unusedVariables false      -- a walk need not use every bound of an argument

open Ev Own
theorem ba_ne {X Y : ByteArray} (h : X ≠ Y) : (X.toList == Y.toList) = false :=
  beq_eq_false_iff_ne.2 (fun e => h (ByteArray.ext (Array.toList_inj.1 (by rw [← ByteArray.toList_eq, ← ByteArray.toList_eq]; exact e))))
theorem cells5 {W : World} {g : Nat} {a b c d e : Value} {t : TypeId} (h : W.heap[g]? = some (.cells #[a, b, c, d, e] t (0, 0))) :
    W.cell? ⟨g, 0, none⟩ = some a ∧ W.cell? ⟨g, 1, none⟩ = some b ∧ W.cell? ⟨g, 2, none⟩ = some c ∧ W.cell? ⟨g, 3, none⟩ = some d ∧ W.cell? ⟨g, 4, none⟩ = some e :=
  ⟨Go.Joins.cell_of_block h 0, Go.Joins.cell_of_block h 1, Go.Joins.cell_of_block h 2, Go.Joins.cell_of_block h 3, Go.Joins.cell_of_block h 4⟩
theorem unfrozen5 {W : World} {g : Nat} {cs : Array Value} {t : TypeId} (h : W.heap[g]? = some (.cells cs t (0, 0))) :
    W.frozen? ⟨g, 0, none⟩ = false ∧ W.frozen? ⟨g, 1, none⟩ = false ∧ W.frozen? ⟨g, 2, none⟩ = false ∧ W.frozen? ⟨g, 3, none⟩ = false ∧ W.frozen? ⟨g, 4, none⟩ = false :=
  ⟨frozen_of_row _ _ _ _ _ h, frozen_of_row _ _ _ _ _ h, frozen_of_row _ _ _ _ _ h, frozen_of_row _ _ _ _ _ h, frozen_of_row _ _ _ _ _ h⟩
/-- five cells of a block, written one by one -/
def put5 (W : World) (g : Nat) (v0 v1 v2 v3 v4 : Value) : World := ((((W.setCell ⟨g, 0, none⟩ v0).setCell ⟨g, 1, none⟩ v1).setCell ⟨g, 2, none⟩ v2).setCell ⟨g, 3, none⟩ v3).setCell ⟨g, 4, none⟩ v4
theorem put5_eq (W : World) (g : Nat) (v0 v1 v2 v3 v4 : Value) : ((((W.setCell ⟨g, 0, none⟩ v0).setCell ⟨g, 1, none⟩ v1).setCell ⟨g, 2, none⟩ v2).setCell ⟨g, 3, none⟩ v3).setCell ⟨g, 4, none⟩ v4 = put5 W g v0 v1 v2 v3 v4 := rfl
theorem put5_blk {W : World} {g : Nat} {o0 o1 o2 o3 o4 : Value} {t : TypeId} (h : W.heap[g]? = some (.cells #[o0, o1, o2, o3, o4] t (0, 0))) (v0 v1 v2 v3 v4 : Value) : (put5 W g v0 v1 v2 v3 v4).heap[g]? = some (.cells #[v0, v1, v2, v3, v4] t (0, 0)) := by
  have h0 := Go.Joins.block_setCell (i := 0) h v0
  have h1 := Go.Joins.block_setCell (i := 1) h0 v1
  have h2 := Go.Joins.block_setCell (i := 2) h1 v2
  have h3 := Go.Joins.block_setCell (i := 3) h2 v3
  have h4 := Go.Joins.block_setCell (i := 4) h3 v4
  simpa [put5] using h4
theorem put5_below {W w0 : World} {g B : Nat} (hB : B ≤ g) (hb : Below B w0 W) (v0 v1 v2 v3 v4 : Value) : Below B w0 (put5 W g v0 v1 v2 v3 v4) := ((((hb.setCell hB _).setCell hB _).setCell hB _).setCell hB _).setCell hB _
theorem put5_other {W : World} {g j : Nat} (hj : j ≠ g) (v0 v1 v2 v3 v4 : Value) : (put5 W g v0 v1 v2 v3 v4).heap[j]? = W.heap[j]? := by
  unfold put5
  rw [heap_setCell_other _ _ _ _ hj, heap_setCell_other _ _ _ _ hj, heap_setCell_other _ _ _ _ hj, heap_setCell_other _ _ _ _ hj, heap_setCell_other _ _ _ _ hj]
set_option maxRecDepth 100000 in
set_option maxHeartbeats 8000000 in
theorem walk (w : World) (v : Value) (x : Base.Dat) (h0 : Base.RdV w (.struct [.int .i64, .str, .bool, .int .u8, .int .i64]) x v) (v' : Value) (x' : Base.Dat) (h0' : Base.RdV w (.struct [.int .i64, .str, .bool, .int .u8, .int .i64]) x' v') (hL : laidMetH Tryd.prog Rows.eventUnlikeRow.laid w) :
    Calls Tryd.prog 3 #[v, v'] w fun e w' => e = .returned (.bool true) ∧ Below w.heap.size w w' := by
  obtain ⟨k, d, sf, c, n, rfl, hcd, _, _, hn1, hn2, _⟩ := open_sig w v x h0
  obtain ⟨k', d', sf', c', n', rfl, hcd', _, _, hn1', hn2', _⟩ := open_sig w v' x' h0'
  have HT := Lib.hid (tabs_laid (by kernel_rfl) hL (by simp [Rows.eventUnlikeRow]) (by simp [Rows.eventUnlikeRow]) (by simp [Rows.eventUnlikeRow]))
  clear hL h0 x h0' x'
  have HC := Lib.hid (And.intro hcd hcd')
  have HN := Lib.hid (And.intro (And.intro hn1 hn2) (And.intro hn1' hn2'))
  obtain ⟨t, ht1, ht2, _, ht12⟩ := kind_at k
  obtain ⟨t', ht1', ht2', _, ht12'⟩ := kind_at k'
  have HBARE := Lib.hid (fun (W : World) => bare_any k d sf c n W t ht1 ht2 ht12 hcd)
  have HBARE' := Lib.hid (fun (W : World) => bare_any k' d' sf' c' n' W t' ht1' ht2' ht12' hcd')
  have HK := Lib.hid (And.intro ht12 ht12')
  clear hcd hcd' hn1 hn2 hn1' hn2' ht1 ht2 ht12 ht1' ht2' ht12'
  have HINJ := Lib.hid (fun h => text_inj (j := t + 1) (k := t' + 1) (d := d) (e := d') (s := sf) (t := sf') (m := n) (n := n') (by omega) (by have := HK.out; omega) (by omega) (by have := HK.out; omega) HC.out.1 HC.out.2 h)
  have hsz : ∀ (K : Nat) (x : ByteArray), (bareD K x).size ≤ 10000 := fun K x => by
    unfold bareD
    split
    · decide
    · exact Nat.le_trans (cutL_le x 60).1 (by decide)
  have hcz : ∀ (K x : Nat), x < 256 → bareC K x < 256 := fun K x hx => by unfold bareC; split <;> omega
  have hnz : ∀ (K x : Nat) (y : Int), -9223372036854775808 ≤ y → y ≤ 9223372036854775807 → -9223372036854775808 ≤ bareN K x y ∧ bareN K x y ≤ 9223372036854775807 := fun K x y h1 h2 => by unfold bareN; split <;> omega
  have HA := Lib.hid (And.intro (hsz (t + 1) d) (And.intro (hcz (t + 1) c HC.out.1) (hnz (t + 1) c n HN.out.1.1 HN.out.1.2)))
  have HA' := Lib.hid (And.intro (hsz (t' + 1) d') (And.intro (hcz (t' + 1) c' HC.out.2) (hnz (t' + 1) c' n' HN.out.2.1 HN.out.2.2)))
  have HK1 : Hid (1 ≤ t + 1 ∧ t + 1 ≤ 12 ∧ 1 ≤ t' + 1 ∧ t' + 1 ≤ 12) := Lib.hid (by have := HK.out; omega)
  clear hsz hcz hnz HC HN HK
  generalize bareD (t + 1) d = D at *
  generalize bareS (t + 1) sf = S at *
  generalize bareN (t + 1) c n = N at *
  generalize bareC (t + 1) c = C at *
  generalize bareD (t' + 1) d' = D' at *
  generalize bareS (t' + 1) sf' = S' at *
  generalize bareN (t' + 1) c' n' = N' at *
  generalize bareC (t' + 1) c' = C' at *
  generalize t + 1 = K at *
  generalize t' + 1 = K' at *
  go_enter Tryd.func3, Tryd.ntmps3
  go_wp2_with fail
  refine (awake_any _ ((HT.out.alloc _).alloc _)).mono ?_; rintro e W1 ⟨rfl, hb1⟩
  have hal : Below w.heap.size w ((w.alloc (.cells #[.int .i64 k, .string d, .bool sf, .int .u8 (c : Int), .int .i64 n] 23)).alloc (.cells #[.int .i64 k', .string d', .bool sf', .int .u8 (c' : Int), .int .i64 n'] 23)) := ((Below.refl _ _).alloc (Nat.le_refl _) _).alloc (by simp) _
  have X1 : W1.heap[w.heap.size]? = some (.cells #[.int .i64 k, .string d, .bool sf, .int .u8 (c : Int), .int .i64 n] 23 (0, 0)) := (hb1.block _ (by simp; omega)).trans (((Below.refl _ _).alloc (Nat.le_refl _) _).block _ (by simp) |>.trans (heap_alloc_new w _))
  have Y1 : W1.heap[w.heap.size + 1]? = some (.cells #[.int .i64 k', .string d', .bool sf', .int .u8 (c' : Int), .int .i64 n'] 23 (0, 0)) := (hb1.block _ (by simp)).trans (by
    have := heap_alloc_new (w.alloc (.cells #[.int .i64 k, .string d, .bool sf, .int .u8 (c : Int), .int .i64 n] 23)) (.cells #[.int .i64 k', .string d', .bool sf', .int .u8 (c' : Int), .int .i64 n'] 23 (0, 0))
    simpa using this)
  have HB1 : Hid (Below w.heap.size w W1) := Lib.hid (hal.trans (hb1.mono (by simp; omega)))
  have HT1 : Hid (Tabs W1) := Lib.hid (((HT.out.alloc _).alloc _).below hb1)
  clear hb1 hal
  generalize hgg : w.heap.size = g at *
  have HG := Lib.hid hgg
  clear hgg
  go_upto_region 4 with (fail)
  have GL : Hid (g + 1 < W1.heap.size) := Lib.hid (Array.getElem?_eq_some_iff.1 Y1).1
  have BX := Lib.hid X1
  have BY := Lib.hid Y1
  clear X1 Y1
  go_cut [8, 9, 10, 11, 12, 13] (fun s8 s9 s10 s11 s12 s13 wx => Hid (wx.heap[g]? = some (.cells #[.int .i64 (K : Int), .string D, .bool S, .int .u8 (C : Int), .int .i64 N] 23 (0, 0))) ∧ Hid (wx.heap[g + 1]? = some (.cells #[.int .i64 (K' : Int), .string D', .bool S', .int .u8 (C' : Int), .int .i64 N'] 23 (0, 0))) ∧ Hid (Below g w wx) ∧ Hid (g + 1 < wx.heap.size))
  case first =>
    obtain ⟨k0, k1, k2, k3, k4⟩ := cells5 BX.out
    obtain ⟨l0, l1, l2, l3, l4⟩ := cells5 BY.out
    go_region_with (first
      | ((have _s := hb2)
         go_at_call 5
         refine (HBARE'.out _).mono ?_; rintro e W3 ⟨rfl, hb3⟩
         (have hx3 := (hb3.block g hlt2.1).trans X2.out)
         (have hy3 := (hb3.block (g + 1) hlt2.2).trans Y2.out)
         obtain ⟨c0, c1, c2, c3, c4⟩ := unfrozen5 hx3
         obtain ⟨e0, e1, e2, e3, e4⟩ := unfrozen5 hy3
         obtain ⟨k0, k1, k2, k3, k4⟩ := cells5 hx3
         obtain ⟨l0, l1, l2, l3, l4⟩ := cells5 hy3)
      | (go_at_call 5
         refine (HBARE.out _).mono ?_; rintro e W2 ⟨rfl, hb2'⟩
         (have hb2 : Below W1.heap.size W1 W2 := ((Below.refl _ W1).drew).trans (hb2'.mono (by simp)))
         (have hlt2 : g < W2.heap.size ∧ g + 1 < W2.heap.size := by have := hb2.size; have := GL.out; omega)
         (have X2 := Lib.hid ((hb2.block g (by have := GL.out; omega)).trans BX.out))
         (have Y2 := Lib.hid ((hb2.block (g + 1) GL.out).trans BY.out))
         clear k0 k1 k2 k3 k4
         obtain ⟨l0, l1, l2, l3, l4⟩ := cells5 Y2.out))
    all_goals
      rw [put5_eq, put5_eq]
      have hx4 := (put5_other (W := put5 W3 g (.int .i64 (K : Int)) (.string D) (.bool S) (.int .u8 (C : Int)) (.int .i64 N)) (g := g + 1) (j := g) (by omega) (.int .i64 (K' : Int)) (.string D') (.bool S') (.int .u8 (C' : Int)) (.int .i64 N')).trans (put5_blk hx3 (.int .i64 (K : Int)) (.string D) (.bool S) (.int .u8 (C : Int)) (.int .i64 N))
      have hy4 := put5_blk ((put5_other (W := W3) (g := g) (j := g + 1) (by omega) (.int .i64 (K : Int)) (.string D) (.bool S) (.int .u8 (C : Int)) (.int .i64 N)).trans hy3) (.int .i64 (K' : Int)) (.string D') (.bool S') (.int .u8 (C' : Int)) (.int .i64 N')
      have hb4 : Below g w (put5 (put5 W3 g (.int .i64 (K : Int)) (.string D) (.bool S) (.int .u8 (C : Int)) (.int .i64 N)) (g + 1) (.int .i64 (K' : Int)) (.string D') (.bool S') (.int .u8 (C' : Int)) (.int .i64 N')) := put5_below (by omega) (put5_below (Nat.le_refl _) (HB1.out.trans ((hb2.trans (hb3.mono hb2.size)).mono (by have := GL.out; omega))) (.int .i64 (K : Int)) (.string D) (.bool S) (.int .u8 (C : Int)) (.int .i64 N)) (.int .i64 (K' : Int)) (.string D') (.bool S') (.int .u8 (C' : Int)) (.int .i64 N')
      have HH := Lib.hid (And.intro hx4 (And.intro hy4 hb4))
      clear hx4 hy4 hb4 hx3 hy3 k0 k1 k2 k3 k4 l0 l1 l2 l3 l4
      generalize put5 (put5 W3 g (.int .i64 (K : Int)) (.string D) (.bool S) (.int .u8 (C : Int)) (.int .i64 N)) (g + 1) (.int .i64 (K' : Int)) (.string D') (.bool S') (.int .u8 (C' : Int)) (.int .i64 N') = W5 at *
      go_wp2_with fail
      go_meet
      exact ⟨Lib.hid HH.out.1, Lib.hid HH.out.2.1, Lib.hid HH.out.2.2, Lib.hid (Array.getElem?_eq_some_iff.1 HH.out.2.1).1⟩
  case rest =>
    obtain ⟨X3, Y3, HB3, GL3⟩ := hcut
    have HT3 : Hid (Tabs wc) := Lib.hid (HT.out.below (by rw [HG.out]; exact HB3.out))
    have hk : ∀ (J : Nat) (d : ByteArray) (s : Bool) (c : Nat) (n : Int), 1 ≤ J → J ≤ 12 → textK (J : Int) d s c n = textS J d s c n := fun J d s c n h1 h2 => by
      unfold textK
      rw [if_neg (by omega), Int.toNat_natCast]
    obtain ⟨X, hX⟩ : ∃ X, textK (K : Int) D S C N = X := ⟨_, rfl⟩
    obtain ⟨Y, hY⟩ : ∃ Y, textK (K' : Int) D' S' C' N' = Y := ⟨_, rfl⟩
    have HI2 : Hid (X = Y → K = K' ∧ D = D' ∧ S = S' ∧ C = C' ∧ N = N') := Lib.hid (fun h => HINJ.out (by
      rw [← hk K D S C N HK1.out.1 HK1.out.2.1, ← hk K' D' S' C' N' HK1.out.2.2.1 HK1.out.2.2.2, hX, hY, h]))
    have HX := Lib.hid hX
    have HY := Lib.hid hY
    have HO : Hid (∀ w' : World, Below wc.heap.size wc w' → w'.cell? ⟨g, 0, none⟩ = some (.int .i64 (K : Int)) ∧ w'.cell? ⟨g, 1, none⟩ = some (.string D) ∧ w'.cell? ⟨g, 2, none⟩ = some (.bool S) ∧ w'.cell? ⟨g, 3, none⟩ = some (.int .u8 (C : Int)) ∧ w'.cell? ⟨g, 4, none⟩ = some (.int .i64 N) ∧
      w'.cell? ⟨g + 1, 0, none⟩ = some (.int .i64 (K' : Int)) ∧ w'.cell? ⟨g + 1, 1, none⟩ = some (.string D') ∧ w'.cell? ⟨g + 1, 2, none⟩ = some (.bool S') ∧ w'.cell? ⟨g + 1, 3, none⟩ = some (.int .u8 (C' : Int)) ∧ w'.cell? ⟨g + 1, 4, none⟩ = some (.int .i64 N') ∧ Below wc.heap.size wc w') := Lib.hid (fun w' hb => by
      obtain ⟨k0, k1, k2, k3, k4⟩ := cells5 ((hb.block g (by have := GL3.out; omega)).trans X3.out)
      obtain ⟨l0, l1, l2, l3, l4⟩ := cells5 ((hb.block (g + 1) GL3.out).trans Y3.out)
      exact ⟨k0, k1, k2, k3, k4, l0, l1, l2, l3, l4, hb⟩)
    obtain ⟨k0, k1, k2, k3, k4⟩ := cells5 X3.out
    obtain ⟨l0, l1, l2, l3, l4⟩ := cells5 Y3.out
    clear hX hY hk
    by_cases hqK : K = K'
    case neg =>
      have hbb : ((K : Int) == (K' : Int)) = false := beq_eq_false_iff_ne.2 (fun h => hqK (by omega))
      have hxy : (X.toList == Y.toList) = false := ba_ne (fun h => hqK (HI2.out h).1)
      go_wp2_with fail
      go_region_held3 (fun w' => w'.cell? ⟨g, 0, none⟩ = some (.int .i64 (K : Int)) ∧ w'.cell? ⟨g, 1, none⟩ = some (.string D) ∧ w'.cell? ⟨g, 2, none⟩ = some (.bool S) ∧ w'.cell? ⟨g, 3, none⟩ = some (.int .u8 (C : Int)) ∧ w'.cell? ⟨g, 4, none⟩ = some (.int .i64 N) ∧
        w'.cell? ⟨g + 1, 0, none⟩ = some (.int .i64 (K' : Int)) ∧ w'.cell? ⟨g + 1, 1, none⟩ = some (.string D') ∧ w'.cell? ⟨g + 1, 2, none⟩ = some (.bool S') ∧ w'.cell? ⟨g + 1, 3, none⟩ = some (.int .u8 (C' : Int)) ∧ w'.cell? ⟨g + 1, 4, none⟩ = some (.int .i64 N') ∧ Below wc.heap.size wc w')
        (first | (with_reducible assumption) | exact HO.out _ (Below.refl _ _).drew | exact HO.out _ hb20 | exact HO.out _ hb21)
        (first
          | ((have _s := hb20)
             go_at_call 7
             refine (text_any (K' : Int) D' S' C' N' _ (HT3.out.below hb20) HA'.out.1 HA'.out.2.1 HA'.out.2.2.1 HA'.out.2.2.2).mono ?_
             rintro e w21 ⟨rfl, h21⟩
             rw [HY.out]
             (have hb21 := hb20.trans (h21.mono hb20.size)))
          | (go_at_call 7
             refine (text_any (K : Int) D S C N _ (HT3.out.below (by first | exact (Below.refl _ _).drew | assumption)) HA.out.1 HA.out.2.1 HA.out.2.2.1 HA.out.2.2.2).mono ?_
             rintro e w20 ⟨rfl, h20⟩
             rw [HX.out]
             (have hb20 : Below wc.heap.size wc w20 := ((Below.refl _ _).drew).trans (h20.mono (by simp)))))
      all_goals go_wp2_with fail
      all_goals go_ret
      all_goals exact ⟨rfl, by rw [HG.out]; exact HB3.out.trans (hb21.mono (by have := GL3.out; omega))⟩
    case pos =>
      subst hqK
      by_cases hqD : D = D'
      case neg =>
        have hbb : (D.toList == D'.toList) = false := ba_ne hqD
        have hxy : (X.toList == Y.toList) = false := ba_ne (fun h => hqD (HI2.out h).2.1)
        go_wp2_with fail
        go_region_held3 (fun w' => w'.cell? ⟨g, 0, none⟩ = some (.int .i64 (K : Int)) ∧ w'.cell? ⟨g, 1, none⟩ = some (.string D) ∧ w'.cell? ⟨g, 2, none⟩ = some (.bool S) ∧ w'.cell? ⟨g, 3, none⟩ = some (.int .u8 (C : Int)) ∧ w'.cell? ⟨g, 4, none⟩ = some (.int .i64 N) ∧
          w'.cell? ⟨g + 1, 0, none⟩ = some (.int .i64 (K : Int)) ∧ w'.cell? ⟨g + 1, 1, none⟩ = some (.string D') ∧ w'.cell? ⟨g + 1, 2, none⟩ = some (.bool S') ∧ w'.cell? ⟨g + 1, 3, none⟩ = some (.int .u8 (C' : Int)) ∧ w'.cell? ⟨g + 1, 4, none⟩ = some (.int .i64 N') ∧ Below wc.heap.size wc w')
          (first | (with_reducible assumption) | exact HO.out _ (Below.refl _ _).drew | exact HO.out _ hb20 | exact HO.out _ hb21)
          (first
            | ((have _s := hb20)
               go_at_call 7
               refine (text_any (K : Int) D' S' C' N' _ (HT3.out.below hb20) HA'.out.1 HA'.out.2.1 HA'.out.2.2.1 HA'.out.2.2.2).mono ?_
               rintro e w21 ⟨rfl, h21⟩
               rw [HY.out]
               (have hb21 := hb20.trans (h21.mono hb20.size)))
            | (go_at_call 7
               refine (text_any (K : Int) D S C N _ (HT3.out.below (by first | exact (Below.refl _ _).drew | assumption)) HA.out.1 HA.out.2.1 HA.out.2.2.1 HA.out.2.2.2).mono ?_
               rintro e w20 ⟨rfl, h20⟩
               rw [HX.out]
               (have hb20 : Below wc.heap.size wc w20 := ((Below.refl _ _).drew).trans (h20.mono (by simp)))))
        all_goals go_wp2_with fail
        all_goals go_ret
        all_goals exact ⟨rfl, by rw [HG.out]; exact HB3.out.trans (hb21.mono (by have := GL3.out; omega))⟩
      case pos =>
        subst hqD
        by_cases hqS : S = S'
        case neg =>
          have hbb : (S == S') = false := beq_eq_false_iff_ne.2 hqS
          have hxy : (X.toList == Y.toList) = false := ba_ne (fun h => hqS (HI2.out h).2.2.1)
          go_wp2_with fail
          go_region_held3 (fun w' => w'.cell? ⟨g, 0, none⟩ = some (.int .i64 (K : Int)) ∧ w'.cell? ⟨g, 1, none⟩ = some (.string D) ∧ w'.cell? ⟨g, 2, none⟩ = some (.bool S) ∧ w'.cell? ⟨g, 3, none⟩ = some (.int .u8 (C : Int)) ∧ w'.cell? ⟨g, 4, none⟩ = some (.int .i64 N) ∧
            w'.cell? ⟨g + 1, 0, none⟩ = some (.int .i64 (K : Int)) ∧ w'.cell? ⟨g + 1, 1, none⟩ = some (.string D) ∧ w'.cell? ⟨g + 1, 2, none⟩ = some (.bool S') ∧ w'.cell? ⟨g + 1, 3, none⟩ = some (.int .u8 (C' : Int)) ∧ w'.cell? ⟨g + 1, 4, none⟩ = some (.int .i64 N') ∧ Below wc.heap.size wc w')
            (first | (with_reducible assumption) | exact HO.out _ (Below.refl _ _).drew | exact HO.out _ hb20 | exact HO.out _ hb21)
            (first
              | ((have _s := hb20)
                 go_at_call 7
                 refine (text_any (K : Int) D S' C' N' _ (HT3.out.below hb20) HA'.out.1 HA'.out.2.1 HA'.out.2.2.1 HA'.out.2.2.2).mono ?_
                 rintro e w21 ⟨rfl, h21⟩
                 rw [HY.out]
                 (have hb21 := hb20.trans (h21.mono hb20.size)))
              | (go_at_call 7
                 refine (text_any (K : Int) D S C N _ (HT3.out.below (by first | exact (Below.refl _ _).drew | assumption)) HA.out.1 HA.out.2.1 HA.out.2.2.1 HA.out.2.2.2).mono ?_
                 rintro e w20 ⟨rfl, h20⟩
                 rw [HX.out]
                 (have hb20 : Below wc.heap.size wc w20 := ((Below.refl _ _).drew).trans (h20.mono (by simp)))))
          all_goals go_wp2_with fail
          all_goals go_ret
          all_goals exact ⟨rfl, by rw [HG.out]; exact HB3.out.trans (hb21.mono (by have := GL3.out; omega))⟩
        case pos =>
          subst hqS
          by_cases hqC : C = C'
          case neg =>
            have hbb : ((C : Int) == (C' : Int)) = false := beq_eq_false_iff_ne.2 (fun h => hqC (by omega))
            have hxy : (X.toList == Y.toList) = false := ba_ne (fun h => hqC (HI2.out h).2.2.2.1)
            go_wp2_with fail
            go_region_held3 (fun w' => w'.cell? ⟨g, 0, none⟩ = some (.int .i64 (K : Int)) ∧ w'.cell? ⟨g, 1, none⟩ = some (.string D) ∧ w'.cell? ⟨g, 2, none⟩ = some (.bool S) ∧ w'.cell? ⟨g, 3, none⟩ = some (.int .u8 (C : Int)) ∧ w'.cell? ⟨g, 4, none⟩ = some (.int .i64 N) ∧
              w'.cell? ⟨g + 1, 0, none⟩ = some (.int .i64 (K : Int)) ∧ w'.cell? ⟨g + 1, 1, none⟩ = some (.string D) ∧ w'.cell? ⟨g + 1, 2, none⟩ = some (.bool S) ∧ w'.cell? ⟨g + 1, 3, none⟩ = some (.int .u8 (C' : Int)) ∧ w'.cell? ⟨g + 1, 4, none⟩ = some (.int .i64 N') ∧ Below wc.heap.size wc w')
              (first | (with_reducible assumption) | exact HO.out _ (Below.refl _ _).drew | exact HO.out _ hb20 | exact HO.out _ hb21)
              (first
                | ((have _s := hb20)
                   go_at_call 7
                   refine (text_any (K : Int) D S C' N' _ (HT3.out.below hb20) HA'.out.1 HA'.out.2.1 HA'.out.2.2.1 HA'.out.2.2.2).mono ?_
                   rintro e w21 ⟨rfl, h21⟩
                   rw [HY.out]
                   (have hb21 := hb20.trans (h21.mono hb20.size)))
                | (go_at_call 7
                   refine (text_any (K : Int) D S C N _ (HT3.out.below (by first | exact (Below.refl _ _).drew | assumption)) HA.out.1 HA.out.2.1 HA.out.2.2.1 HA.out.2.2.2).mono ?_
                   rintro e w20 ⟨rfl, h20⟩
                   rw [HX.out]
                   (have hb20 : Below wc.heap.size wc w20 := ((Below.refl _ _).drew).trans (h20.mono (by simp)))))
            all_goals go_wp2_with fail
            all_goals go_ret
            all_goals exact ⟨rfl, by rw [HG.out]; exact HB3.out.trans (hb21.mono (by have := GL3.out; omega))⟩
          case pos =>
            subst hqC
            by_cases hqN : N = N'
            case neg =>
              have hbb : (N == N') = false := beq_eq_false_iff_ne.2 hqN
              have hxy : (X.toList == Y.toList) = false := ba_ne (fun h => hqN (HI2.out h).2.2.2.2)
              go_wp2_with fail
              go_region_held3 (fun w' => w'.cell? ⟨g, 0, none⟩ = some (.int .i64 (K : Int)) ∧ w'.cell? ⟨g, 1, none⟩ = some (.string D) ∧ w'.cell? ⟨g, 2, none⟩ = some (.bool S) ∧ w'.cell? ⟨g, 3, none⟩ = some (.int .u8 (C : Int)) ∧ w'.cell? ⟨g, 4, none⟩ = some (.int .i64 N) ∧
                w'.cell? ⟨g + 1, 0, none⟩ = some (.int .i64 (K : Int)) ∧ w'.cell? ⟨g + 1, 1, none⟩ = some (.string D) ∧ w'.cell? ⟨g + 1, 2, none⟩ = some (.bool S) ∧ w'.cell? ⟨g + 1, 3, none⟩ = some (.int .u8 (C : Int)) ∧ w'.cell? ⟨g + 1, 4, none⟩ = some (.int .i64 N') ∧ Below wc.heap.size wc w')
                (first | (with_reducible assumption) | exact HO.out _ (Below.refl _ _).drew | exact HO.out _ hb20 | exact HO.out _ hb21)
                (first
                  | ((have _s := hb20)
                     go_at_call 7
                     refine (text_any (K : Int) D S C N' _ (HT3.out.below hb20) HA'.out.1 HA'.out.2.1 HA'.out.2.2.1 HA'.out.2.2.2).mono ?_
                     rintro e w21 ⟨rfl, h21⟩
                     rw [HY.out]
                     (have hb21 := hb20.trans (h21.mono hb20.size)))
                  | (go_at_call 7
                     refine (text_any (K : Int) D S C N _ (HT3.out.below (by first | exact (Below.refl _ _).drew | assumption)) HA.out.1 HA.out.2.1 HA.out.2.2.1 HA.out.2.2.2).mono ?_
                     rintro e w20 ⟨rfl, h20⟩
                     rw [HX.out]
                     (have hb20 : Below wc.heap.size wc w20 := ((Below.refl _ _).drew).trans (h20.mono (by simp)))))
              all_goals go_wp2_with fail
              all_goals go_ret
              all_goals exact ⟨rfl, by rw [HG.out]; exact HB3.out.trans (hb21.mono (by have := GL3.out; omega))⟩
            case pos =>
              subst hqN
              have hxe : X = Y := by rw [← HX.out, HY.out]
              subst hxe
              have hxy : (X.toList == X.toList) = true := beq_self_eq_true _
              go_wp2_with fail
              go_region_held3 (fun w' => w'.cell? ⟨g, 0, none⟩ = some (.int .i64 (K : Int)) ∧ w'.cell? ⟨g, 1, none⟩ = some (.string D) ∧ w'.cell? ⟨g, 2, none⟩ = some (.bool S) ∧ w'.cell? ⟨g, 3, none⟩ = some (.int .u8 (C : Int)) ∧ w'.cell? ⟨g, 4, none⟩ = some (.int .i64 N) ∧
                w'.cell? ⟨g + 1, 0, none⟩ = some (.int .i64 (K : Int)) ∧ w'.cell? ⟨g + 1, 1, none⟩ = some (.string D) ∧ w'.cell? ⟨g + 1, 2, none⟩ = some (.bool S) ∧ w'.cell? ⟨g + 1, 3, none⟩ = some (.int .u8 (C : Int)) ∧ w'.cell? ⟨g + 1, 4, none⟩ = some (.int .i64 N) ∧ Below wc.heap.size wc w')
                (first | (with_reducible assumption) | exact HO.out _ (Below.refl _ _).drew | exact HO.out _ hb20 | exact HO.out _ hb21)
                (first
                  | ((have _s := hb20)
                     go_at_call 7
                     refine (text_any (K : Int) D S C N _ (HT3.out.below hb20) HA'.out.1 HA'.out.2.1 HA'.out.2.2.1 HA'.out.2.2.2).mono ?_
                     rintro e w21 ⟨rfl, h21⟩
                     rw [HY.out]
                     (have hb21 := hb20.trans (h21.mono hb20.size)))
                  | (go_at_call 7
                     refine (text_any (K : Int) D S C N _ (HT3.out.below (by first | exact (Below.refl _ _).drew | assumption)) HA.out.1 HA.out.2.1 HA.out.2.2.1 HA.out.2.2.2).mono ?_
                     rintro e w20 ⟨rfl, h20⟩
                     rw [HX.out]
                     (have hb20 : Below wc.heap.size wc w20 := ((Below.refl _ _).drew).trans (h20.mono (by simp)))))
              all_goals go_wp2_with fail
              all_goals go_ret
              all_goals exact ⟨rfl, by rw [HG.out]; exact HB3.out.trans (hb21.mono (by have := GL3.out; omega))⟩

theorem own : ownKnob Tryd.prog.godebug = none := by kernel_rfl
theorem laidOut : laidOutB Tryd.prog = true := by kernel_rfl

set_option maxRecDepth 100000 in
theorem lifted (os : Os) (started : os.Started) (H : Type) (enc : TypeId × Value → H) :
    ReturnsInHanded {} Tryd.checked os 3 .any (fun w args => (Rows.eventUnlikeSpec.pre enc Tryd.prog Tryd.f3 Rows.eventUnlikeRow.domain false w args ∧ laidMetH Tryd.prog Rows.eventUnlikeRow.laid w) ∧ sizedMet enc Tryd.prog Tryd.f3 (OpenSpec.ofChange Rows.eventUnlikeSpec) false w args) (Rows.eventUnlikeSpec.post enc Tryd.prog Tryd.f3 false true false false) := by
  refine Base.law_laid (C := Tryd.checked) own started (by kernel_rfl) Tryd.func3 laidOut (by kernel_rfl) rfl Tryd.underlying4 rfl ?_
    (Base.laid_witness #[.agg #[.int .i64 0, .string ⟨#[]⟩, .bool false, .int .u8 0, .int .i64 0], .agg #[.int .i64 0, .string ⟨#[]⟩, .bool false, .int .u8 0, .int .i64 0]] (World.shaped_of_ZipB (by kernel_rfl) (by kernel_rfl)) (by kernel_rfl) (by kernel_rfl) (by kernel_rfl) (by rw [MakeChecks.laidMetH_plain _ _ _ (by kernel_rfl)]; exact laidMet_laidAll _ (by kernel_rfl) (by kernel_rfl))) ?_
  · intro ds h
    match ds, h with
    | [_d0, _d1], _ => exact ⟨rfl, rfl, rfl⟩
  · intro W base args ds before hval0 hA0 hlt hsz hL
    have hval : ∀ (j : Nat) t v, Tryd.f3.params[j]? = some t → args[j]? = some v → Value.okWide Tryd.prog W .any base t v := hval0
    have hA : DataW.TrodAll enc Tryd.prog W 0 (fun _ => true) true Tryd.f3.params.toList args.toList ds before := hA0
    clear hval0 hA0
    rw [Tryd.params3] at hA hval hsz
    obtain ⟨v0, vs0, d0, ds0, p0, q0, hargs, rfl, rfl, h0, r0⟩ := trodAll_cons hA
    obtain ⟨v1, vs1, d1, ds1, p1, q1, rfl, rfl, rfl, h1, r1⟩ := trodAll_cons r0
    obtain ⟨rfl, rfl, rfl⟩ := trodAll_nil r1
    obtain rfl : args = #[v0, v1] := by cases args; simp_all
    obtain ⟨x0, w0⟩ := Base.open_shape (s := (.struct [(.int .i64), .str, .bool, (.int .u8), (.int .i64)])) (by kernel_rfl) (hval 0 23 v0 rfl rfl) h0 (fun x hx => hlt x (by simp [hx])) hsz (j := 0) rfl rfl
    obtain ⟨x1, w1⟩ := Base.open_shape (s := (.struct [(.int .i64), .str, .bool, (.int .u8), (.int .i64)])) (by kernel_rfl) (hval 1 23 v1 rfl rfl) h1 (fun x hx => hlt x (by simp [hx])) hsz (j := 1) rfl rfl
    exact walk W v0 x0 w0 v1 x1 w1 hL

theorem over : Rows.eventUnlikeRow.holds Tryd.pinned (OpenSpec.ofChange Rows.eventUnlikeSpec) :=
  OpenClaim.holds_of_wide 3 Tryd.f3 rfl rfl rfl rfl rfl rfl rfl ⟨rfl, rfl, rfl, rfl, rfl⟩ rfl rfl rfl rfl rfl (by kernel_rfl) Tryd.func3 (by kernel_rfl)
    (of_decide_eq_true (by kernel_rfl)) (by unfold Func.isWrapper; first | (rw [if_pos (by decide +kernel)]; kernel_rfl) | (rw [if_neg (by decide +kernel)]; exact ⟨rfl, rfl⟩))
    (fun os started H enc _ => lifted os started H enc)

theorem proved : Rows.EventUnlikeCardSaid :=
  Claim7.holds_tied_plain_at .later [] [.data, .data, .data, .data, .data] true Rows.eventUnlikeCard.stood.harness false over (fun _ h => by cases h) (by kernel_rfl) (fun _ h => by cases h) eventUnlike_row_tie rfl ⟨rfl, rfl⟩ (by kernel_rfl) rfl
    (fun f fn hf hfn => by
      obtain rfl : f = 3 := Option.some.inj ((show Tryd.prog.funcNamed Rows.eventUnlikeRow.func = some 3 by kernel_rfl).symm.trans hf) |>.symm
      obtain rfl : fn = Tryd.f3 := (Option.some.inj (Tryd.func3.symm.trans hfn)).symm
      exact ⟨by kernel_rfl, fun j t ht => by
        rw [Tryd.params3] at ht
        have hm : t ∈ [23, 23] := by simpa using Array.mem_of_getElem? ht
        have hall : ([23, 23].all fun u => !Tryd.prog.wantsStandIn u) = true := by kernel_rfl
        exact (show Tryd.prog.wantsStandIn t = false by simpa using List.all_eq_true.1 hall t hm)⟩)
    (by kernel_rfl)
#print axioms proved
end Go.Proofs.YtcepiapidcofiaaDoor.eventUnlike
