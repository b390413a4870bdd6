/-
  What isn't there of a span, and what is in both of two sets.
-/
import Derived.Test.YtippbgbjldgahaaSpanList
import Derived.Deep.RegionHeld3
import Derived.Deep.RegionWith
import Derived.WalkSpells
namespace Go.Proofs.Ytippbgbjldgahaa.SpanCalls
open Go.RowKit SpanMath View

theorem gap_round {x : Sp} {S : List Sp} {k : Nat} {y : Sp} {l : List Sp} {f : Int} (hk : k < S.length) (h : gapFold x (S.take k) = (l, f)) (hy : S.getD k (0, 0) = y) :
    gapFold x (S.take (k + 1)) = (join l (f, min y.1 x.2), max f y.2) := by
  rw [gapFold_take x S k hk, h, hy]
  rfl
theorem gap_len {x : Sp} {S : List Sp} : ∀ k, (gapFold x (S.take k)).1.length ≤ k := by
  have key : ∀ (l : List Sp) (s : List Sp × Int), (l.foldl (gapStep x.2) s).1.length ≤ s.1.length + l.length := by
    intro l
    induction l with
    | nil => intro s; simp
    | cons y l ih =>
      intro s
      have := ih (gapStep x.2 s y)
      have h2 := join_len s.1 (s.2, min y.1 x.2)
      simp only [List.foldl_cons, List.length_cons]
      have h3 : (gapStep x.2 s y).1.length ≤ s.1.length + 1 := h2
      omega
  intro k
  have := key (S.take k) ([], x.1)
  have h2 : (S.take k).length ≤ k := List.length_take_le _ _
  simp only [List.length_nil, Nat.zero_add] at this
  exact Nat.le_trans this h2
theorem gap_f (x : Sp) (S : List Sp) (hS : Small S) : ∀ k, -1099511627776 ≤ x.1 → x.1 ≤ 1099511627776 → -1099511627776 ≤ (gapFold x (S.take k)).2 ∧ (gapFold x (S.take k)).2 ≤ 1099511627776 := by
  intro k h1 h2
  have key : ∀ (l : List Sp) (s : List Sp × Int), (∀ y ∈ l, -400 ≤ y.2 ∧ y.2 ≤ 400) → (-1099511627776 ≤ s.2 ∧ s.2 ≤ 1099511627776) → -1099511627776 ≤ (l.foldl (gapStep x.2) s).2 ∧ (l.foldl (gapStep x.2) s).2 ≤ 1099511627776 := by
    intro l
    induction l with
    | nil => intro s _ h; exact h
    | cons y l ih =>
      intro s hl h
      refine ih (gapStep x.2 s y) (fun z hz => hl z (by simp [hz])) ?_
      have := hl y (by simp)
      show -1099511627776 ≤ max s.2 y.2 ∧ max s.2 y.2 ≤ 1099511627776
      omega
  exact key (S.take k) ([], x.1) (fun y hy => by have := hS.2 y (List.mem_of_mem_take hy); omega) ⟨h1, h2⟩

theorem OwnS.set {w : World} {base B o : Nat} {v : Value} {S : List Sp} (h : OwnS w base v S) (hB : B < base) (u : Value) : OwnS (w.setCell ⟨B, o, none⟩ u) base v S := by
  refine World.ownsRow.kept h (row := some B) ⟨rfl, rfl, rfl, by simp, fun k _ hk => heap_setCell_other w ⟨B, o, none⟩ k u (fun e => hk (by simp [e]))⟩ (.inr fun e => ?_)
  exact Box.near hB h e.symm

set_option maxHeartbeats 1000000 in
theorem gaps_any (a : Option Addr) (n cap : Nat) (S : List Sp) (x1 x2 : Int) (T : List Sp) (w : World) (h : RdS w a n S) (hs : Small S) (hn : Norm S)
    (b1 : -1099511627776 ≤ x1) (b2 : x1 ≤ 1099511627776) (b3 : -1099511627776 ≤ x2) (b4 : x2 ≤ 1099511627777) (hT : IsSet T fun z => (x1 ≤ z ∧ z < x2) ∧ z ∉ nums S) :
    Calls Try.prog 18 #[.slice a n cap, .agg #[.int .i64 x1, .int .i64 x2]] w fun e w' => ∃ v, e = .returned v ∧ OwnS w' w.heap.size v T ∧ Below w.heap.size w w' := by
  have HT : Hid (T = gapsL (x1, x2) S) := Lib.hid (IsSet.ext hT (gaps_set (x1, x2) S hn))
  have HL := Lib.hid h
  have HS := Lib.hid hs
  have hn1 : n ≤ 1000 := by rw [h.1]; exact hs.1
  clear h hs hn hT
  go_enter Try.func18, Try.ntmps18
  go_wp2_with fail
  refine (near_any x1 x2 _ b1 b2 b3 b4).mono ?_; rintro e w1 ⟨rfl, hb1⟩
  have hbox := (Box.new w x1 x2).below hb1
  have hbw1 : Below w.heap.size w w1 := ((Below.refl _ w).alloc (Nat.le_refl _) _).trans (hb1.mono (by simp))
  have hlt1 := hbox.lt
  have hcs := hbox.cells
  have hfz := hbox.free
  obtain ⟨hx1, hx2⟩ := hcs
  clear hb1
  go_wp2_with fail
  have hb2 : Below w.heap.size w ((w1.setCell ⟨w.heap.size, 0, none⟩ (.int .i64 x1)).setCell ⟨w.heap.size, 1, none⟩ (.int .i64 x2)) := (hbw1.setCell (by simp) _).setCell (by simp) _
  have hbox2 := (hbox.set0 x1).set1 x2
  generalize (w1.setCell ⟨w.heap.size, 0, none⟩ (.int .i64 x1)).setCell ⟨w.heap.size, 1, none⟩ (.int .i64 x2) = W at *
  have hltW := hbox2.lt
  have HBOX := Lib.hid hbox2
  clear hbw1 hbox hlt1 hx1 hx2 hfz hbox2
  go_loopw [5, 12] (fun v i wr => ∃ (k : Nat) (l : List Sp) (f : Int), k ≤ n ∧ i = .int .i64 k ∧ OwnS wr W.heap.size v l ∧ Box wr w.heap.size f x2 ∧ Hid (gapFold (x1, x2) (S.take k) = (l, f)) ∧ Below w.heap.size w wr ∧ W.heap.size ≤ wr.heap.size) (fun _ i _ => n - (intOf i).toNat)
  case atStart => exact ⟨0, [], x1, Nat.zero_le _, rfl, OwnS.nil, HBOX.out, Lib.hid rfl, hb2, Nat.le_refl _⟩
  case round =>
    obtain ⟨k, l, f, hk, rfl, hown, hbox, hfold, hb, hWs⟩ := hrel
    have hlen : l.length ≤ k := by have := gap_len (x := (x1, x2)) (S := S) k; rw [hfold.out] at this; exact this
    have hcs := hbox.cells
    have hfz := hbox.free
    obtain ⟨hx1, hx2⟩ := hcs
    by_cases hlt : k < n
    · obtain ⟨b, off, rfl, _, hc1, hc2⟩ := (HL.out.below hb).at_ hlt
      have hl : k < S.length := by have := HL.out.1; omega
      obtain ⟨y, hy⟩ : ∃ y, S.getD k (0, 0) = y := ⟨_, rfl⟩
      rw [hy] at hc1 hc2
      have HR := Lib.hid (gap_round hl hfold.out hy)
      clear hy hfold
      obtain ⟨y1, y2⟩ := y
      simp only at hc1 hc2
      have hown1 := hown.below ((Below.refl _ wr).alloc (Nat.le_refl _) (.cells #[.int .i64 y1, .int .i64 y2] 35))
      have hbox1 := hbox.below ((Below.refl _ wr).alloc (Nat.le_refl _) (.cells #[.int .i64 y1, .int .i64 y2] 35))
      have hb1 := hb.alloc (by omega) (.cells #[.int .i64 y1, .int .i64 y2] 35)
      have hyb := Box.new wr y1 y2
      have hfar : some wr.heap.size ≠ Value.ownBlock _ := fun e => by have := (hown.lt _ e.symm).2; omega
      have HO := Lib.hid hown1
      have HFAR := Lib.hid hfar
      have hBr := hbox.lt
      have hBn : w.heap.size ≠ wr.heap.size := by omega
      clear hown hfar
      go_wp2_with fail
      refine (join_any W.heap.size _ l f (min y1 x2) _ (by simp; omega) HO.out (by omega)).mono ?_; rintro e w2 ⟨v2, rfl, hown2, hgr, hb2'⟩
      have hyb2 := hyb.grown hgr HFAR.out
      have hbox3 := hbox1.grown hgr (Box.near hltW HO.out)
      have hb3 := hb1.trans (hb2'.mono (by omega))
      have hsz3 := hb2'.size
      simp at hsz3
      have hcs3 := hbox3.cells
      have hfz3 := hbox3.free
      have hcsy := hyb2.cells
      obtain ⟨hx31, hx32⟩ := hcs3
      obtain ⟨hy31, hy32⟩ := hcsy
      have HX := Lib.hid hbox3
      clear hgr hbox1 hyb hyb2 hbox3 hbox hx1 hx2 hfz hb1 hb2' hc1 hc2
      go_wp2_with fail
      go_roundw
      case rel => exact ⟨k + 1, _, _, by omega, by go_num, OwnS.set hown2 hltW _, HX.out.set0 _, HR, hb3.setCell (by simp) _, by simp; omega⟩
      case measure => simp [intOf]; omega
    · have hP : join l (f, x2) = T := by
        have h1 := hfold.out
        rw [List.take_of_length_le (by have := HL.out.1; omega)] at h1
        rw [HT.out]
        unfold gapsL
        rw [h1]
      have HP := Lib.hid hP
      clear hP hfold
      go_wp2_with fail
      refine (join_any W.heap.size _ l f x2 _ (by omega) hown (by omega)).mono ?_; rintro e w2 ⟨v2, rfl, hown2, hgr, hb2'⟩
      rw [HP.out] at hown2
      go_wp2_with fail
      go_ret
      exact ⟨_, rfl, hown2.lower (by omega), hb.trans (hb2'.mono (by omega))⟩
end Go.Proofs.Ytippbgbjldgahaa.SpanCalls
