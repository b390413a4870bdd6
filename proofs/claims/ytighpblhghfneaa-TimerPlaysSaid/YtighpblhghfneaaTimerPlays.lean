/-
  TimerPlays is proved: behind any calls each timer has what the document says; for every input the law returns true.
-/
import Derived.Test.YtighpblhghfneaaBase
import Derived.Test.YtighpblhghfneaaLaw08
import Derived.Test.YtighpblhghfneaaRefSame
import Derived.Test.YtighpblhghfneaaRead
import Derived.Deep.DeepCutAuto
import Derived.Deep.LoopGhost
import Derived.Deep.CutBlock
namespace Go.Proofs.Ytighpblhghfneaa.timerPlays
open Go.ChangeShapes Go.WideShapes Go.ChangeAt Go.RowKit
set_option linter.unusedVariables false      -- a walk need not use every bound of an argument

open Bank View Base

def Acts (w : World) (a : Option Addr) (n : Nat) (D : List (Int × Int × Int)) : Prop :=
  n = D.length ∧ (0 < n → ∃ b off, a = some ⟨b, off, none⟩ ∧ b < w.heap.size ∧ ∀ i, i < n → w.cell? ⟨b, off + i * 3, none⟩ = some (.int .i64 (D.getD i (0, 0, 0)).1) ∧
    w.cell? ⟨b, off + i * 3 + 1, none⟩ = some (.int .i64 (D.getD i (0, 0, 0)).2.1) ∧ w.cell? ⟨b, off + i * 3 + 2, none⟩ = some (.int .i64 (D.getD i (0, 0, 0)).2.2))
theorem open_acts (w : World) (v : Value) (x : Dat) (h : RdV w (.slice (.struct [.int .i64, .int .i64, .int .i64])) x v) : ∃ a n cap D, v = .slice a n cap ∧ Acts w a n D ∧ n ≤ 140737488351232 := by
  obtain ⟨l, a, cap, rfl, h1, h2, h3⟩ := rd_slice h
  simp only [List.cons.injEq, and_true] at h1
  subst h1
  rcases h3 with rfl | ⟨b, off, rfl, hb, h3⟩
  · exact ⟨a, 0, cap, [], rfl, ⟨rfl, fun h => absurd h (Nat.lt_irrefl _)⟩, h2⟩
  · have each : ∀ i, i < l.length → ∃ y : Int × Int × Int, w.cell? ⟨b, off + i * 3, none⟩ = some (.int .i64 y.1) ∧ w.cell? ⟨b, off + i * 3 + 1, none⟩ = some (.int .i64 y.2.1) ∧ w.cell? ⟨b, off + i * 3 + 2, none⟩ = some (.int .i64 y.2.2) := by
      intro i hi
      obtain ⟨es, _, h4, h5⟩ := h3 i hi
      obtain ⟨l', _, h5⟩ := rd_struct h5
      obtain ⟨d0, r, c0, c, rfl, rfl, g0, h5⟩ := rdAll_cons h5
      obtain ⟨d1, r, c1, c, rfl, rfl, g1, h5⟩ := rdAll_cons h5
      obtain ⟨d2, r, c2, c, rfl, rfl, g2, h5⟩ := rdAll_cons h5
      obtain ⟨rfl, rfl⟩ := rdAll_nil h5
      obtain ⟨z0, rfl, rfl, _⟩ := rd_int g0
      obtain ⟨z1, rfl, rfl, _⟩ := rd_int g1
      obtain ⟨z2, rfl, rfl, _⟩ := rd_int g2
      exact ⟨(z0, z1, z2), h4 0 (by decide), h4 1 (by decide), h4 2 (by decide)⟩
    have hex : ∃ F : Nat → Int × Int × Int, ∀ i, i < l.length → w.cell? ⟨b, off + i * 3, none⟩ = some (.int .i64 (F i).1) ∧ w.cell? ⟨b, off + i * 3 + 1, none⟩ = some (.int .i64 (F i).2.1) ∧ w.cell? ⟨b, off + i * 3 + 2, none⟩ = some (.int .i64 (F i).2.2) := by
      refine ⟨fun i => if h : i < l.length then Classical.choose (each i h) else (0, 0, 0), fun i hi' => ?_⟩
      simp only [dif_pos hi']
      exact Classical.choose_spec (each i hi')
    obtain ⟨F, hF⟩ := hex
    refine ⟨_, l.length, cap, (List.range l.length).map F, rfl, ⟨by simp, fun _ => ⟨b, off, rfl, hb, fun i hi => ?_⟩⟩, h2⟩
    have hg : ((List.range l.length).map F).getD i (0, 0, 0) = F i := by simp [List.getD, hi]
    rw [hg]
    exact hF i hi
theorem Acts.below {w w' : World} {a : Option Addr} {n : Nat} {D : List (Int × Int × Int)} (h : Acts w a n D) (hb : Below w.heap.size w w') : Acts w' a n D :=
  ⟨h.1, fun hn => by
    obtain ⟨b, off, e, hlt, hc⟩ := h.2 hn
    exact ⟨b, off, e, Nat.lt_of_lt_of_le hlt hb.size, fun i hi => ⟨(cell_below hb hlt).trans (hc i hi).1, (cell_below hb hlt).trans (hc i hi).2.1, (cell_below hb hlt).trans (hc i hi).2.2⟩⟩⟩
theorem five_made (W : World) : (Instr.makeSlice 27 (.int .i64 5) (.int .i64 5)).run Try.prog W = .ok (.slice (some ⟨W.heap.size, 0, none⟩) 5 5) (W.alloc (.cells #[.int .i64 0, .int .i64 0, .int .i64 0, .int .i64 0, .int .i64 0] 3)) := by kernel_rfl
theorem row_new (x : World) : BankAt (x.alloc (.cells #[.int .i64 0, .int .i64 0, .int .i64 0, .int .i64 0, .int .i64 0] 3)) x.heap.size 0 [] [] 3 zeroL :=
  ⟨heap_alloc_new x _, rfl, rfl, fun i => by rw [getD_zero]; omega⟩

/-- the box of a call's words -/
def Box3 (x : World) (A : Nat) (a b c : Int) : Prop := x.heap[A]? = some (.cells #[.int .i64 a, .int .i64 b, .int .i64 c] 29 (0, 0))
section
variable {x x' : World} {A : Nat} {a b c : Int}
theorem Box3.lt (h : Box3 x A a b c) : A < x.heap.size := (Array.getElem?_eq_some_iff.1 h).1
theorem Box3.only {B : Nat} (h : Box3 x A a b c) (ho : Only x x' B) (hn : A ≠ B) : Box3 x' A a b c := (ho.block A h.lt hn).trans h
theorem Box3.cells (h : Box3 x A a b c) : x.cell? ⟨A, 0, none⟩ = some (.int .i64 a) ∧ x.cell? ⟨A, 1, none⟩ = some (.int .i64 b) ∧ x.cell? ⟨A, 2, none⟩ = some (.int .i64 c) := by
  refine ⟨?_, ?_, ?_⟩ <;> (rw [cell_of_row x A _ _ _ (0, 0) h]; rfl)
end
theorem rowAt {x : World} {G : Nat} {L : List Nat} {T : TypeId} (h : BankAt x G 0 [] [] T L) {t : Nat} (ht : t < 5) : x.cell? ⟨G, t, none⟩ = some (.int .i64 ((L.getD t 0 : Nat) : Int)) := by
  have := h.cell ht
  rwa [Nat.zero_add] at this
theorem row_set {x : World} {G : Nat} {L : List Nat} {T : TypeId} {v : Int} {t n : Nat} (h : BankAt x G 0 [] [] T L) (ht : t < 5) (hn : n ≤ 1048576) (hv : v = (n : Int)) : BankAt (x.setCell ⟨G, t, none⟩ (.int .i64 v)) G 0 [] [] T (L.set t n) := by
  have := h.set_eq (i := t) ht hn hv
  rwa [Nat.zero_add] at this
/-- what both hold of the timers -/
structure Both (w : World) (B G A : Nat) (L : List Nat) (a b c : Int) (x : World) : Prop where
  mine : Mine w w.heap.size B L x
  row : BankAt x G 0 [] [] 3 L
  gb : G ≠ B
  base : w.heap.size ≤ G
  box : Box3 x A a b c
  ab : A ≠ B
  ag : A ≠ G
  abase : w.heap.size ≤ A
theorem own_only {x x' : World} {B base : Nat} {v : Value} {L : List Int} (h : OwnI x base v L) (ho : Only x x' B) (hB : B < base) : OwnI x' base v L := by
  refine ⟨h.1, ?_⟩
  rcases h.2 with hn | ⟨g, cap, cur, rfl, hg, hh, rest⟩
  · exact .inl hn
  · exact .inr ⟨g, cap, cur, rfl, hg, (ho.block g (Array.getElem?_eq_some_iff.1 hh).1 (show g ≠ B by omega)).trans hh, rest⟩
/-- in the middle of a tick by hand -/
structure Tk (w : World) (B G A q : Nat) (L : List Nat) (a b c : Int) (k : Nat) (v : Value) (x : World) : Prop where
  mine : Mine w w.heap.size B L x
  row : BankAt x G 0 [] [] 3 (tickTo L k)
  box : Box3 x A a b c
  own : OwnI x q v (oversTo L k)
  base : w.heap.size ≤ G
  gb : G ≠ B
  ab : A ≠ B
  ag : A ≠ G
  ga : w.heap.size ≤ A
  gq : G < q
  bq : B < q
  aq : A < q
  wq : w.heap.size ≤ q
  sq : q ≤ x.heap.size
section
variable {w x : World} {B G A q : Nat} {L : List Nat} {a b c : Int} {k : Nat} {v : Value}
theorem Tk.set {y : Nat} {z : Int} (h : Tk w B G A q L a b c k v x) (hk : k < 5) (hy : L.getD k 0 = y) (hne : y ≠ 1) (hz : z = ((y - 1 : Nat) : Int)) : Tk w B G A q L a b c (k + 1) v (x.setCell ⟨G, k, none⟩ (.int .i64 z)) := by
  have hl : k < L.length := by rw [h.mine.2.2.2.len]; exact hk
  have hr := row_set (v := z) (n := y - 1) h.row hk (by have := h.mine.2.2.2.top k; omega) hz
  rw [tickTo_at' hl hy] at hr
  exact ⟨h.mine.only (Only.set x G k _) h.gb.symm h.base, hr, h.box.only (Only.set x G k _) h.ag, by rw [overs_no (by rw [hy]; exact hne)]; exact own_set h.own h.gq, h.base, h.gb, h.ab, h.ag, h.ga, h.gq, h.bq, h.aq, h.wq, by have := h.sq; simp; omega⟩
/-- the number is put down, the row not yet -/
theorem Tk.app {w1 : World} {v' : Value} (h : Tk w B G A q L a b c k v x) (hg : (x.alloc (.cells #[.int .i64 (k : Int)] 3)).grownBy w1 v.ownBlock) (ho : OwnI w1 q v' (oversTo L k ++ [(k : Int)])) :
    Mine w w.heap.size B L w1 ∧ BankAt w1 G 0 [] [] 3 (tickTo L k) ∧ Box3 w1 A a b c ∧ q ≤ w1.heap.size := by
  have hal := (Below.refl x.heap.size x).alloc (Nat.le_refl _) (.cells #[.int .i64 (k : Int)] 3)
  have ho1 := h.own.below hal
  have hw := h.wq
  have hs : q ≤ (x.alloc (.cells #[.int .i64 (k : Int)] 3)).heap.size := Nat.le_trans h.sq hal.size
  refine ⟨⟨(h.mine.1.trans (hal.mono h.mine.2.1)).grown hg (Nat.le_trans h.wq hs) (fun j hj => by have := (ho1.lt j hj).1; omega), Nat.le_trans h.wq (Nat.le_trans hs hg.size), h.mine.2.2.1, (h.mine.2.2.2.below hal).grown h.bq ho1 hg⟩,
    (h.row.below hal).grown h.gq ho1 hg, ?_, Nat.le_trans hs hg.size⟩
  have h1 : Box3 (x.alloc (.cells #[.int .i64 (k : Int)] 3)) A a b c := (hal.block A h.box.lt).trans h.box
  exact (hg.block A h1.lt (fun e => by have := (ho1.lt A e.symm).1; have := h.aq; omega)).trans h1
theorem Tk.one {w1 : World} {v' : Value} {z : Int} (h : Tk w B G A q L a b c k v x) (hk : k < 5) (hy : L.getD k 0 = 1) (hg : (x.alloc (.cells #[.int .i64 (k : Int)] 3)).grownBy w1 v.ownBlock) (ho : OwnI w1 q v' (oversTo L k ++ [(k : Int)])) (hz : z = 0) :
    Tk w B G A q L a b c (k + 1) v' (w1.setCell ⟨G, k, none⟩ (.int .i64 z)) := by
  obtain ⟨h1, h2, h3, h4⟩ := h.app hg ho
  have hl : k < L.length := by rw [h.mine.2.2.2.len]; exact hk
  have hr := row_set (v := z) (n := 1 - 1) h2 hk (by omega) (by rw [hz]; rfl)
  rw [tickTo_at' hl hy] at hr
  exact ⟨h1.only (Only.set w1 G k _) h.gb.symm h.base, hr, h3.only (Only.set w1 G k _) h.ag, by rw [overs_yes hy]; exact own_set ho h.gq, h.base, h.gb, h.ab, h.ag, h.ga, h.gq, h.bq, h.aq, h.wq, by simp; omega⟩
end
theorem start_in (L : List Nat) (t : Nat) (n : Int) (ht : t < 5) : startL L (t : Int) n = L.set t (clampN n) := if_pos (by omega)
theorem stop_in (L : List Nat) (t : Nat) (ht : t < 5) : stopL L (t : Int) = L.set t 0 := if_pos (by omega)
theorem start_out (L : List Nat) (t n : Int) (ht : ¬ (0 ≤ t ∧ t < 5)) : startL L t n = L := if_neg ht
theorem stop_out (L : List Nat) (t : Int) (ht : ¬ (0 ≤ t ∧ t < 5)) : stopL L t = L := if_neg ht
theorem left_out (L : List Nat) (t : Int) (ht : ¬ (0 ≤ t ∧ t < 5)) : leftL L t = 0 := if_neg ht

set_option maxRecDepth 100000 in
set_option maxHeartbeats 4000000 in
theorem walk (w : World) (v : Value) (x : Dat) (h0 : RdV w (.slice (.struct [.int .i64, .int .i64, .int .i64])) x v) :
    Calls Try.prog 3 #[v] w fun e w' => e = .returned (.bool true) ∧ Below w.heap.size w w' := by
  obtain ⟨a, n, cap, D, rfl, hD, hn⟩ := open_acts w v x h0
  clear h0 x
  have HD := Lib.hid hD
  clear hD
  go_enter Try.func3, Try.ntmps3
  go_wp2_with fail
  refine (awake_any _).mono ?_; rintro e x1 ⟨rfl, hb1⟩
  have HB1 := Lib.hid hb1
  clear hb1
  have hmk := five_made
  go_wp2_with fail
  obtain ⟨W0, hW0⟩ : ∃ W0, (x1.alloc (.cells #[.int .i64 0, .int .i64 0, .int .i64 0, .int .i64 0, .int .i64 0] 26)).alloc (.cells #[.int .i64 0, .int .i64 0, .int .i64 0, .int .i64 0, .int .i64 0] 3) = W0 := ⟨_, rfl⟩
  have h1 := mine_new HB1.out HB1.out.size
  have h2 := row_new (x1.alloc (.cells #[.int .i64 0, .int .i64 0, .int .i64 0, .int .i64 0, .int .i64 0] 26))
  have hne : (x1.alloc (.cells #[.int .i64 0, .int .i64 0, .int .i64 0, .int .i64 0, .int .i64 0] 26)).heap.size = x1.heap.size + 1 := by simp
  rw [hne] at h2
  have h3 := h1.only (Only.of_below (B := x1.heap.size + 1) ((Below.refl _ _).alloc (Nat.le_refl _) (.cells #[.int .i64 0, .int .i64 0, .int .i64 0, .int .i64 0, .int .i64 0] 3))) (by omega) (by have := HB1.out.size; omega)
  rw [hW0] at h2 h3 ⊢
  have H2 := Lib.hid h2
  have H3 := Lib.hid h3
  have HNE : Hid (x1.heap.size + 1 ≠ x1.heap.size) := Lib.hid (by omega)
  have HGB : Hid (w.heap.size ≤ x1.heap.size + 1) := Lib.hid (by have := HB1.out.size; omega)
  clear h1 h2 h3 hne hW0
  generalize hG : x1.heap.size + 1 = G at *
  generalize x1.heap.size = B at *
  clear hG
  go_loopg [4, 5] 150 (fun gg s4 s5 wr => ∃ (i G : Nat) (L : List Nat), i ≤ 150 ∧ i ≤ n ∧ 150 - i ≤ gg ∧ s5 = .int .i64 (i : Int) ∧ s4 = .slice (some ⟨G, 0, none⟩) 5 5 ∧ Hid (Mine w w.heap.size B L wr) ∧ Hid (BankAt wr G 0 [] [] 3 L) ∧ Hid (G ≠ B) ∧ Hid (w.heap.size ≤ G))
  case atStart => exact ⟨0, G, zeroL, by omega, by omega, by omega, rfl, rfl, H3, H2, HNE, HGB⟩
  case round =>
    obtain ⟨i, G, L, hi5, hiM, hgg, rfl, rfl, hm, hr, hne, hgb⟩ := hrel
    by_cases hgo : i < n ∧ i < 150
    · obtain ⟨hg1, hg2⟩ := hgo
      have hd1 : decide (i < n) = true := decide_eq_true hg1
      have hd2 : decide ((i : Int) < 150) = true := decide_eq_true (by omega)
      obtain ⟨b, off, e, _, hc⟩ := (HD.out.below hm.out.1).2 (by omega)
      subst e
      obtain ⟨k0, k1, k2⟩ := hc i hg1
      generalize D.getD i (0, 0, 0) = y at k0 k1 k2
      obtain ⟨y0, y1, y2⟩ := y
      dsimp only at k0 k1 k2
      have hin : (i : Int) < (n : Int) := by omega
      clear hc
      by_cases ht : 0 ≤ y1 ∧ y1 < 5
      · obtain ⟨t, rfl⟩ : ∃ t : Nat, y1 = (t : Int) := ⟨y1.toNat, by omega⟩
        have ht5 : t < 5 := by omega
        have ht0 : (t : Int) < 5 := by omega
        clear ht
        have HB : Hid (Both w B G wr.heap.size L y0 (t : Int) y2 (wr.alloc (.cells #[.int .i64 y0, .int .i64 (t : Int), .int .i64 y2] 29))) := Lib.hid
          ⟨hm.out.only (Only.of_below (B := wr.heap.size) ((Below.refl _ wr).alloc (Nat.le_refl _) _)) (by have := hm.out.2.2.2.lt; omega) hm.out.2.1, hr.out.below ((Below.refl _ wr).alloc (Nat.le_refl _) _), hne.out, hgb.out,
            heap_alloc_new wr _, by have := hm.out.2.2.2.lt; omega, by have := hr.out.lt; omega, hm.out.2.1⟩
        go_upto_block 2 with (fail)
        generalize wr.alloc (.cells #[.int .i64 y0, .int .i64 (t : Int), .int .i64 y2] 29) = W1 at *
        generalize wr.heap.size = A at *
        clear hm hr k0 k1 k2 hne hgb
        have hbc := HB.out.box.cells
        obtain ⟨k0, k1, k2⟩ := hbc
        go_cut [4] (fun s4 wx => ∃ G2 L2, s4 = .slice (some ⟨G2, 0, none⟩) 5 5 ∧ Hid (Both w B G2 A L2 y0 (t : Int) y2 wx))
        case first =>
          as_aux_lemma =>
            have hAW : w.heap.size ≤ W1.heap.size := HB.out.mine.2.1
            by_cases h1 : y0 = 1
            · clear hAW
              subst h1
              go_wp2_with fail
              refine (stop_own (t : Int) HB.out.mine).mono ?_; rintro e x3 ⟨⟨_, rfl⟩, h3, ho3⟩
              have hr3 := HB.out.row.only ho3 HB.out.gb
              have hb3 := HB.out.box.only ho3 HB.out.ab
              rw [stop_in L t ht5] at h3
              have c3 := rowAt hr3 ht5
              have z3 := hr3.frozen t
              obtain ⟨k0', k1', k2'⟩ := hb3.cells
              have H3 : Hid (Both w B G A (L.set t 0) 1 (t : Int) y2 (x3.setCell ⟨G, t, none⟩ (.int .i64 0))) := Lib.hid
                ⟨h3.only (Only.set x3 G t _) HB.out.gb.symm HB.out.base, row_set hr3 ht5 (by omega) rfl, HB.out.gb, HB.out.base, hb3.only (Only.set x3 G t _) HB.out.ag, HB.out.ab, HB.out.ag, HB.out.abase⟩
              clear h3 hr3 hb3 ho3 k0 k1 k2
              go_wp2_with fail
              all_goals go_meet
              all_goals exact ⟨G, _, rfl, H3⟩
            · by_cases h2 : y0 = 2
              · clear h1
                subst h2
                have e1 : ((2 : Int) == 1) = false := rfl
                have HT0 : Hid (Tk w B G A W1.heap.size L 2 (t : Int) y2 0 (.slice none 0 0) W1) := Lib.hid ⟨HB.out.mine, by rw [tickTo_zero]; exact HB.out.row, HB.out.box, OwnI.nil, HB.out.base, HB.out.gb, HB.out.ab, HB.out.ag, HB.out.abase, HB.out.row.lt, HB.out.mine.2.2.2.lt, HB.out.box.lt, HB.out.mine.2.1, Nat.le_refl _⟩
                have HQ : Hid (W1.heap.size = W1.heap.size) := Lib.hid rfl
                clear hAW k1 k2
                go_wp2_with fail
                clear k0
                generalize W1.heap.size = q at *
                go_loopw [8, 70] (fun s8 s70 wr => ∃ k : Nat, k ≤ 5 ∧ s70 = .int .i64 (k : Int) ∧ Hid (Tk w B G A q L 2 (t : Int) y2 k s8 wr)) (fun _ s70 _ => 5 - (intOf s70).toNat)
                case atStart => exact ⟨0, Nat.zero_le _, rfl, HT0⟩
                case round =>
                  obtain ⟨k, hk, rfl, htk⟩ := hrel
                  by_cases hlt5 : k < 5
                  · have hkl : k < L.length := by rw [htk.out.mine.2.2.2.len]; exact hlt5
                    have hc := rowAt htk.out.row hlt5
                    rw [tickTo_at hkl] at hc
                    have hz := htk.out.row.frozen k
                    obtain ⟨x, hxx⟩ : ∃ x, L.getD k 0 = x := ⟨_, rfl⟩
                    have hx5 : x ≤ 1048576 := by have := htk.out.mine.2.2.2.top k; omega
                    rw [hxx] at hc
                    have HX := Lib.hid hxx
                    clear hxx
                    have hk5 : (k : Int) < 5 := by omega
                    by_cases h1 : x = 1
                    · subst h1
                      go_wp2_with (at_builtin; refine wpList_appI rfl (.tmp 78) (.tmp 80) 27 rfl Try.underlying27 q _ _ rfl (OwnI.below htk.out.own ((Below.refl _ _).alloc (Nat.le_refl _) _)) _ 1 1 [(k : Int)] rfl (rdI_lit1 _ _) (fun h => by cases h) (by have := overs_len L k; omega) (by have := htk.out.sq; simp; omega) ?_)
                      intro v' w1 hown' hgrow
                      obtain ⟨_, g2, g3, _⟩ := htk.out.app hgrow hown'
                      have c9 := rowAt g2 hlt5
                      rw [tickTo_at hkl, HX.out] at c9
                      have z9 := g2.frozen k
                      have HO := Lib.hid hown'
                      have HGR := Lib.hid hgrow
                      clear hown' hgrow hc hz g2 g3
                      go_wp2_with fail
                      all_goals go_roundw
                      all_goals first
                        | (case rel => exact ⟨k + 1, by omega, by go_num, Lib.hid (htk.out.one hlt5 HX.out HGR.out HO.out rfl)⟩)
                        | (case measure => simp [intOf]; omega)
                    · have hd1 : ((x : Int) == 1) = false := by simp; omega
                      go_wp2_with fail
                      all_goals go_roundw
                      all_goals first
                        | (case rel => exact ⟨k + 1, by omega, by go_num, Lib.hid (htk.out.set hlt5 HX.out h1 (by omega))⟩)
                        | (case measure => simp [intOf]; omega)
                  · have hk9 : k = 5 := by omega
                    subst hk9
                    clear hlt5
                    go_wp2_with fail
                    refine (tick_own htk.out.mine).mono ?_; rintro e x5 ⟨a5, c5, rfl, hr5, h5, ho5⟩
                    have hrow5 := htk.out.row.only ho5 htk.out.gb
                    rw [tickTo_all htk.out.mine.2.2.2.len] at hrow5
                    have hbox5 := htk.out.box.only ho5 htk.out.ab
                    obtain ⟨a6, n6, c6, rfl, _, hr6⟩ := (own_only htk.out.own ho5 htk.out.bq).form
                    have e6 := hr6.1
                    have hl6 := overs_len L 5
                    subst e6
                    have HR5 := Lib.hid hr5
                    have HR6 := Lib.hid hr6
                    have H5 := Lib.hid h5
                    have HW5 := Lib.hid hrow5
                    have HX5 := Lib.hid hbox5
                    have HL6 := Lib.hid hl6
                    clear hr5 hr6 h5 hrow5 hbox5 hl6 ho5
                    go_wp2_with fail
                    refine (Ref.rsame_any a5 _ c5 (oversL L) a6 _ c6 (oversTo L 5) _ HR5.out HR6.out (by have := HL6.out; unfold oversL; omega) (by have := HL6.out; omega)).mono ?_; rintro e x6 ⟨rfl, hb6⟩
                    rw [show decide (oversL L = oversTo L 5) = true from decide_eq_true rfl]
                    have H6 : Hid (Both w B G A (tickL L) 2 (t : Int) y2 x6) := Lib.hid ⟨H5.out.only (Only.of_below (B := x5.heap.size) hb6) (by have := H5.out.2.2.2.lt; omega) H5.out.2.1, HW5.out.below hb6, htk.out.gb, htk.out.base, HX5.out.only (Only.of_below (B := x5.heap.size) hb6) (by have := HX5.out.lt; omega), htk.out.ab, htk.out.ag, htk.out.ga⟩
                    clear hb6
                    go_wp2_with fail
                    go_meet
                    exact ⟨G, _, rfl, H6⟩
              · by_cases h3 : y0 = 3
                · clear h1 h2
                  subst h3
                  have e1 : ((3 : Int) == 1) = false := rfl
                  have e2 : ((3 : Int) == 2) = false := rfl
                  go_wp2_with fail
                  refine (clear_own HB.out.mine).mono ?_; rintro e x3 ⟨⟨_, rfl⟩, h4, ho3⟩
                  have hb3 := HB.out.box.only ho3 HB.out.ab
                  have hgs : w.heap.size ≤ x3.heap.size := h4.2.1
                  have hBl := h4.2.2.2.lt
                  have hAl := hb3.lt
                  have H3 : Hid (Both w B x3.heap.size A zeroL 3 (t : Int) y2 (x3.alloc (.cells #[.int .i64 0, .int .i64 0, .int .i64 0, .int .i64 0, .int .i64 0] 3))) := Lib.hid
                    ⟨h4.only (Only.of_below (B := x3.heap.size) ((Below.refl _ x3).alloc (Nat.le_refl _) _)) (by omega) hgs, row_new x3, by omega, hgs, hb3.only (Only.of_below (B := x3.heap.size) ((Below.refl _ x3).alloc (Nat.le_refl _) _)) (by omega), HB.out.ab, by omega, HB.out.abase⟩
                  clear h4 hb3 ho3 k0 k1 k2
                  go_wp2_with fail
                  all_goals go_meet
                  all_goals exact ⟨_, _, rfl, H3⟩
                · clear hAW
                  have e1 : (y0 == 1) = false := by simpa using h1
                  have e2 : (y0 == 2) = false := by simpa using h2
                  have e3 : (y0 == 3) = false := by simpa using h3
                  go_wp2_with fail
                  refine (start_own (t : Int) y2 HB.out.mine).mono ?_; rintro e x3 ⟨⟨_, rfl⟩, h4, ho3⟩
                  have hr3 := HB.out.row.only ho3 HB.out.gb
                  have hb3 := HB.out.box.only ho3 HB.out.ab
                  rw [start_in L t y2 ht5] at h4
                  have c3 := rowAt hr3 ht5
                  have z3 := hr3.frozen t
                  obtain ⟨k0', k1', k2'⟩ := hb3.cells
                  obtain ⟨c, hc, hc5⟩ : ∃ c : Nat, clampN y2 = c ∧ c ≤ 1048576 := ⟨_, rfl, by unfold clampN; omega⟩
                  rw [hc] at h4
                  have hcv : min (max y2 1) 1048576 = (c : Int) := by unfold clampN at hc; omega
                  have HCV := Lib.hid hcv
                  have H4 := Lib.hid h4
                  have HR3 := Lib.hid hr3
                  have HB3 := Lib.hid hb3
                  clear h4 hr3 hb3 ho3 k0 k1 k2 hc hcv
                  go_wp2_with fail
                  all_goals go_meet
                  all_goals exact ⟨G, L.set t c, rfl, Lib.hid ⟨H4.out.only (Only.set x3 G t _) HB.out.gb.symm HB.out.base, row_set HR3.out ht5 hc5 (by have := HCV.out; omega), HB.out.gb, HB.out.base, HB3.out.only (Only.set x3 G t _) HB.out.ag, HB.out.ab, HB.out.ag, HB.out.abase⟩⟩
        case rest =>
          as_aux_lemma =>
            obtain ⟨G2, L2, rfl, HB2⟩ := hcut
            clear HB k0 k1 k2
            obtain ⟨WT, hWT⟩ : ∃ WT, WT = wc := ⟨_, rfl⟩
            rw [← hWT] at HB2 ⊢
            clear hWT
            go_wp2_with fail
            go_loop [10, 102] (fun s10 s102 => ∃ k m : Nat, k ≤ 5 ∧ s102 = .int .i64 (k : Int) ∧ s10 = .int .i64 (m : Int) ∧ Hid (nextTo L2 k = m)) (fun _ s102 => 5 - (intOf s102).toNat)
            case atStart => exact ⟨0, 0, by omega, rfl, rfl, Lib.hid rfl⟩
            case round =>
              obtain ⟨k, m, hk, rfl, rfl, hmm⟩ := hrel
              by_cases hlt5 : k < 5
              · have hkl : k < L2.length := by rw [HB2.out.row.len]; exact hlt5
                have hc := rowAt HB2.out.row hlt5
                obtain ⟨x, hxx⟩ : ∃ x, L2.getD k 0 = x := ⟨_, rfl⟩
                have hll : leftL L2 (k : Int) = x := by rw [leftL_at L2 k hlt5, hxx]
                have HLL := Lib.hid hll
                rw [hxx] at hc
                have HX := Lib.hid hxx
                clear hxx hll
                have hk5 : (k : Int) < 5 := by omega
                by_cases h0 : x = 0
                · have hd0 : decide ((0 : Int) < (x : Int)) = false := decide_eq_false (by omega)
                  have hd9 : decide (0 < x) = false := decide_eq_false (by omega)
                  go_wp2_with fail
                  refine (left_own (k : Int) HB2.out.mine).mono ?_; rintro e w9 ⟨rfl, rfl⟩
                  rw [HLL.out]
                  go_wp2_with fail
                  refine (runs_own (k : Int) HB2.out.mine).mono ?_; rintro e w9 ⟨rfl, rfl⟩
                  rw [HLL.out, hd9]
                  go_wp2_with fail
                  go_round
                  case rel => exact ⟨k + 1, m, by omega, by go_num, rfl, Lib.hid (next_no HX.out hmm.out (by omega))⟩
                  case measure => simp [intOf]; omega
                · have hd0 : decide ((0 : Int) < (x : Int)) = true := decide_eq_true (by omega)
                  have hd9 : decide (0 < x) = true := decide_eq_true (by omega)
                  by_cases h1 : m = 0
                  · have hd1 : ((m : Int) == 0) = true := by simpa using h1
                    go_wp2_with fail
                    refine (left_own (k : Int) HB2.out.mine).mono ?_; rintro e w9 ⟨rfl, rfl⟩
                    rw [HLL.out]
                    go_wp2_with fail
                    refine (runs_own (k : Int) HB2.out.mine).mono ?_; rintro e w9 ⟨rfl, rfl⟩
                    rw [HLL.out, hd9]
                    go_wp2_with fail
                    go_round
                    case rel => exact ⟨k + 1, x, by omega, by go_num, rfl, Lib.hid (next_yes HX.out hmm.out (by omega))⟩
                    case measure => simp [intOf]; omega
                  · have hd1 : ((m : Int) == 0) = false := by simpa using h1
                    by_cases h2 : x < m
                    · have hd2 : decide (x < m) = true := decide_eq_true h2
                      go_wp2_with fail
                      refine (left_own (k : Int) HB2.out.mine).mono ?_; rintro e w9 ⟨rfl, rfl⟩
                      rw [HLL.out]
                      go_wp2_with fail
                      refine (runs_own (k : Int) HB2.out.mine).mono ?_; rintro e w9 ⟨rfl, rfl⟩
                      rw [HLL.out, hd9]
                      go_wp2_with fail
                      go_round
                      case rel => exact ⟨k + 1, x, by omega, by go_num, rfl, Lib.hid (next_yes HX.out hmm.out (by omega))⟩
                      case measure => simp [intOf]; omega
                    · have hd2 : decide (x < m) = false := decide_eq_false h2
                      go_wp2_with fail
                      refine (left_own (k : Int) HB2.out.mine).mono ?_; rintro e w9 ⟨rfl, rfl⟩
                      rw [HLL.out]
                      go_wp2_with fail
                      refine (runs_own (k : Int) HB2.out.mine).mono ?_; rintro e w9 ⟨rfl, rfl⟩
                      rw [HLL.out, hd9]
                      go_wp2_with fail
                      go_round
                      case rel => exact ⟨k + 1, m, by omega, by go_num, rfl, Lib.hid (next_no HX.out hmm.out (by omega))⟩
                      case measure => simp [intOf]; omega
              · have hk9 : k = 5 := by omega
                subst hk9
                clear hlt5
                have HN : Hid (nextL L2 = m) := Lib.hid hmm.out
                have hcase : (decide (0 < m) = true ∧ decide ((0 : Int) < (m : Int)) = true) ∨ (decide (0 < m) = false ∧ decide ((0 : Int) < (m : Int)) = false) := by
                  by_cases h : 0 < m
                  · exact .inl ⟨decide_eq_true h, decide_eq_true (by omega)⟩
                  · exact .inr ⟨decide_eq_false h, decide_eq_false (by omega)⟩
                rcases hcase with ⟨q1, q2⟩ | ⟨q1, q2⟩
                all_goals
                  go_wp2_with fail
                  refine (next_own HB2.out.mine).mono ?_; rintro e w9 ⟨rfl, rfl⟩
                  rw [HN.out, q1]
                  go_wp2_with fail
                  go_roundg (150 - (i + 1))
                  case measure => omega
                  case rel => exact ⟨i + 1, G2, L2, by omega, by omega, by omega, by go_num, rfl, Lib.hid HB2.out.mine, Lib.hid HB2.out.row, Lib.hid HB2.out.gb, Lib.hid HB2.out.base⟩
      · have HT := Lib.hid ht
        have htc : decide (0 ≤ y1) = false ∨ (decide (0 ≤ y1) = true ∧ decide (y1 < 5) = false) := by
          by_cases h : 0 ≤ y1
          · exact .inr ⟨decide_eq_true h, decide_eq_false (by omega)⟩
          · exact .inl (decide_eq_false h)
        clear ht
        rcases htc with ht1 | ⟨ht1, ht2⟩
        all_goals
          have HB : Hid (Both w B G wr.heap.size L y0 y1 y2 (wr.alloc (.cells #[.int .i64 y0, .int .i64 y1, .int .i64 y2] 29))) := Lib.hid
            ⟨hm.out.only (Only.of_below (B := wr.heap.size) ((Below.refl _ wr).alloc (Nat.le_refl _) _)) (by have := hm.out.2.2.2.lt; omega) hm.out.2.1, hr.out.below ((Below.refl _ wr).alloc (Nat.le_refl _) _), hne.out, hgb.out,
              heap_alloc_new wr _, by have := hm.out.2.2.2.lt; omega, by have := hr.out.lt; omega, hm.out.2.1⟩
          go_upto_block 2 with (fail)
          generalize wr.alloc (.cells #[.int .i64 y0, .int .i64 y1, .int .i64 y2] 29) = W1 at *
          generalize wr.heap.size = A at *
          clear hm hr k0 k1 k2 hne hgb
          have hbc := HB.out.box.cells
          obtain ⟨k0, k1, k2⟩ := hbc
          go_cut [4] (fun s4 wx => ∃ G2 L2, s4 = .slice (some ⟨G2, 0, none⟩) 5 5 ∧ Hid (Both w B G2 A L2 y0 y1 y2 wx))
          case first =>
            as_aux_lemma =>
              have hAW : w.heap.size ≤ W1.heap.size := HB.out.mine.2.1
              by_cases h1 : y0 = 1
              · clear hAW
                subst h1
                go_wp2_with fail
                refine (stop_own y1 HB.out.mine).mono ?_; rintro e x3 ⟨⟨_, rfl⟩, h3, ho3⟩
                have hr3 := HB.out.row.only ho3 HB.out.gb
                have hb3 := HB.out.box.only ho3 HB.out.ab
                rw [stop_out L y1 HT.out] at h3
                have H3 : Hid (Both w B G A L 1 y1 y2 x3) := Lib.hid ⟨h3, hr3, HB.out.gb, HB.out.base, hb3, HB.out.ab, HB.out.ag, HB.out.abase⟩
                clear h3 hr3 hb3 ho3 k0 k1 k2
                go_wp2_with fail
                all_goals go_meet
                all_goals exact ⟨G, L, rfl, H3⟩
              · by_cases h2 : y0 = 2
                · clear h1
                  subst h2
                  have e1 : ((2 : Int) == 1) = false := rfl
                  have HT0 : Hid (Tk w B G A W1.heap.size L 2 y1 y2 0 (.slice none 0 0) W1) := Lib.hid ⟨HB.out.mine, by rw [tickTo_zero]; exact HB.out.row, HB.out.box, OwnI.nil, HB.out.base, HB.out.gb, HB.out.ab, HB.out.ag, HB.out.abase, HB.out.row.lt, HB.out.mine.2.2.2.lt, HB.out.box.lt, HB.out.mine.2.1, Nat.le_refl _⟩
                  have HQ : Hid (W1.heap.size = W1.heap.size) := Lib.hid rfl
                  clear hAW k1 k2
                  go_wp2_with fail
                  clear k0
                  generalize W1.heap.size = q at *
                  go_loopw [8, 70] (fun s8 s70 wr => ∃ k : Nat, k ≤ 5 ∧ s70 = .int .i64 (k : Int) ∧ Hid (Tk w B G A q L 2 y1 y2 k s8 wr)) (fun _ s70 _ => 5 - (intOf s70).toNat)
                  case atStart => exact ⟨0, Nat.zero_le _, rfl, HT0⟩
                  case round =>
                    obtain ⟨k, hk, rfl, htk⟩ := hrel
                    by_cases hlt5 : k < 5
                    · have hkl : k < L.length := by rw [htk.out.mine.2.2.2.len]; exact hlt5
                      have hc := rowAt htk.out.row hlt5
                      rw [tickTo_at hkl] at hc
                      have hz := htk.out.row.frozen k
                      obtain ⟨x, hxx⟩ : ∃ x, L.getD k 0 = x := ⟨_, rfl⟩
                      have hx5 : x ≤ 1048576 := by have := htk.out.mine.2.2.2.top k; omega
                      rw [hxx] at hc
                      have HX := Lib.hid hxx
                      clear hxx
                      have hk5 : (k : Int) < 5 := by omega
                      by_cases h1 : x = 1
                      · subst h1
                        go_wp2_with (at_builtin; refine wpList_appI rfl (.tmp 78) (.tmp 80) 27 rfl Try.underlying27 q _ _ rfl (OwnI.below htk.out.own ((Below.refl _ _).alloc (Nat.le_refl _) _)) _ 1 1 [(k : Int)] rfl (rdI_lit1 _ _) (fun h => by cases h) (by have := overs_len L k; omega) (by have := htk.out.sq; simp; omega) ?_)
                        intro v' w1 hown' hgrow
                        obtain ⟨_, g2, g3, _⟩ := htk.out.app hgrow hown'
                        have c9 := rowAt g2 hlt5
                        rw [tickTo_at hkl, HX.out] at c9
                        have z9 := g2.frozen k
                        have HO := Lib.hid hown'
                        have HGR := Lib.hid hgrow
                        clear hown' hgrow hc hz g2 g3
                        go_wp2_with fail
                        all_goals go_roundw
                        all_goals first
                          | (case rel => exact ⟨k + 1, by omega, by go_num, Lib.hid (htk.out.one hlt5 HX.out HGR.out HO.out rfl)⟩)
                          | (case measure => simp [intOf]; omega)
                      · have hd1 : ((x : Int) == 1) = false := by simp; omega
                        go_wp2_with fail
                        all_goals go_roundw
                        all_goals first
                          | (case rel => exact ⟨k + 1, by omega, by go_num, Lib.hid (htk.out.set hlt5 HX.out h1 (by omega))⟩)
                          | (case measure => simp [intOf]; omega)
                    · have hk9 : k = 5 := by omega
                      subst hk9
                      clear hlt5
                      go_wp2_with fail
                      refine (tick_own htk.out.mine).mono ?_; rintro e x5 ⟨a5, c5, rfl, hr5, h5, ho5⟩
                      have hrow5 := htk.out.row.only ho5 htk.out.gb
                      rw [tickTo_all htk.out.mine.2.2.2.len] at hrow5
                      have hbox5 := htk.out.box.only ho5 htk.out.ab
                      obtain ⟨a6, n6, c6, rfl, _, hr6⟩ := (own_only htk.out.own ho5 htk.out.bq).form
                      have e6 := hr6.1
                      have hl6 := overs_len L 5
                      subst e6
                      have HR5 := Lib.hid hr5
                      have HR6 := Lib.hid hr6
                      have H5 := Lib.hid h5
                      have HW5 := Lib.hid hrow5
                      have HX5 := Lib.hid hbox5
                      have HL6 := Lib.hid hl6
                      clear hr5 hr6 h5 hrow5 hbox5 hl6 ho5
                      go_wp2_with fail
                      refine (Ref.rsame_any a5 _ c5 (oversL L) a6 _ c6 (oversTo L 5) _ HR5.out HR6.out (by have := HL6.out; unfold oversL; omega) (by have := HL6.out; omega)).mono ?_; rintro e x6 ⟨rfl, hb6⟩
                      rw [show decide (oversL L = oversTo L 5) = true from decide_eq_true rfl]
                      have H6 : Hid (Both w B G A (tickL L) 2 y1 y2 x6) := Lib.hid ⟨H5.out.only (Only.of_below (B := x5.heap.size) hb6) (by have := H5.out.2.2.2.lt; omega) H5.out.2.1, HW5.out.below hb6, htk.out.gb, htk.out.base, HX5.out.only (Only.of_below (B := x5.heap.size) hb6) (by have := HX5.out.lt; omega), htk.out.ab, htk.out.ag, htk.out.ga⟩
                      clear hb6
                      go_wp2_with fail
                      go_meet
                      exact ⟨G, _, rfl, H6⟩
                · by_cases h3 : y0 = 3
                  · clear h1 h2
                    subst h3
                    have e1 : ((3 : Int) == 1) = false := rfl
                    have e2 : ((3 : Int) == 2) = false := rfl
                    go_wp2_with fail
                    refine (clear_own HB.out.mine).mono ?_; rintro e x3 ⟨⟨_, rfl⟩, h4, ho3⟩
                    have hb3 := HB.out.box.only ho3 HB.out.ab
                    have hgs : w.heap.size ≤ x3.heap.size := h4.2.1
                    have hBl := h4.2.2.2.lt
                    have hAl := hb3.lt
                    have H3 : Hid (Both w B x3.heap.size A zeroL 3 y1 y2 (x3.alloc (.cells #[.int .i64 0, .int .i64 0, .int .i64 0, .int .i64 0, .int .i64 0] 3))) := Lib.hid
                      ⟨h4.only (Only.of_below (B := x3.heap.size) ((Below.refl _ x3).alloc (Nat.le_refl _) _)) (by omega) hgs, row_new x3, by omega, hgs, hb3.only (Only.of_below (B := x3.heap.size) ((Below.refl _ x3).alloc (Nat.le_refl _) _)) (by omega), HB.out.ab, by omega, HB.out.abase⟩
                    clear h4 hb3 ho3 k0 k1 k2
                    go_wp2_with fail
                    all_goals go_meet
                    all_goals exact ⟨_, _, rfl, H3⟩
                  · clear hAW
                    have e1 : (y0 == 1) = false := by simpa using h1
                    have e2 : (y0 == 2) = false := by simpa using h2
                    have e3 : (y0 == 3) = false := by simpa using h3
                    go_wp2_with fail
                    refine (start_own y1 y2 HB.out.mine).mono ?_; rintro e x3 ⟨⟨_, rfl⟩, h4, ho3⟩
                    have hr3 := HB.out.row.only ho3 HB.out.gb
                    have hb3 := HB.out.box.only ho3 HB.out.ab
                    rw [start_out L y1 y2 HT.out] at h4
                    have H3 : Hid (Both w B G A L y0 y1 y2 x3) := Lib.hid ⟨h4, hr3, HB.out.gb, HB.out.base, hb3, HB.out.ab, HB.out.ag, HB.out.abase⟩
                    clear h4 hr3 hb3 ho3 k0 k1 k2
                    go_wp2_with fail
                    all_goals go_meet
                    all_goals exact ⟨G, L, rfl, H3⟩
          case rest =>
            as_aux_lemma =>
              obtain ⟨G2, L2, rfl, HB2⟩ := hcut
              clear HB k0 k1 k2
              obtain ⟨WT, hWT⟩ : ∃ WT, WT = wc := ⟨_, rfl⟩
              rw [← hWT] at HB2 ⊢
              clear hWT
              go_wp2_with fail
              go_loop [10, 102] (fun s10 s102 => ∃ k m : Nat, k ≤ 5 ∧ s102 = .int .i64 (k : Int) ∧ s10 = .int .i64 (m : Int) ∧ Hid (nextTo L2 k = m)) (fun _ s102 => 5 - (intOf s102).toNat)
              case atStart => exact ⟨0, 0, by omega, rfl, rfl, Lib.hid rfl⟩
              case round =>
                obtain ⟨k, m, hk, rfl, rfl, hmm⟩ := hrel
                by_cases hlt5 : k < 5
                · have hkl : k < L2.length := by rw [HB2.out.row.len]; exact hlt5
                  have hc := rowAt HB2.out.row hlt5
                  obtain ⟨x, hxx⟩ : ∃ x, L2.getD k 0 = x := ⟨_, rfl⟩
                  have hll : leftL L2 (k : Int) = x := by rw [leftL_at L2 k hlt5, hxx]
                  have HLL := Lib.hid hll
                  rw [hxx] at hc
                  have HX := Lib.hid hxx
                  clear hxx hll
                  have hk5 : (k : Int) < 5 := by omega
                  by_cases h0 : x = 0
                  · have hd0 : decide ((0 : Int) < (x : Int)) = false := decide_eq_false (by omega)
                    have hd9 : decide (0 < x) = false := decide_eq_false (by omega)
                    go_wp2_with fail
                    refine (left_own (k : Int) HB2.out.mine).mono ?_; rintro e w9 ⟨rfl, rfl⟩
                    rw [HLL.out]
                    go_wp2_with fail
                    refine (runs_own (k : Int) HB2.out.mine).mono ?_; rintro e w9 ⟨rfl, rfl⟩
                    rw [HLL.out, hd9]
                    go_wp2_with fail
                    go_round
                    case rel => exact ⟨k + 1, m, by omega, by go_num, rfl, Lib.hid (next_no HX.out hmm.out (by omega))⟩
                    case measure => simp [intOf]; omega
                  · have hd0 : decide ((0 : Int) < (x : Int)) = true := decide_eq_true (by omega)
                    have hd9 : decide (0 < x) = true := decide_eq_true (by omega)
                    by_cases h1 : m = 0
                    · have hd1 : ((m : Int) == 0) = true := by simpa using h1
                      go_wp2_with fail
                      refine (left_own (k : Int) HB2.out.mine).mono ?_; rintro e w9 ⟨rfl, rfl⟩
                      rw [HLL.out]
                      go_wp2_with fail
                      refine (runs_own (k : Int) HB2.out.mine).mono ?_; rintro e w9 ⟨rfl, rfl⟩
                      rw [HLL.out, hd9]
                      go_wp2_with fail
                      go_round
                      case rel => exact ⟨k + 1, x, by omega, by go_num, rfl, Lib.hid (next_yes HX.out hmm.out (by omega))⟩
                      case measure => simp [intOf]; omega
                    · have hd1 : ((m : Int) == 0) = false := by simpa using h1
                      by_cases h2 : x < m
                      · have hd2 : decide (x < m) = true := decide_eq_true h2
                        go_wp2_with fail
                        refine (left_own (k : Int) HB2.out.mine).mono ?_; rintro e w9 ⟨rfl, rfl⟩
                        rw [HLL.out]
                        go_wp2_with fail
                        refine (runs_own (k : Int) HB2.out.mine).mono ?_; rintro e w9 ⟨rfl, rfl⟩
                        rw [HLL.out, hd9]
                        go_wp2_with fail
                        go_round
                        case rel => exact ⟨k + 1, x, by omega, by go_num, rfl, Lib.hid (next_yes HX.out hmm.out (by omega))⟩
                        case measure => simp [intOf]; omega
                      · have hd2 : decide (x < m) = false := decide_eq_false h2
                        go_wp2_with fail
                        refine (left_own (k : Int) HB2.out.mine).mono ?_; rintro e w9 ⟨rfl, rfl⟩
                        rw [HLL.out]
                        go_wp2_with fail
                        refine (runs_own (k : Int) HB2.out.mine).mono ?_; rintro e w9 ⟨rfl, rfl⟩
                        rw [HLL.out, hd9]
                        go_wp2_with fail
                        go_round
                        case rel => exact ⟨k + 1, m, by omega, by go_num, rfl, Lib.hid (next_no HX.out hmm.out (by omega))⟩
                        case measure => simp [intOf]; omega
                · have hk9 : k = 5 := by omega
                  subst hk9
                  clear hlt5
                  have HN : Hid (nextL L2 = m) := Lib.hid hmm.out
                  have hcase : (decide (0 < m) = true ∧ decide ((0 : Int) < (m : Int)) = true) ∨ (decide (0 < m) = false ∧ decide ((0 : Int) < (m : Int)) = false) := by
                    by_cases h : 0 < m
                    · exact .inl ⟨decide_eq_true h, decide_eq_true (by omega)⟩
                    · exact .inr ⟨decide_eq_false h, decide_eq_false (by omega)⟩
                  rcases hcase with ⟨q1, q2⟩ | ⟨q1, q2⟩
                  all_goals
                    go_wp2_with fail
                    refine (next_own HB2.out.mine).mono ?_; rintro e w9 ⟨rfl, rfl⟩
                    rw [HN.out, q1]
                    obtain ⟨b0, b1, b2⟩ := HB2.out.box.cells
                    go_wp2_with fail
                    refine (left_own y1 HB2.out.mine).mono ?_; rintro e w9 ⟨rfl, rfl⟩
                    rw [left_out L2 y1 HT.out]
                    go_wp2_with fail
                    refine (runs_own y1 HB2.out.mine).mono ?_; rintro e w9 ⟨rfl, rfl⟩
                    rw [left_out L2 y1 HT.out]
                    go_wp2_with fail
                    go_roundg (150 - (i + 1))
                    case measure => omega
                    case rel => exact ⟨i + 1, G2, L2, by omega, by omega, by omega, by go_num, rfl, Lib.hid HB2.out.mine, Lib.hid HB2.out.row, Lib.hid HB2.out.gb, Lib.hid HB2.out.base⟩
    · have hcase : decide (i < n) = false ∨ (decide (i < n) = true ∧ decide ((i : Int) < 150) = false) := by
        by_cases h1 : i < n
        · exact .inr ⟨decide_eq_true h1, decide_eq_false (by omega)⟩
        · exact .inl (decide_eq_false h1)
      clear hgo
      rcases hcase with hd1 | ⟨hd1, hd2⟩
      all_goals
        go_wp2_with fail
        go_ret
        exact ⟨rfl, hm.out.1⟩

theorem own : ownKnob Try.prog.godebug = none := by kernel_rfl
theorem laidOut : laidOutB Try.prog = true := by kernel_rfl

set_option maxRecDepth 100000 in
theorem lifted (os : Os) (started : os.Started) (H : Type) (enc : TypeId × Value → H) :
    ReturnsInHanded {} Try.checked os 3 .any (Rows.timerPlaysSpec.pre6 enc Try.prog Try.f3 Rows.timerPlaysRow.domain false) (Rows.timerPlaysSpec.post enc Try.prog Try.f3 false true false false) := by
  refine Base.law_lifted (C := Try.checked) own started (by kernel_rfl) Try.func3 laidOut (by kernel_rfl) rfl Try.underlying4 rfl ?_
    (ChangeSpec.witness6 (enc := enc) (C := Try.checked) false ⟨#[], #[.slice none 0 0], []⟩ 8 (by kernel_rfl) (by kernel_rfl) (by kernel_rfl) (by kernel_rfl)) ?_
  · intro ds h
    match ds, h with
    | [_d0], _ => exact ⟨rfl, rfl, rfl⟩
  · intro W base args ds before hval0 hA0 hlt hsz
    have hval : ∀ (j : Nat) t v, Try.f3.params[j]? = some t → args[j]? = some v → Value.okWide Try.prog W .any base t v := hval0
    have hA : DataW.TrodAll enc Try.prog W 0 (fun _ => true) true Try.f3.params.toList args.toList ds before := hA0
    clear hval0 hA0
    rw [Try.params3] at hA hval hsz
    obtain ⟨v0, vs0, d0, ds0, p0, q0, hargs, rfl, rfl, h0, r0⟩ := trodAll_cons hA
    obtain ⟨rfl, rfl, rfl⟩ := trodAll_nil r0
    obtain rfl : args = #[v0] := by cases args; simp_all
    obtain ⟨x0, w0⟩ := Base.open_shape (s := (.slice (.struct [(.int .i64), (.int .i64), (.int .i64)]))) (by kernel_rfl) (hval 0 22 v0 rfl rfl) h0 (fun x hx => hlt x (by simp [hx])) hsz (j := 0) rfl rfl
    exact walk W v0 x0 w0

theorem over : Rows.timerPlaysRow.holds Try.pinned (OpenSpec.ofChange Rows.timerPlaysSpec) :=
  OpenClaim.holds_of_wide 3 Try.f3 rfl rfl rfl rfl rfl rfl rfl ⟨rfl, rfl, rfl, rfl, rfl⟩ rfl rfl rfl rfl rfl (by kernel_rfl) Try.func3 (by kernel_rfl)
    (of_decide_eq_true (by kernel_rfl)) (by unfold Func.isWrapper; first | (rw [if_pos (by decide +kernel)]; kernel_rfl) | (rw [if_neg (by decide +kernel)]; exact ⟨rfl, rfl⟩))
    (fun os started H enc _ => lifted os started H enc)

theorem proved : Rows.TimerPlaysSaid :=
  over
#print axioms proved
end Go.Proofs.Ytighpblhghfneaa.timerPlays
