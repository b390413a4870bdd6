/-
  The numbers of a set, is one there, and are two sets the same.
-/
import Derived.Test.YtdnikjjcgoilfaaSpanJoin
import Derived.Laws.StructEq
namespace Go.Proofs.Ytdnikjjcgoilfaa.SpanCalls
open Go.RowKit SpanMath View

/-- a box of one span, known whole -/
def Box (w : World) (B : Nat) (x1 x2 : Int) : Prop := w.heap[B]? = some (.cells #[.int .i64 x1, .int .i64 x2] 56 (0, 0))
theorem Box.new (w : World) (x1 x2 : Int) : Box (w.alloc (.cells #[.int .i64 x1, .int .i64 x2] 56)) w.heap.size x1 x2 := heap_alloc_new w _
theorem Box.lt {w : World} {B : Nat} {x1 x2 : Int} (h : Box w B x1 x2) : B < w.heap.size := (Array.getElem?_eq_some_iff.1 h).1
theorem Box.cells {w : World} {B : Nat} {x1 x2 : Int} (h : Box w B x1 x2) : w.cell? ⟨B, 0, none⟩ = some (.int .i64 x1) ∧ w.cell? ⟨B, 1, none⟩ = some (.int .i64 x2) := by
  rw [cell_of_row w B 0 _ _ (0, 0) h, cell_of_row w B 1 _ _ (0, 0) h]
  exact ⟨rfl, rfl⟩
theorem Box.free {w : World} {B : Nat} {x1 x2 : Int} (h : Box w B x1 x2) (o : Nat) : w.frozen? ⟨B, o, none⟩ = false := frozen_of_row w B o _ _ h
theorem Box.below {w w' : World} {B : Nat} {x1 x2 : Int} (h : Box w B x1 x2) (hb : Below w.heap.size w w') : Box w' B x1 x2 := (hb.block B h.lt).trans h
theorem Box.grown {w w' : World} {row : Option Nat} {B : Nat} {x1 x2 : Int} (h : Box w B x1 x2) (hg : w.grownBy w' row) (hne : some B ≠ row) : Box w' B x1 x2 := (hg.block B h.lt hne).trans h
theorem Box.far {w : World} {base B : Nat} {v : Value} {L : List Int} {x1 x2 : Int} (h : Box w B x1 x2) (ho : OwnI w base v L) : some B ≠ v.ownBlock := by
  rcases ho.2 with ⟨rfl, _⟩ | ⟨g, cap, cur, rfl, _, hh, _⟩
  · simp [Value.ownBlock]
  · intro e
    have : B = g := by simpa [Value.ownBlock] using e
    subst this
    unfold Box at h
    rw [h] at hh
    injection hh with hh
    injection hh with _ ht
    exact absurd ht (by decide)
theorem Box.near {w : World} {base B : Nat} {v : Value} {S : List Sp} (h : B < base) (ho : OwnS w base v S) : some B ≠ v.ownBlock := by
  intro e
  have := (ho.lt B e.symm).1
  omega

theorem Box.set0 {w : World} {B : Nat} {x1 x2 : Int} (h : Box w B x1 x2) (u : Int) : Box (w.setCell ⟨B, 0, none⟩ (.int .i64 u)) B u x2 := by
  unfold Box
  rw [heap_setCell_same w B 0 _ _ _ h]
  rfl
theorem Box.set1 {w : World} {B : Nat} {x1 x2 : Int} (h : Box w B x1 x2) (u : Int) : Box (w.setCell ⟨B, 1, none⟩ (.int .i64 u)) B x1 u := by
  unfold Box
  rw [heap_setCell_same w B 1 _ _ _ h]
  rfl

/-- the first of a span's numbers -/
def head (x1 : Int) (j : Nat) : List Int := (List.range j).map fun i : Nat => x1 + (i : Int)
theorem head_succ (x1 : Int) (j : Nat) : head x1 (j + 1) = head x1 j ++ [x1 + (j : Int)] := by simp [head, List.range_succ]
theorem head_len (x1 : Int) (j : Nat) : (head x1 j).length = j := by simp [head]
theorem head_run (x1 x2 : Int) : head x1 (x2 - x1).toNat = run (x1, x2) := rfl

set_option maxRecDepth 100000 in
set_option maxHeartbeats 1000000 in
theorem list_any (a : Option Addr) (n cap : Nat) (S : List Sp) (w : World) (h : RdS w a n S) (hs : Small S) (hn : Norm S) :
    Calls Try.prog 20 #[.slice a n cap] w fun e w' => ∃ v, e = .returned v ∧ OwnI w' w.heap.size v (nums S) ∧ Below w.heap.size w w' := by
  have HL := Lib.hid h
  have HS := Lib.hid hs
  have HN := Lib.hid hn
  have hn1 : n ≤ 1000 := by rw [h.1]; exact hs.1
  clear h hs hn
  go_enter Try.func20, Try.ntmps20
  go_wp2_with fail
  go_loopw [3, 9] (fun v i wr => ∃ k : Nat, k ≤ n ∧ i = .int .i64 k ∧ OwnI wr w.heap.size v (nums (S.take k)) ∧ Below w.heap.size w wr) (fun _ i _ => n - (intOf i).toNat)
  case atStart => exact ⟨0, Nat.zero_le _, rfl, OwnI.nil, Below.refl _ _⟩
  case round =>
    obtain ⟨k, hk, rfl, hown, hb⟩ := hrel
    by_cases hlt : k < n
    · obtain ⟨b, off, rfl, _, hc1, hc2⟩ := (HL.out.below hb).at_ hlt
      have hl : k < S.length := by have := HL.out.1; omega
      have ht := nums_take S k hl
      have hle : (nums (S.take (k + 1))).length ≤ 800 := by
        have : (nums (S.take (k + 1))).length ≤ (nums S).length := by
          conv => rhs; rw [← List.take_append_drop (k + 1) S, nums_append, List.length_append]
          omega
        have := small_len HS.out HN.out
        omega
      obtain ⟨y, hy⟩ : ∃ y, S.getD k (0, 0) = y := ⟨_, rfl⟩
      have hmem : y ∈ S := by rw [← hy]; simp [List.getD, hl]
      have hyb := HS.out.2 y hmem
      have hyn := HN.out.2 y hmem
      rw [hy] at hc1 hc2 ht
      rw [ht, List.length_append, run_len] at hle
      obtain ⟨T, htt⟩ : ∃ T, nums (S.take k) = T := ⟨_, rfl⟩
      have HT : Hid (nums (S.take (k + 1)) = T ++ run y) := Lib.hid (by rw [ht, htt])
      rw [htt] at hown hle
      obtain ⟨y1, y2⟩ := y
      simp only at hyb hyn hc1 hc2 hle
      obtain ⟨b1, b2, b3, b4⟩ := hyb
      clear hy ht htt hmem
      have hsz := hb.size
      have hbox := Box.new wr y1 y2
      have hown0 := hown.below ((Below.refl _ wr).alloc (Nat.le_refl _) (.cells #[.int .i64 y1, .int .i64 y2] 56))
      have hb0 := hb.alloc hsz (.cells #[.int .i64 y1, .int .i64 y2] 56)
      have HB0 := Lib.hid hbox
      have HOW0 := Lib.hid hown0
      clear hbox hown0 hown hb
      obtain ⟨wo, rfl⟩ : ∃ wo : World, wo = wr := ⟨_, rfl⟩
      go_wp2_with fail
      go_loopw [3, 6] (fun v i wi => ∃ j : Nat, (j : Int) ≤ y2 - y1 ∧ i = .int .i64 (y1 + (j : Int)) ∧ (∃ a' n' cap', v = .slice a' n' cap' ∧ n' ≤ 800) ∧ OwnI wi w.heap.size v (T ++ head y1 j) ∧ Box wi wo.heap.size y1 y2 ∧ Below w.heap.size w wi) (fun _ i _ => (y2 - intOf i).toNat)
      case atStart =>
        obtain ⟨a', n', cap', rfl, _, hrd⟩ := HOW0.out.form
        refine ⟨0, by omega, by go_num, ⟨a', n', cap', rfl, by have := hrd.1; omega⟩, by simpa [head] using HOW0.out, HB0.out, hb0⟩
      case round =>
        obtain ⟨j, hj, rfl, ⟨a', n', cap', rfl, hn'⟩, hown', hbox', hb'⟩ := hrel
        have hcells := hbox'.cells
        obtain ⟨hx1, hx2⟩ := hcells
        have hsz' := hb'.size
        by_cases hlt' : y1 + (j : Int) < y2
        · have hlen : (T ++ head y1 j).length + 1 ≤ 800 := by rw [List.length_append, head_len]; omega
          have hgt : decide (y1 + (j : Int) < y2) = true := decide_eq_true hlt'
          have h65 : ((n' : Int) < 65536) := by omega
          have HN' := Lib.hid hn'
          have HLEN := Lib.hid hlen
          clear hn' hlen
          go_wp2_with (at_builtin; refine wpList_appI rfl (.tmp 26) (.tmp 28) 24 rfl Try.underlying24 w.heap.size _ (T ++ head y1 j) rfl (hown'.below ((Below.refl _ _).alloc (Nat.le_refl _) _)) _ 1 1 [y1 + (j : Int)] rfl (rdI_lit1 _ _) (fun h => by cases h) (by have := HLEN.out; omega) (by simp; omega) ?_)
          intro v2 w2 hown2 hgrow
          have hb2 : Below w.heap.size w w2 := own_grown (hb'.alloc hsz' _) (by simp; omega) hgrow (own_below hown' ((Below.refl _ _).alloc (Nat.le_refl _) _))
          have hbox2 : Box w2 wo.heap.size y1 y2 := (hbox'.below ((Below.refl _ _).alloc (Nat.le_refl _) _)).grown hgrow (hbox'.far hown')
          have hown3 : OwnI w2 w.heap.size v2 (T ++ head y1 (j + 1)) := by rw [head_succ]; simpa using hown2
          obtain ⟨a2, n2, cap2, rfl, _, hrd2⟩ := hown3.form
          have hn2 : n2 ≤ 800 := by have := hrd2.1; rw [List.length_append, head_len] at this; have hlen := HLEN.out; rw [List.length_append, head_len] at hlen; omega
          clear hgrow hown2 hown' hbox' hb' hrd2
          go_wp2_with fail
          go_roundw
          case rel => exact ⟨j + 1, by omega, by go_num, ⟨a2, n2, cap2, rfl, hn2⟩, hown3, hbox2, hb2⟩
          case measure => simp [intOf]; omega
        · have hgf : decide (y1 + (j : Int) < y2) = false := decide_eq_false hlt'
          have hown3 : OwnI wr w.heap.size (.slice a' n' cap') (nums (S.take (k + 1))) := by
            rw [HT.out, ← head_run, show (y2 - y1).toNat = j from by omega]
            exact hown'
          clear hown'
          go_wp2_with fail
          go_roundw
          case rel => exact ⟨k + 1, by omega, by go_num, hown3, hb'⟩
          case measure => simp [intOf]; omega
    · have hP : nums (S.take k) = nums S := by rw [List.take_of_length_le (by have := HL.out.1; omega)]
      rw [hP] at hown
      clear hP
      go_wp2_with fail
      go_ret
      exact ⟨_, rfl, hown, hb⟩
end Go.Proofs.Ytdnikjjcgoilfaa.SpanCalls
