/-
  The five clocks: a tick, and when the next one is over.
-/
import Derived.Test.YtlfjndjbfbejkaaTimer
import Derived.Test.YtlfjndjbfbejkaaViewR
namespace Go.Proofs.Ytlfjndjbfbejkaa.Bank
open Go.RowKit View

def tickL (L : List Nat) : List Nat := L.map (· - 1)
def tickTo (L : List Nat) (k : Nat) : List Nat := (L.take k).map (· - 1) ++ L.drop k
def oversTo (L : List Nat) (k : Nat) : List Int := ((List.range k).filter fun i => L.getD i 0 == 1).map fun (i : Nat) => (i : Int)
def oversL (L : List Nat) : List Int := oversTo L 5
theorem overs_yes {L : List Nat} {k : Nat} (h : L.getD k 0 = 1) : oversTo L (k + 1) = oversTo L k ++ [(k : Int)] := by
  simp only [oversTo, List.range_succ, List.filter_append, List.map_append, List.filter_cons, List.filter_nil]
  rw [if_pos (by simpa using h)]; rfl
theorem overs_no {L : List Nat} {k : Nat} (h : L.getD k 0 ≠ 1) : oversTo L (k + 1) = oversTo L k := by
  simp only [oversTo, List.range_succ, List.filter_append, List.map_append, List.filter_cons, List.filter_nil]
  rw [if_neg (by simpa using h)]; simp
theorem overs_len (L : List Nat) (k : Nat) : (oversTo L k).length ≤ k := by
  unfold oversTo; rw [List.length_map]; exact Nat.le_trans (List.length_filter_le _ _) (by simp)
theorem tickTo_at {L : List Nat} {k : Nat} (h : k < L.length) : (tickTo L k).getD k 0 = L.getD k 0 := by
  simp [tickTo, List.getD, List.getElem?_append, Nat.min_eq_left (Nat.le_of_lt h)]
theorem tickTo_succ {L : List Nat} {k : Nat} (h : k < L.length) : tickTo L (k + 1) = (tickTo L k).set k (L.getD k 0 - 1) := by
  have h1 : ((L.take k).map (· - 1)).length = k := by simp; omega
  unfold tickTo
  rw [List.set_append, if_neg (by omega), h1, Nat.sub_self, List.drop_eq_getElem_cons h, List.set_cons_zero, List.take_succ_eq_append_getElem h]
  have h2 : L.getD k 0 = L[k] := by simp [List.getD, h]
  rw [h2, List.map_append, List.append_assoc]; rfl
theorem tickTo_same {L : List Nat} {k : Nat} (h : k < L.length) (h0 : L.getD k 0 = 0) : tickTo L (k + 1) = tickTo L k := by
  rw [tickTo_succ h, h0]
  apply List.ext_getElem?
  intro i
  rw [List.getElem?_set]
  split
  · subst i
    have h3 : k < (tickTo L k).length := by simp [tickTo]; omega
    rw [if_pos h3]
    have := tickTo_at h
    rw [h0] at this
    simp [List.getD, h3] at this
    simp [h3, this]
  · rfl
theorem tickTo_all {L : List Nat} (h : L.length = 5) : tickTo L 5 = tickL L := by
  simp [tickTo, tickL, List.take_of_length_le (Nat.le_of_eq h), List.drop_eq_nil_of_le (Nat.le_of_eq h)]
theorem tickTo_zero (L : List Nat) : tickTo L 0 = L := by simp [tickTo]

theorem idx5 (a b c d e k : Nat) (h : k < 5) (W : World) : (Instr.index 45 (.agg #[.int .i64 (a : Int), .int .i64 (b : Int), .int .i64 (c : Int), .int .i64 (d : Int), .int .i64 (e : Int)]) (.int .i64 (k : Int))).run Try.prog W = .ok (.int .i64 ((([a, b, c, d, e] : List Nat).getD k 0 : Nat) : Int)) W := by
  rcases (show k = 0 ∨ k = 1 ∨ k = 2 ∨ k = 3 ∨ k = 4 by omega) with rfl | rfl | rfl | rfl | rfl <;> kernel_rfl

theorem Only.grown {w wr w1 : World} {B n : Nat} {v : Value} {e : TypeId} {xs : List Value} (h : Only w wr B) (ho : wr.ownsRow w.heap.size e 1 v n xs) (hg : wr.grownBy w1 v.ownBlock) : Only w w1 B :=
  ⟨hg.os.trans h.os, hg.tape.trans h.tape, hg.output.trans h.output, Nat.le_trans h.size hg.size, fun k hk hn => (hg.block k (Nat.lt_of_lt_of_le hk h.size) (fun e => by have := (ho.lt k e.symm).1; omega)).trans (h.block k hk hn)⟩
theorem BankAt.grown {w w1 : World} {B off base n : Nat} {pre post : List Value} {T : TypeId} {L : List Nat} {v : Value} {e : TypeId} {xs : List Value} (h : BankAt w B off pre post T L) (hB : B < base) (ho : w.ownsRow base e 1 v n xs) (hg : w.grownBy w1 v.ownBlock) : BankAt w1 B off pre post T L :=
  h.keep (hg.block B h.lt (fun e => by have := (ho.lt B e.symm).1; omega))

theorem rdI_lit1_at (w : World) (x : Int) (g : Nat) (hg : g = w.heap.size) : RdI (w.alloc (.cells #[.int .i64 x] 3)) (some ⟨g, 0, none⟩) 1 [x] := by
  subst hg; exact rdI_lit1 w x
theorem own_set {w : World} {B o base : Nat} {x v : Value} {L : List Int} (h : OwnI w base v L) (hB : B < base) : OwnI (w.setCell ⟨B, o, none⟩ x) base v L := by
  refine ⟨h.1, ?_⟩
  rcases h.2 with hn | ⟨g, cap, cur, rfl, hg, hh, rest⟩
  · exact .inl hn
  · exact .inr ⟨g, cap, cur, rfl, hg, (heap_setCell_other _ _ _ _ (show g ≠ B by omega)).trans hh, rest⟩
theorem own_drew {w : World} {base : Nat} {v : Value} {L : List Int} (h : OwnI w base v L) : OwnI w.drew base v L := h.below (below_drewN (Below.refl _ w) 1)
theorem tickTo_at' {L : List Nat} {k x : Nat} (h : k < L.length) (hx : L.getD k 0 = x) : (tickTo L k).set k (x - 1) = tickTo L (k + 1) := by rw [tickTo_succ h, hx]

section
variable (B off : Nat) (pre post : List Value) (T : TypeId) (L : List Nat)
set_option maxHeartbeats 1000000 in
theorem tick_any (w : World) (h : BankAt w B off pre post T L) :
    Calls Try.prog 20 #[.pointer (some ⟨B, off, none⟩)] w fun e w' => ∃ v, e = .returned v ∧ OwnI w' w.heap.size v (oversL L) ∧ BankAt w' B off pre post T (tickL L) ∧ Only w w' B := by
  have c0 : w.cell? ⟨B, off, none⟩ = _ := h.cell (i := 0) (by omega)
  have c1 := h.cell (i := 1) (by omega)
  have c2 := h.cell (i := 2) (by omega)
  have c3 := h.cell (i := 3) (by omega)
  have c4 := h.cell (i := 4) (by omega)
  obtain ⟨a, b, c, d, e, hL⟩ := five_of h.len
  rw [hL] at c0 c1 c2 c3 c4
  simp only [List.getD_cons_zero, List.getD_cons_succ] at c0 c1 c2 c3 c4
  have hlt := h.lt
  have H := Lib.hid h
  have HL := Lib.hid hL
  clear h hL
  go_enter Try.func20, Try.ntmps20
  go_wp2_with fail
  clear c0 c1 c2 c3 c4
  go_loopw [3, 10] (fun v i wr => ∃ k : Nat, k ≤ 5 ∧ i = .int .i64 k ∧ Hid (OwnI wr w.heap.size v (oversTo L k)) ∧ Hid (BankAt wr B off pre post T (tickTo L k)) ∧ Hid (Only w wr B)) (fun _ i _ => 5 - (intOf i).toNat)
  case atStart => exact ⟨0, by omega, rfl, Lib.hid OwnI.nil, Lib.hid (by rw [tickTo_zero]; exact H.out), Lib.hid (Only.refl _ _)⟩
  case round =>
    obtain ⟨k, hk, rfl, ho, hb, hy⟩ := hrel
    by_cases hlt5 : k < 5
    · have hx := idx5 a b c d e k hlt5
      rw [← HL.out] at hx
      have hkl : k < L.length := by rw [H.out.len]; exact hlt5
      have hc := hb.out.cell hlt5
      rw [tickTo_at hkl] at hc
      have hz := hb.out.frozen (off + k)
      obtain ⟨x, hxx⟩ : ∃ x, L.getD k 0 = x := ⟨_, rfl⟩
      have hx5 : x ≤ 1048576 := by have := H.out.top k; omega
      rw [hxx] at hx hc
      have HX := Lib.hid hxx
      clear hxx
      have hk5 : (k : Int) < 5 := by omega
      by_cases h0 : x = 0
      · subst h0
        clear hc hz
        go_wp2_with fail
        go_roundw
        case rel => exact ⟨k + 1, by omega, by go_num, Lib.hid (by rw [overs_no (by rw [HX.out]; decide)]; exact ho.out), Lib.hid (by rw [tickTo_same hkl HX.out]; exact hb.out), hy⟩
        case measure => simp [intOf]; omega
      · by_cases h1 : x = 1
        · subst h1
          go_wp2_with fail
          go_still_tail 10, (by kernel_rfl)
          go_wp2_with (at_builtin; refine wpList_appI rfl (.tmp 28) (.tmp 30) 22 rfl Try.underlying22 w.heap.size _ _ rfl (own_drew (OwnI.below (own_set ho.out hlt) ((Below.refl _ _).alloc (Nat.le_refl _) _))) _ 1 1 [(k : Int)] rfl ((rdI_lit1_at _ _ _ (by simp)).drewN 1) (fun h => by cases h) (by have := overs_len L k; omega) (by have := hy.out.size; simp; omega) ?_)
          intro v' w1 hown' hgrow
          have ho1 : OwnI ((wr.setCell ⟨B, off + k, none⟩ (.int .i64 0)).alloc (.cells #[.int .i64 (k : Int)] 3)).drew w.heap.size _ (oversTo L k) := own_drew (OwnI.below (own_set ho.out hlt) ((Below.refl _ _).alloc (Nat.le_refl _) _))
          have hb1 := hb.out.set_eq (i := k) (v := 0) (x := 0) hlt5 (by omega) rfl
          have hb2 : BankAt ((wr.setCell ⟨B, off + k, none⟩ (.int .i64 0)).alloc (.cells #[.int .i64 (k : Int)] 3)).drew B off pre post T _ := (hb1.below ((Below.refl _ _).alloc (Nat.le_refl _) _)).keep rfl
          have hb3 := hb2.grown hlt ho1 hgrow
          rw [tickTo_at' (x := 1) hkl HX.out] at hb3
          have hy1 : Only w ((wr.setCell ⟨B, off + k, none⟩ (.int .i64 0)).alloc (.cells #[.int .i64 (k : Int)] 3)).drew B := ((hy.out.trans (Only.set _ _ _ _)).trans (Only.of_below ((Below.refl _ _).alloc (Nat.le_refl _) _))).trans (Only.draw _ _ 1)
          have hy2 := hy1.grown ho1 hgrow
          rw [← overs_yes HX.out] at hown'
          have HO := Lib.hid hown'
          have HB3 := Lib.hid hb3
          have HY2 := Lib.hid hy2
          clear hown' hb3 hy2 hy1 hb2 hb1 ho1 hgrow hc hz ho hb hy
          go_wp2_with fail
          go_roundw
          case rel => exact ⟨k + 1, by omega, by go_num, HO, HB3, HY2⟩
          case measure => simp [intOf]; omega
        · have hd0 : ((x : Int) == 0) = false := by simpa using h0
          have hd1 : ((x : Int) == 1) = false := by simp; omega
          have hx1 : (x : Int) - 1 = ((x - 1 : Nat) : Int) := by omega
          have HX1 := Lib.hid hx1
          have hw1 : IntKind.i64.wrap ((x : Int) - 1) = (x : Int) - 1 := by rw [IntKind.wrap_i64]; omega
          clear hx1
          go_wp2_with fail
          go_still_tail 10, (by kernel_rfl)
          go_wp2_with fail
          go_roundw
          case rel => exact ⟨k + 1, by omega, by go_num, Lib.hid (by rw [overs_no (by rw [HX.out]; exact h1)]; exact own_drew (own_set ho.out hlt)), Lib.hid (by
            have hb1 := hb.out.set_eq (i := k) (v := x - 1) (x := (x : Int) - 1) hlt5 (by omega) HX1.out
            rw [tickTo_at' hkl HX.out] at hb1
            exact hb1.keep rfl), Lib.hid ((hy.out.trans (Only.set _ _ _ _)).trans (Only.draw _ _ 1))⟩
          case measure => simp [intOf]; omega
    · obtain rfl : k = 5 := by omega
      go_wp2_with fail
      go_ret
      exact ⟨_, rfl, ho.out, by have := hb.out; rw [tickTo_all H.out.len] at this; exact this, hy.out⟩

def nextTo (L : List Nat) : Nat → Nat
  | 0 => 0
  | k + 1 => if 0 < L.getD k 0 ∧ (nextTo L k = 0 ∨ L.getD k 0 < nextTo L k) then L.getD k 0 else nextTo L k
def nextL (L : List Nat) : Nat := nextTo L 5
theorem next_yes {L : List Nat} {k x m : Nat} (hx : L.getD k 0 = x) (hm : nextTo L k = m) (h : 0 < x ∧ (m = 0 ∨ x < m)) : nextTo L (k + 1) = x := by
  rw [nextTo, hx, hm, if_pos h]
theorem next_no {L : List Nat} {k x m : Nat} (hx : L.getD k 0 = x) (hm : nextTo L k = m) (h : ¬ (0 < x ∧ (m = 0 ∨ x < m))) : nextTo L (k + 1) = m := by
  rw [nextTo, hx, hm, if_neg h]
end
end Go.Proofs.Ytlfjndjbfbejkaa.Bank
