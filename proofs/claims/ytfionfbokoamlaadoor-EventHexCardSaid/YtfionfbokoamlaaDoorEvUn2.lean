/-
  Events: bytes read back: the call.
-/
import Derived.Test.YtfionfbokoamlaaDoorEvUn
namespace Go.Proofs.YtfionfbokoamlaaDoor.Ev
open Go.ChangeShapes Go.WideShapes Go.RowKit Own

theorem toList_dash (s : ByteArray) : (s.toList == [45]) = decide (s = ⟨#[45]⟩) := by
  rw [ByteArray.toList_eq, Bool.eq_iff_iff, beq_iff_eq, decide_eq_true_eq]
  constructor
  · intro h; cases s; rename_i d; cases d; simp at h; subst h; rfl
  · intro h; subst h; rfl
theorem index_any (c : UInt8) (x : Int) (w : World) (hx : x = (c.toNat : Int)) :
    Calls Tryd.prog 24 #[.string ⟨#[48, 49, 50, 51, 52, 53, 54, 55, 56, 57, 97, 98, 99, 100, 101, 102]⟩, .int .u8 x] w fun e w' => e = .returned (.int .i64 (dn c)) ∧ w' = w := by
  subst hx
  refine (Tryd.strings_IndexByte ⟨#[48, 49, 50, 51, 52, 53, 54, 55, 56, 57, 97, 98, 99, 100, 101, 102]⟩ _ w).mono ?_
  rintro e w' ⟨rfl, rfl⟩
  refine ⟨?_, rfl⟩
  rw [show ((c.toNat : Int).toNat).toUInt8 = c by rw [Int.toNat_natCast]; exact UInt8.ofNat_toNat]
  rfl
theorem take_pair (s : ByteArray) (e : Nat) (h : e + 1 < s.size) : s.data.toList.take (e + 2) = s.data.toList.take e ++ [s[e]'(by omega), s[e + 1]'h] := by
  rw [show e + 2 = e + 1 + 1 by omega, List.take_succ_eq_append_getElem (by simpa using h), List.take_succ_eq_append_getElem (by simp; omega), List.append_assoc]
  rfl
theorem un_stop (s : ByteArray) (e : Nat) (h1 : e % 2 = 0) (h : e + 1 < s.size) (B : List UInt8) (hB : unL (s.data.toList.take e) = some B) (hn : dn (s[e]'(by omega)) < 0 ∨ dn (s[e + 1]'h) < 0) : unL s.data.toList = none := by
  have h2 : unL (s.data.toList.take (e + 2)) = none := by rw [take_pair s e h, un_snoc _ _ _ _ hB, if_pos hn]
  rw [← List.take_append_drop (e + 2) s.data.toList]
  have hl : s.data.toList.length = s.size := rfl
  exact un_bad _ _ (by rw [List.length_take, hl]; omega) h2
theorem un_next (s : ByteArray) (e : Nat) (h : e + 1 < s.size) (B : List UInt8) (hB : unL (s.data.toList.take e) = some B) (p q : Nat) (hp : dn (s[e]'(by omega)) = (p : Int)) (hq : dn (s[e + 1]'h) = (q : Int)) : unL (s.data.toList.take (e + 2)) = some (B ++ [UInt8.ofNat (16 * p + q)]) := by
  rw [take_pair s e h, un_snoc _ _ _ _ hB, if_neg (by omega), hp, hq, Int.toNat_natCast, Int.toNat_natCast]
theorem or_pair (p q : Nat) (hp : p < 16) (hq : q < 16) : bits .or .i64 ((p : Int) * 16) (q : Int) = 16 * (p : Int) + (q : Int) := by
  have e : ∀ a b : Fin 16, bits .or .i64 ((a.val : Int) * 16) (b.val : Int) = 16 * (a.val : Int) + (b.val : Int) := by decide +kernel
  exact e ⟨p, hp⟩ ⟨q, hq⟩
def numsB (l : List UInt8) : List Int := l.map fun b => (b.toNat : Int)
theorem numsB_str (l : List UInt8) : strOfNums (numsB l) = ⟨l.toArray⟩ := by
  unfold strOfNums numsB
  congr 2
  rw [List.map_map]
  conv => rhs; rw [← List.map_id l]
  apply List.map_congr_left
  intro b _
  simp

theorem un_any (s : ByteArray) (w : World) (hs : s.size ≤ 10000) :
    Calls Tryd.prog 16 #[.string s] w fun e w' => e = .returned (.tuple #[.string (unV s), .bool (unB s)]) ∧ Below w.heap.size w w' := by
  have hd0 := toList_dash s
  have hd1 := toList_nil s
  by_cases hq : s = ⟨#[45]⟩
  · rw [decide_eq_true hq] at hd0
    unfold unV unB unS
    rw [if_pos hq]
    clear hq hd1
    go_enter Tryd.func16, Tryd.ntmps16
    go_wp2_with fail
    go_ret2
    exact ⟨rfl, Below.refl _ _⟩
  rw [decide_eq_false hq] at hd0
  by_cases h0 : s.size = 0
  · rw [decide_eq_true h0] at hd1
    unfold unV unB unS
    rw [if_neg hq, if_pos (Or.inl h0)]
    clear hq h0
    go_enter Tryd.func16, Tryd.ntmps16
    go_wp2_with fail
    go_ret2
    exact ⟨rfl, Below.refl _ _⟩
  rw [decide_eq_false h0] at hd1
  have ht : (s.size : Int).tmod 2 = ((s.size % 2 : Nat) : Int) := by rw [Int.tmod_eq_emod_of_nonneg (by omega)]; omega
  by_cases h2 : s.size % 2 = 0
  · rw [h2] at ht
    have ht2 : (s.size : Int).tdiv 2 = ((s.size / 2 : Nat) : Int) := by rw [Int.tdiv_eq_ediv_of_nonneg (by omega)]; omega
    obtain ⟨m, hm⟩ : ∃ m, s.size = 2 * m := ⟨s.size / 2, by omega⟩
    rw [show s.size / 2 = m by omega] at ht2
    have HS : Hid (unS s = unL s.data.toList) := Lib.hid (by unfold unS; rw [if_neg hq, if_neg (by omega)])
    obtain ⟨cur, hcur, hrun⟩ := room_run m (by omega) w
    have hown : OwnI .u8 5 (w.alloc (.cells cur 5)) w.heap.size (.slice (some ⟨w.heap.size, 0, none⟩) 0 m) (numsB []) :=
      World.ownsRow_made w cur m (Nat.le_refl _) (by unfold maxLen; omega) (by omega)
    have hb0 : Below w.heap.size w (w.alloc (.cells cur 5)) := (Below.refl _ _).alloc (Nat.le_refl _) _
    generalize w.alloc (.cells cur 5) = w0 at *
    have HM := Lib.hid hm
    have HM2 : Hid (m ≤ 5000) := Lib.hid (by omega)
    have hm0 : 0 < m := by omega
    have i9 : 0 < s.size := by omega
    have hmb : (m : Int) ≤ 5000 := by omega
    clear hcur hq h0 h2 hm
    go_enter Tryd.func16, Tryd.ntmps16
    go_wp2_with fail
    go_loopw [4, 5] (fun v i wr => ∃ (e : Nat) (B : List UInt8), e ≤ s.size ∧ e % 2 = 0 ∧ i = .int .i64 (e : Int) ∧ unL (s.data.toList.take e) = some B ∧ 2 * B.length = e ∧ OwnI .u8 5 wr w.heap.size v (numsB B) ∧ Below w.heap.size w wr) (fun _ i _ => s.size - (intOf i).toNat)
    case atStart => exact ⟨0, [], by omega, rfl, rfl, rfl, rfl, hown, hb0⟩
    case round =>
      obtain ⟨e, B, hk, he, rfl, hB, hBl, hownr, hbr⟩ := hrel
      have hsr := hbr.size
      obtain ⟨a3, n3, c3, rfl, _⟩ := hownr.form
      have HB := Lib.hid hB
      have HBL := Lib.hid hBl
      have HE := Lib.hid he
      clear hB hBl hown hb0 hrun he
      by_cases hlt : e < s.size
      · have i1 : e + 1 < s.size := by have h1 := HM.out; have h2 := HE.out; omega
        obtain ⟨x, hx⟩ : ∃ x, s[e]'hlt = x := ⟨_, rfl⟩
        obtain ⟨y, hy⟩ : ∃ y, s[e + 1]'i1 = y := ⟨_, rfl⟩
        have HTP := Lib.hid (take_pair s e i1)
        have HLT := Lib.hid i1
        have hcast : ((e : Int) + 1).toNat = e + 1 := by omega
        have hi1 : (e : Int) + 1 < (s.size : Int) := by omega
        have hnn : (0 : Int) ≤ (e : Int) + 1 := by omega
        clear hk
        go_wp2_with fail
        go_quiet (first
          | exact Calls.quiet_of_same (index_any x _ _ (by with_reducible rfl))
          | exact Calls.quiet_of_same (index_any y _ _ (by with_reducible rfl)))
        have hbq : Below w.heap.size w (wr.drewN nq) := Own.below_drewN hbr _
        have hownq : OwnI .u8 5 (wr.drewN nq) w.heap.size (.slice a3 n3 c3) (numsB B) := hownr.below (Own.below_drewN (Below.refl _ _) _)
        have hsq : w.heap.size ≤ (wr.drewN nq).heap.size := hsr
        clear hbr hownr hsr
        generalize wr.drewN nq = W at *
        by_cases hbad : dn x < 0 ∨ dn y < 0
        · have HSN : Hid (unS s = none) := Lib.hid (by rw [HS.out]; exact un_stop s e HE.out HLT.out B HB.out (by rw [hx, hy]; exact hbad))
          rcases (show dn x < 0 ∨ (0 ≤ dn x ∧ dn y < 0) by omega) with hb1 | ⟨hb1, hb2⟩
          all_goals
            clear hbad
            go_wp2_with fail
            all_goals first
              | (go_ret2; unfold unV unB; rw [HSN.out]; exact ⟨rfl, hbq⟩)
              | (exfalso; omega)
        · obtain ⟨p, hp, hp2⟩ : ∃ p : Nat, dn x = (p : Int) ∧ p < 16 := by
            rcases dn_any x with ⟨h, _⟩ | ⟨h1, h2, _⟩
            · omega
            · exact ⟨(dn x).toNat, by omega, by omega⟩
          obtain ⟨q, hq, hq2⟩ : ∃ q : Nat, dn y = (q : Int) ∧ q < 16 := by
            rcases dn_any y with ⟨h, _⟩ | ⟨h1, h2, _⟩
            · omega
            · exact ⟨(dn y).toNat, by omega, by omega⟩
          have HNX := Lib.hid (un_next s e HLT.out B HB.out p q (by rw [hx]; exact hp) (by rw [hy]; exact hq))
          have hor := or_pair p q hp2 hq2
          have hpl : (p : Int) < 16 := by omega
          have hql : (q : Int) < 16 := by omega
          rw [hp, hq]
          clear hbad hp hq hp2 hq2
          have hlen : (numsB B).length + 1 ≤ 1000000 := by unfold numsB; rw [List.length_map]; have h1 := HBL.out; have h2 := HLT.out; omega
          have HLEN := Lib.hid hlen
          clear hlen
          go_wp2_with (at_builtin; refine wpList_appI infoB (by decide) rfl (.tmp 43) (.tmp 49) 43 rfl Tryd.underlying43 w.heap.size _ _ rfl (hownq.below ((Below.refl _ _).alloc (Nat.le_refl _) _)) _ 1 1 [_] rfl (rdI_lit1_at _ _ _ _ _ rfl) (fun h => by cases h) HLEN.out (by simp; omega) ?_)
          intro v5 w5 hown5 hgrow5
          have hb5 : Below w.heap.size w w5 := own_grown (hbq.alloc hsq _) (by simp; omega) hgrow5 (hownq.below ((Below.refl _ _).alloc (Nat.le_refl _) _))
          have hown6 : OwnI .u8 5 w5 w.heap.size v5 (numsB (B ++ [UInt8.ofNat (16 * p + q)])) := by
            have e1 : numsB (B ++ [UInt8.ofNat (16 * p + q)]) = numsB B ++ [16 * (p : Int) + (q : Int)] := by
              unfold numsB
              rw [List.map_append, List.map_cons, List.map_nil, UInt8.toNat_ofNat']
              congr 2
              omega
            rw [e1]; exact hown5
          clear hown5 hgrow5 hor hpl hql
          go_wp2_with fail
          go_roundw
          case rel => exact ⟨e + 2, _, HLT.out, by have := HE.out; omega, by go_num, HNX.out, by have := HBL.out; simp; omega, hown6, hb5⟩
          case measure => simp [intOf]; have := HLT.out; omega
      · obtain rfl : e = s.size := by omega
        have hsome : unS s = some B := by rw [HS.out, ← HB.out, List.take_of_length_le (show s.data.toList.length ≤ s.size from Nat.le_refl _)]
        have hBL2 : (numsB B).length = m := by unfold numsB; rw [List.length_map]; have h1 := HBL.out; have h2 := HM.out; omega
        obtain ⟨a4, n4, c4, e4, _, hr4⟩ := hownr.form
        cases e4
        have hn4 := hr4.1
        obtain ⟨b4, o4, rfl, _, hc4⟩ := hr4.2 (by omega)
        have hconv := run_convert_bytes_arg (P := Tryd.prog) wr 43 5 Tryd.underlying43 Tryd.underlying5 b4 o4 n3 c3 (numsB B) hn4.symm hc4 9 Tryd.underlying9
        rw [numsB_str] at hconv
        have HSM := Lib.hid hsome
        clear hownr hr4 hc4 hn4 hBL2 hsome hlt hk
        go_wp2_with fail
        go_ret2
        unfold unV unB
        rw [HSM.out]
        exact ⟨rfl, hbr⟩
  · rw [show s.size % 2 = 1 by omega] at ht
    have HS : Hid (unS s = none) := Lib.hid (by unfold unS; rw [if_neg hq, if_pos (Or.inr h2)])
    clear hq h0 h2
    go_enter Tryd.func16, Tryd.ntmps16
    go_wp2_with fail
    go_ret2
    unfold unV unB
    rw [HS.out]
    exact ⟨rfl, Below.refl _ _⟩
end Go.Proofs.YtfionfbokoamlaaDoor.Ev
