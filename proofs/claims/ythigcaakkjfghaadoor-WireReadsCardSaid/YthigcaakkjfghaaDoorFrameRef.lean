/-
  The document's own frames, one contract each.
-/
import Derived.Test.YthigcaakkjfghaaDoorFrameParse
namespace Go.Proofs.YthigcaakkjfghaaDoor.FrameCalls
open Go.ChangeShapes Go.WideShapes Go.RowKit CrcMath CrcCalls FrameMath

theorem conv1 (w : World) (a : Int) : (convert 56 9 (.slice (some ⟨w.heap.size, 0, none⟩) 1 1)).run Tryd.prog (w.alloc (.cells #[.int .u8 a] 5)) = .ok (.string (strOfNums [a])) (w.alloc (.cells #[.int .u8 a] 5)) := by
  refine run_convert_bytes_arg _ _ _ Tryd.underlying56 Tryd.underlying5 _ _ _ _ [a] rfl ?_ _ Tryd.underlying9
  intro i hi
  rw [Nat.zero_add, World.cell?_alloc_at _ _ _ _ rfl]
  match i, hi with
  | 0, _ => rfl

def padB (d : ByteArray) (k : Nat) : ByteArray := ⟨(d.data.toList ++ List.replicate k 0).toArray⟩
theorem padB_zero (d : ByteArray) : padB d 0 = d := by
  apply ByteArray.ext; apply Array.ext'; simp [padB]
theorem padB_size (d : ByteArray) (k : Nat) : (padB d k).size = d.size + k := by
  show (d.data.toList ++ List.replicate k 0).length = _
  rw [List.length_append, List.length_replicate, size_list]
theorem append_mk (a : ByteArray) (l : List UInt8) : a ++ (⟨l.toArray⟩ : ByteArray) = ⟨(a.data.toList ++ l).toArray⟩ := by
  have : a = ⟨a.data.toList.toArray⟩ := by simp
  conv => lhs; rw [this]
  exact ByteArray.mk_append_mk _ _
theorem padB_succ (d : ByteArray) (k : Nat) : padB d k ++ strOfNums [0] = padB d (k + 1) := by
  rw [show strOfNums [0] = ⟨[(0 : UInt8)].toArray⟩ from rfl, append_mk]
  simp [padB, List.replicate_succ']
def bodyB (u : UInt8) (d : ByteArray) : ByteArray := ⟨(bodyL u d.data.toList).toArray⟩
theorem bodyB_eq (u : Nat) (d : ByteArray) (x y : Int) (hx : x = ((d.size / 256 % 256 : Nat) : Int)) (hy : y = ((d.size % 256 : Nat) : Int)) :
    padB d (padN d.size) ++ strOfNums [(u : Int), 0, x, y] = bodyB (UInt8.ofNat u) d := by
  have e : strOfNums [(u : Int), 0, x, y] = ⟨(tail4 (UInt8.ofNat u) d.size).toArray⟩ := by
    unfold strOfNums tail4
    simp only [List.map_cons, List.map_nil]
    have e1 : UInt8.ofNat x.toNat = UInt8.ofNat (d.size / 256) := by
      apply UInt8.toNat_inj.1; rw [hx, UInt8.toNat_ofNat', UInt8.toNat_ofNat', Int.toNat_natCast]; omega
    have e2 : UInt8.ofNat y.toNat = UInt8.ofNat d.size := by
      apply UInt8.toNat_inj.1; rw [hy, UInt8.toNat_ofNat', UInt8.toNat_ofNat', Int.toNat_natCast]; omega
    rw [e1, e2]; rfl
  rw [e, append_mk]
  rfl
theorem bodyB_size (u : UInt8) (d : ByteArray) : (bodyB u d).size + 4 = 48 * cellsN d.size := bodyL_length u d.data.toList
def frameB (u : UInt8) (d : ByteArray) : ByteArray := ⟨(frameL u d.data.toList).toArray⟩
theorem frameB_eq (u : UInt8) (d : ByteArray) : bodyB u d ++ wordB (sum (bodyB u d).data.toList) = frameB u d := by
  rw [sealB_eq]; rfl

theorem pad_at {n k p m : Nat} (hp : p = padN n) (hk : k < p) (hm : m = n + k) : (((m : Int) % 48 != 40)) = true := by
  have := cellsN_room n
  unfold padN at hp
  rw [bne_iff_ne]; omega
theorem pad_end {n p m : Nat} (hp : p = padN n) (hm : m = n + p) : (((m : Int) % 48 != 40)) = false := by
  have := cellsN_room n
  unfold padN at hp
  rw [bne_eq_false_iff_eq]; omega
theorem rbytes_any (u : Nat) (d : ByteArray) (w : World) (hd : d.size ≤ 65535) :
    Calls Tryd.prog 36 #[.int .u8 (u : Int), .string d] w fun e w' => e = .returned (.string (frameB (UInt8.ofNat u) d)) ∧ Below w.heap.size w w' := by
  obtain ⟨p, hp⟩ : ∃ p, p = padN d.size := ⟨_, rfl⟩
  have hp2 : p ≤ 48 := by have := cellsN_room d.size; unfold padN at hp; omega
  have hc1 := conv1
  have hc4 := conv4
  go_enter Tryd.func36, Tryd.ntmps36
  go_wp2_with fail
  go_loopw [5] (fun v wr => ∃ k : Nat, k ≤ p ∧ v = .string (padB d k) ∧ Below w.heap.size w wr) (fun v _ => d.size + 50 - Lib.strSize v)
  case atStart => exact ⟨0, by omega, by rw [padB_zero], Below.refl _ _⟩
  case round =>
    obtain ⟨k, hk, rfl, hb⟩ := hrel
    obtain ⟨m, hm⟩ : ∃ m, m = d.size + k := ⟨_, rfl⟩
    have hsz : (padB d k).size = m := by rw [padB_size, hm]
    have hm2 : m ≤ 70000 := by omega
    by_cases hlt : k < p
    · have ht := pad_at hp hlt hm
      have HP := Lib.hid hp
      have HM := Lib.hid hm
      have HSZ := Lib.hid hsz
      clear hp hm
      obtain ⟨X, hX⟩ : ∃ X, padB d k = X := ⟨_, rfl⟩
      have hadd : ∀ w, (Op.stringOp .add X (strOfNums [0])).run Tryd.prog w = .ok (.string (padB d (k + 1))) w := fun w => by
        rw [run_string_add_sum _ _ _ (by rw [← hX, hsz]; show m + 1 ≤ _; omega), ← hX, padB_succ]
      rw [hX] at hsz ⊢
      have HX := Lib.hid hX
      clear hX
      go_wp2_with fail
      go_roundw
      case rel => exact ⟨k + 1, by omega, rfl, hb.alloc hb.size _⟩
      case measure =>
        have h1 := HSZ.out
        have h2 := HM.out
        have h3 := padB_size d (k + 1)
        have h4 := HP.out
        have h5 := HX.out
        simp only [Lib.strSize]
        rw [← h5]
        omega
    · obtain rfl : k = p := by omega
      have ht := pad_end hp hm
      have hx1 : (d.size : Int) / 256 = ((d.size / 256 % 256 : Nat) : Int) := by omega
      have hx2 : (d.size : Int) % 256 = ((d.size % 256 : Nat) : Int) := by omega
      have hbq := bodyB_eq u d _ _ hx1 hx2
      rw [← hp] at hbq
      have hbs := bodyB_size (UInt8.ofNat u) d
      have hcr := cellsN_room d.size
      obtain ⟨X, hX⟩ : ∃ X, padB d k = X := ⟨_, rfl⟩
      obtain ⟨Y, hY⟩ : ∃ Y, bodyB (UInt8.ofNat u) d = Y := ⟨_, rfl⟩
      have hfq := frameB_eq (UInt8.ofNat u) d
      rw [hX, hY] at hbq
      rw [hY] at hbs hfq
      have hadd1 : ∀ w, (Op.stringOp .add X (strOfNums [(u : Int), 0, (d.size : Int) / 256, (d.size : Int) % 256])).run Tryd.prog w = .ok (.string Y) w := fun w => by
        rw [run_string_add_sum _ _ _ (by rw [← hX, hsz]; show m + 4 ≤ _; omega), hbq]
      have hYs : Y.size ≤ 140737488351232 := by omega
      have hadd2 : ∀ w, (Op.stringOp .add Y (wordB (sum Y.data.toList))).run Tryd.prog w = .ok (.string (frameB (UInt8.ofNat u) d)) w := fun w => by
        rw [run_string_add_sum _ _ _ (by rw [wordB_size]; omega), hfq]
      rw [hX] at hsz ⊢
      have HX := Lib.hid hX
      clear hX hY hbq hfq hbs hcr hx1 hx2 hp hm
      go_wp2_with fail
      refine (rsum_any Y _ hYs).mono ?_
      rintro e w' ⟨rfl, rfl⟩
      go_wp2_with fail
      refine (four_any _ (sum Y.data.toList) _ rfl).mono ?_
      rintro e w5 ⟨rfl, hb5⟩
      go_wp2_with fail
      go_ret
      exact ⟨rfl, (hb.alloc hb.size _).trans (hb5.mono (Nat.le_trans hb.size (by simp)))⟩

def told3 (p : UInt8 × List UInt8 × Int) : Value := .tuple #[.int .u8 (p.1.toNat : Int), .string ⟨p.2.1.toArray⟩, .int .i64 p.2.2]

theorem rparse_short (s : ByteArray) (w : World) (h : s.size = 0 ∨ s.size % 48 ≠ 0) :
    Calls Tryd.prog 42 #[.string s] w fun e w' => e = .returned (told3 (0, [], 5)) ∧ Below w.heap.size w w' := by
  by_cases h0 : s.size = 0
  · obtain rfl := empty_of h0
    go_enter Tryd.func42, Tryd.ntmps42
    go_wp2
    go_ret3
    exact ⟨rfl, Below.refl _ _⟩
  · have he := isEmpty_no h0
    have hm : ((s.size : Int) % 48 != 0) = true := by
      rw [bne_iff_ne]; omega
    clear h
    go_enter Tryd.func42, Tryd.ntmps42
    go_wp2
    go_ret3
    exact ⟨rfl, Below.refl _ _⟩

theorem short_extract (s : ByteArray) (n : Nat) (h : (n : Int) ≤ 65535) : (s.extract 0 n).size ≤ 65535 := by rw [ByteArray.size_extract]; omega
/-- are the bytes those of the frame that they tell -/
theorem same_frame (s : ByteArray) (E n : Nat) (hf : fits s.data.toList = true) (hE : s.size = E + 8) (hn : n = num2 (s.data.toList.getD (s.size - 8 + 2) 0) (s.data.toList.getD (s.size - 8 + 3) 0))
    (hc : 48 * cellsN n = s.size) (i0 : E < s.size) :
    ((frameB (UInt8.ofNat (s[E]'i0).toNat) (s.extract 0 n)).toList == s.toList) = (zeroB (s.extract n E) && decide (s.data.toList.getD (E + 1) 0 = 0)) := by
  have key := frame_eq s.data.toList n hf (by rw [size_list]; omega) (by rw [size_list]; exact hn) (by rw [size_list]; exact hc)
  rw [size_list, show s.size - 8 = E by omega] at key
  have e1 : UInt8.ofNat (s[E]'i0).toNat = s.data.toList.getD E 0 := by rw [index_eq s E i0]; simp
  have e2 : (s.extract 0 n).data.toList = s.data.toList.take n := by rw [take_extract]
  rw [Bool.eq_iff_iff, beq_iff_eq, ByteArray.toList_eq, ByteArray.toList_eq, Bool.and_eq_true, decide_eq_true_iff, zeroB_extract, e1]
  unfold frameB
  rw [e2]
  exact key
theorem form_ways {z : Bool} {x : UInt8} {p q : UInt8 × List UInt8 × Int} (h : (z && decide (x = 0)) = false) : (if z = false ∨ x ≠ 0 then p else q) = p := by
  rw [if_pos]
  cases z
  · left; rfl
  · right; simpa using h
theorem form_ok {z : Bool} {x : UInt8} {p q : UInt8 × List UInt8 × Int} (h : (z && decide (x = 0)) = true) : (if z = false ∨ x ≠ 0 then p else q) = q := by
  rw [if_neg]
  simp only [Bool.and_eq_true, decide_eq_true_eq] at h
  rintro (h1 | h1)
  · rw [h.1] at h1; cases h1
  · exact h1 h.2
theorem num_add (a b : UInt8) : wrap64 (wrap64 (wrap64 (a.toNat : Int) * 256) + wrap64 (b.toNat : Int)) = ((num2 a b : Nat) : Int) := by
  have ha := a.toNat_lt
  have hb := b.toNat_lt
  rw [IntWalk.wrap64_in (a.toNat : Int) (by omega), IntWalk.wrap64_in (b.toNat : Int) (by omega), IntWalk.wrap64_in ((a.toNat : Int) * 256) (by omega), IntWalk.wrap64_in _ (by omega)]
  unfold num2; omega
theorem far_ways {n E c m : Nat} (hc : cellsN n = c) (h1 : m % 48 = 0) (h2 : m = E + 8) (h : ¬ 48 * c = m) : (E : Int) < (n : Int) ∨ ((n : Int) ≤ (E : Int) ∧ ∃ g : Nat, (E : Int) - (n : Int) = (g : Int) ∧ (48 : Int) ≤ (g : Int)) := by
  have := cellsN_room n
  rw [hc] at this
  by_cases h3 : E < n
  · left; omega
  · right; exact ⟨by omega, E - n, by omega, by omega⟩
theorem near_way {n E c m : Nat} (hc : cellsN n = c) (h2 : m = E + 8) (h : 48 * c = m) : ∃ g : Nat, (E : Int) - (n : Int) = (g : Int) ∧ (g : Int) < 48 := by
  have := cellsN_room n
  rw [hc] at this
  exact ⟨E - n, by omega, by omega⟩

set_option maxHeartbeats 1000000 in
theorem rparse_long (s : ByteArray) (w : World) (hs : s.size ≤ 1000) (h0 : s.size ≠ 0) (h1 : s.size % 48 = 0) :
    Calls Tryd.prog 42 #[.string s] w fun e w' => e = .returned (told3 (parseL s.data.toList)) ∧ Below w.heap.size w w' := by
  have he := isEmpty_no h0
  have hm : ((s.size : Int) % 48 != 0) = false := by
    rw [bne_eq_false_iff_eq]; omega
  obtain ⟨E, hE⟩ : ∃ E, s.size = E + 8 := ⟨s.size - 8, by omega⟩
  have hE0 : (s.size : Int) - 8 = (E : Int) := by omega
  obtain ⟨K, hK⟩ : ∃ K, K = E + 4 := ⟨_, rfl⟩
  have hK0 : (s.size : Int) - 4 = (K : Int) := by omega
  have hK1 : (K : Int) ≤ (s.size : Int) := by omega
  have HF := Lib.hid (fits_eq s K (by omega))
  obtain ⟨n, hn⟩ : ∃ n, n = num2 (s.data.toList.getD (s.size - 8 + 2) 0) (s.data.toList.getD (s.size - 8 + 3) 0) := ⟨_, rfl⟩
  have hn1 : (n : Int) ≤ 65535 := by have := num2_lt (s.data.toList.getD (s.size - 8 + 2) 0) (s.data.toList.getD (s.size - 8 + 3) 0); omega
  obtain ⟨p, hp⟩ : ∃ p, s.extract 0 K = p := ⟨_, rfl⟩
  obtain ⟨t, ht⟩ : ∃ t, s.extract K s.size = t := ⟨_, rfl⟩
  have hx : p.size ≤ 140737488351232 := by rw [← hp]; exact extract_le s 0 K (by omega)
  rw [hp, ht] at HF
  obtain ⟨E1, hE1⟩ : ∃ n, n = E + 1 := ⟨_, rfl⟩
  obtain ⟨E2, hE2⟩ : ∃ n, n = E + 2 := ⟨_, rfl⟩
  obtain ⟨E3, hE3⟩ : ∃ n, n = E + 3 := ⟨_, rfl⟩
  have i0 : (E : Int) < (s.size : Int) := by omega
  have i2 : (E2 : Int) < (s.size : Int) := by omega
  have i3 : (E3 : Int) < (s.size : Int) := by omega
  have w0' : IntKind.i64.wrap ((K : Int) - 4) = (E : Int) := by rw [IntKind.wrap_i64]; omega
  have w2' : IntKind.i64.wrap ((K : Int) - 2) = (E2 : Int) := by rw [IntKind.wrap_i64]; omega
  have w3' : IntKind.i64.wrap ((K : Int) - 1) = (E3 : Int) := by rw [IntKind.wrap_i64]; omega
  have hN : wrap64 (wrap64 (wrap64 ((s[E2]'(Int.ofNat_lt.1 i2)).toNat : Int) * 256) + wrap64 ((s[E3]'(Int.ofNat_lt.1 i3)).toNat : Int)) = (n : Int) := by
    rw [num_add, hn, ← index_eq s E2 (by omega), ← index_eq s E3 (by omega), show s.size - 8 + 2 = E2 by omega, show s.size - 8 + 3 = E3 by omega]
  obtain ⟨c, hc⟩ : ∃ c, cellsN n = c := ⟨_, rfl⟩
  have hcr := cellsN_room n
  rw [hc] at hcr
  have HC := Lib.hid hc
  clear hc
  have HE1 := Lib.hid hE1
  have HE2 := Lib.hid hE2
  have HE3 := Lib.hid hE3
  clear hE1 hE2 hE3
  have HE := Lib.hid hE
  have HK := Lib.hid hK
  have HN := Lib.hid hn
  clear hE hK hn
  go_enter Tryd.func42, Tryd.ntmps42
  go_wp2_with fail
  go_region_held3 (fun w' => Below w.heap.size w w')
      (first | (with_reducible assumption) | (with_reducible exact (Below.refl _ _).drew))
      (first
        | (go_at_call 21
           refine (rsum_any p _ hx).mono ?_
           rintro e w' ⟨rfl, rfl⟩)
        | (go_at_call 20
           refine (four_any _ (sum p.data.toList) _ rfl).mono ?_
           rintro e w4 ⟨rfl, hb4⟩
           have hb4' : Below w.heap.size w w4 := (below_drewN (Below.refl _ _) _).trans (hb4.mono (by simp))
           clear hb4))
  cases hf : fits s.data.toList with
  | false =>
    have hF := HF.out
    rw [hf] at hF
    rw [hF]
    go_wp2_with fail
    go_ret3
    refine ⟨?_, hb4'⟩
    unfold parseL
    rw [if_neg (by
      rintro (h | h)
      · exact h0 (by rw [← size_list, h]; rfl)
      · exact h h1), if_pos hf]
    rfl
  | true =>
    have hF := HF.out
    rw [hf] at hF
    rw [hF]
    go_wp2_with fail
    go_quiet (fail)
    have W0 := Lib.hid w0'
    rw [hN]
    clear hN w0' w2' w3' hm hK0
    generalize wrap64 (wrap64 ((s[E2]'(Int.ofNat_lt.1 i2)).toNat : Int) * 256) = y1
    generalize wrap64 ((s[E2]'(Int.ofNat_lt.1 i2)).toNat : Int) = y2
    generalize wrap64 ((s[E3]'(Int.ofNat_lt.1 i3)).toNat : Int) = y3
    generalize ((s[E2]'(Int.ofNat_lt.1 i2)).toNat : Int) = y4
    generalize ((s[E3]'(Int.ofNat_lt.1 i3)).toNat : Int) = y5
    clear i2 i3
    have hP := parse_steps s E n h0 h1 hf HE.out HN.out
    rw [HC.out] at hP
    have HP := Lib.hid hP
    clear hP
    by_cases hce : 48 * c = s.size
    · obtain ⟨g, hg1, hg2⟩ := near_way HC.out HE.out hce
      have hnE := nE hce HE.out hcr.1
      have hnS := nS hnE HE.out
      have hP := HP.out
      rw [if_neg (fun h => h hce)] at hP
      have hQ := same_frame s E n hf HE.out HN.out (by rw [HC.out]; exact hce) (Int.ofNat_lt.1 i0)
      have hw0 := W0.out
      obtain ⟨q, hq⟩ : ∃ q, s.extract 0 n = q := ⟨_, rfl⟩
      have hqs : q.size ≤ 65535 := by rw [← hq]; exact short_extract s n hn1
      rw [hq] at hQ
      obtain ⟨F, hF2⟩ : ∃ F, frameB (UInt8.ofNat (s[E]'(Int.ofNat_lt.1 i0)).toNat) q = F := ⟨_, rfl⟩
      rw [hF2] at hQ
      have HQ := Lib.hid hQ
      have HP2 := Lib.hid hP
      clear hQ hP hF hcr
      go_wp2_with fail
      have hb5 : Below w.heap.size w (w4.drewN nq) := below_drewN hb4' _
      have hs5 := hb5.size
      generalize w4.drewN nq = w5 at *
      clear hb4'
      go_region_held3 (fun w' => Below w.heap.size w w')
        (first | (with_reducible assumption) | (with_reducible exact hb5.drew))
        (first
          | (go_at_call 36
             refine (rbytes_any (s[E]'(Int.ofNat_lt.1 i0)).toNat q _ hqs).mono ?_
             rintro e w6 ⟨rfl, hb6⟩
             rw [hF2]
             have hb6' : Below w.heap.size w w6 := hb5.drew.trans (hb6.mono hs5)
             clear hb6))
      have hQ := HQ.out
      have hP := HP2.out
      cases hz : (F.toList == s.toList) with
      | false =>
        try rw [hz] at hQ
        rw [form_ways hQ.symm] at hP
        go_wp2_with fail
        go_ret3
        exact ⟨by rw [hP]; rfl, hb6'⟩
      | true =>
        try rw [hz] at hQ
        rw [form_ok hQ.symm, index_eq s E (Int.ofNat_lt.1 i0)] at hP
        have HPF := Lib.hid hP
        clear hP
        go_wp2_with fail
        go_quiet (fail)
        go_wp2_with fail
        go_ret3
        exact ⟨by rw [HPF.out, ← hq, take_extract]; rfl, below_drewN hb6' _⟩
    · have hP := HP.out
      rw [if_pos hce] at hP
      rcases far_ways HC.out h1 HE.out hce with hfar | ⟨hfar, g, hg1, hg2⟩
      · go_wp2_with fail
        go_ret3
        exact ⟨by rw [hP]; rfl, below_drewN hb4' _⟩
      · go_wp2_with fail
        go_ret3
        exact ⟨by rw [hP]; rfl, below_drewN hb4' _⟩

/-- the document's answer is the program's -/
theorem rparse_any (s : ByteArray) (w : World) (hs : s.size ≤ 1000) :
    Calls Tryd.prog 42 #[.string s] w fun e w' => e = .returned (told3 (parseL s.data.toList)) ∧ Below w.heap.size w w' := by
  have e0 : s.data.toList = [] ↔ s.size = 0 := by rw [← size_list, List.length_eq_zero_iff]
  by_cases h : s.size = 0 ∨ s.size % 48 ≠ 0
  · have : parseL s.data.toList = (0, [], 5) := by
      unfold parseL
      rw [if_pos (by rw [e0, size_list]; exact h)]
    rw [this]
    exact rparse_short s w h
  · exact rparse_long s w hs (fun e => h (.inl e)) (Decidable.byContradiction fun e => h (.inr e))
end Go.Proofs.YthigcaakkjfghaaDoor.FrameCalls
