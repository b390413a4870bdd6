/-
  Is a set just these numbers: yes, where it is.
-/
import Derived.Test.YtippbgbjldgahaaRefSpans
import Derived.Test.YtippbgbjldgahaaSpanLen
import Derived.Test.YtippbgbjldgahaaSpanList
namespace Go.Proofs.Ytippbgbjldgahaa.Law03
open Go.RowKit SpanMath View SpanCalls Ref

set_option maxHeartbeats 1000000 in
theorem is_any (a : Option Addr) (n cap : Nat) (S : List Sp) (a' : Option Addr) (n' cap' : Nat) (L : List Int) (w : World) (h : RdS w a n S) (hs : Small S) (hn : Norm S) (h' : RdI w a' n' L) (hL : nums S = L) :
    Calls Try.prog 11 #[.slice a n cap, .slice a' n' cap'] w fun e w' => e = .returned (.bool true) ∧ Below w.heap.size w w' := by
  subst hL
  have HL := Lib.hid h
  have HM := Lib.hid h'
  have HS := Lib.hid hs
  have HN := Lib.hid hn
  have hn0 : n ≤ 1000 := by rw [h.1]; exact hs.1
  have hl0 : (nums S).length ≤ 800 := small_len hs hn
  have hl1 := h'.1
  have HB : Hid (∀ z ∈ nums S, -400 ≤ z ∧ z ≤ 400) := Lib.hid (fun z hz => by have := small_nums hs z hz; omega)
  subst hl1
  obtain ⟨N, hN⟩ : ∃ N, (nums S).length = N := ⟨_, rfl⟩
  have HNN := Lib.hid hN
  rw [hN] at HM hl0
  rw [hN]
  clear h h' hs hn hN
  go_enter Try.func11, Try.ntmps11
  go_wp2_with fail
  refine (spans_any a' N cap' (nums S) _ HM.out HB.out (by omega)).mono ?_; rintro e w1 ⟨a2, n2, cap2, rfl, hf2, hr2, hb1⟩
  rw [sp_flat S HN.out] at hr2
  have hn2 : n2 = 2 * n := by rw [hr2.1, flat_len, HL.out.1]
  have hq : ((n2 : Int) != 2 * (n : Int)) = false := by simp [hn2]
  have hq2 : ((n2 : Int) == 2 * (n : Int)) = true := by simp [hn2]
  have hlt2 : n2 ≤ 2000 := by omega
  have HR2 := Lib.hid hr2
  have HN2 := Lib.hid hn2
  clear hr2 hf2 hn2
  go_wp2_with fail
  refine (len_any a n cap S _ (HL.out.below hb1) HS.out HN.out).mono ?_; rintro e w2 ⟨rfl, hb2⟩
  rw [HNN.out]
  have hb3 := hb1.trans (hb2.mono hb1.size)
  have HR3 := Lib.hid (HR2.out.below hb2)
  clear hb1 hb2
  go_wp2_with fail
  refine (list_any a n cap S _ (HL.out.below hb3) HS.out HN.out).mono ?_; rintro e w3 ⟨v3, rfl, hown, hb4⟩
  obtain ⟨a3, n3, cap3, rfl, _, hr3⟩ := hown.form
  have hn3 : n3 ≤ 800 := by rw [hr3.1, HNN.out]; exact hl0
  have hb5 := hb3.trans (hb4.mono hb3.size)
  have HR4 := Lib.hid (HR3.out.below hb4)
  have HR5 := Lib.hid hr3
  clear hb3 hb4 hown hr3
  go_wp2_with fail
  refine (rsame_any a3 n3 cap3 (nums S) a' N cap' (nums S) _ HR5.out (HM.out.below hb5) (by omega) (by omega)).mono ?_; rintro e w4 ⟨rfl, hb6⟩
  rw [decide_eq_true rfl]
  have hb7 := hb5.trans (hb6.mono hb5.size)
  have HR6 := Lib.hid (HR4.out.below hb6)
  clear hb5 hb6
  go_wp2_with fail
  go_loopw [32] (fun i wr => ∃ k : Nat, k ≤ n ∧ i = .int .i64 k ∧ Below w4.heap.size w4 wr) (fun i _ => n - (intOf i).toNat)
  case atStart => exact ⟨0, Nat.zero_le _, rfl, Below.refl _ _⟩
  case round =>
    obtain ⟨k, hk, rfl, hb⟩ := hrel
    have hbw := hb7.trans (hb.mono hb7.size)
    by_cases hlt : k < n
    · obtain ⟨b, off, rfl, hbl, hc1, hc2⟩ := (HL.out.below hbw).at_ hlt
      obtain ⟨b2, off2, rfl, hbl2, he1⟩ := (HR6.out.below hb).at_ (k := 2 * k) (by have := HN2.out; omega)
      obtain ⟨_, _, e2, _, he2⟩ := (HR6.out.below hb).at_ (k := 2 * k + 1) (by have := HN2.out; omega)
      cases e2
      have hfl := flat_at S k (by have := HL.out.1; omega)
      rw [hfl.1] at he1
      rw [hfl.2] at he2
      obtain ⟨y, hy⟩ : ∃ y, S.getD k (0, 0) = y := ⟨_, rfl⟩
      rw [hy] at hc1 hc2 he1 he2
      obtain ⟨y1, y2⟩ := y
      simp only at hc1 hc2 he1 he2
      have hi1 : 2 * (k : Int) < (n2 : Int) := by have := HN2.out; omega
      have hi2 : 2 * (k : Int) + 1 < (n2 : Int) := by have := HN2.out; omega
      have ht1 : (2 * (k : Int)).toNat = 2 * k := by omega
      have ht2 : (2 * (k : Int) + 1).toNat = 2 * k + 1 := by omega
      have hsz := hb.size
      clear hfl hy
      go_wp2_with fail
      go_quiet (fail)
      go_wp2_with fail
      go_roundw
      case rel => exact ⟨k + 1, by omega, by go_num, (below_drewN (hb.alloc hsz _) _)⟩
      case measure => simp [intOf]; omega
    · go_wp2_with fail
      go_ret
      exact ⟨rfl, hbw⟩
end Go.Proofs.Ytippbgbjldgahaa.Law03
