/-
  Gaps: the law's own calls.
-/
import Derived.Test.YtdnikjjcgoilfaaGapsA
import Derived.Deep.RegionHeld3
namespace Go.Proofs.Ytdnikjjcgoilfaa.Gaps
open Go.ChangeShapes Go.WideShapes Go.RowKit SpanMath

theorem infoI : Own.Info .i64 3 8 := by unfold Own.Info; kernel_rfl
def modL (L : List Int) : List Int := L.map (· % 16777216)
set_option maxRecDepth 100000 in
set_option maxHeartbeats 2000000 in
theorem nums_any (a : Option Addr) (n cap : Nat) (L : List Int) (w : World) (h : Own.RdI .i64 w a n L) (hn : n ≤ 10000) :
    Calls Try.prog 22 #[.slice a n cap] w fun e w' => ∃ v, e = .returned v ∧ Own.OwnI .u32 28 w' w.heap.size v (modL L) ∧ Below w.heap.size w w' := by
  have HL := Lib.hid h
  have HN := Lib.hid h.1
  have hn2 : (n : Int) ≤ 10000 := by omega
  have HM := Lib.hid hn
  clear h hn
  go_enter Try.func22, Try.ntmps22
  go_wp2_with fail
  go_loopw [3, 8] (fun s3 s8 wr => ∃ k : Nat, k ≤ n ∧ s8 = .int .i64 (k : Int) ∧ Hid (Own.OwnI .u32 28 wr w.heap.size s3 (modL (L.take k))) ∧ Hid (Below w.heap.size w wr)) (fun _ s8 _ => n - (intOf s8).toNat)
  case atStart => exact ⟨0, Nat.zero_le _, rfl, Lib.hid Own.OwnI.nil, Lib.hid (Below.refl _ _)⟩
  case round =>
    obtain ⟨k, hk, rfl, ho, hb⟩ := hrel
    by_cases hlt : k < n
    · obtain ⟨bb, off, rfl, _, hc⟩ := (HL.out.below hb.out).at_ hlt
      obtain ⟨x, hx⟩ : ∃ x, L.getD k 0 = x := ⟨_, rfl⟩
      rw [hx] at hc
      obtain ⟨av, nv, cv, rfl, _, _⟩ := ho.out.form
      have HX := Lib.hid hx
      have HLT := Lib.hid hlt
      have hki : (k : Int) < (n : Int) := by omega
      have HLEN : Hid ((modL (L.take k)).length + 1 ≤ 1000000) := Lib.hid (by unfold modL; rw [List.length_map, List.length_take]; have := HM.out; omega)
      have HW : Hid (w.heap.size ≤ wr.heap.size) := Lib.hid hb.out.size
      clear hx hlt hk
      go_wp2_with fail
      refine (SeqCalls.sof_any x _).mono ?_; rintro e w2 ⟨rfl, rfl⟩
      go_wp2_with (at_builtin; refine Own.wpList_appI infoU (by decide) rfl (.tmp 12) (.tmp 15) 32 rfl Try.underlying32 w.heap.size _ _ rfl (ho.out.below ((Below.refl _ _).alloc (Nat.le_refl _) _)) _ 1 1 [_] rfl (Own.rdI_lit1_at _ _ _ _ _ rfl) (fun h => by cases h) HLEN.out (by have := HW.out; simp; omega) ?_; intro v5 w5 hown5 hgrow5; have HO5 := Lib.hid hown5; have HB5 : Hid (Below w.heap.size w w5) := Lib.hid (Own.own_grown (hb.out.alloc HW.out _) (by have := HW.out; simp; omega) hgrow5 (ho.out.below ((Below.refl _ _).alloc (Nat.le_refl _) _))); clear hown5 hgrow5)
      go_roundw
      case rel => exact ⟨k + 1, HLT.out, by go_num, Lib.hid (by
        have := HO5.out
        rw [View.take_succ' L 0 k (by have := HLT.out; have := HN.out; omega), HX.out]
        unfold modL at this ⊢
        rw [List.map_append]
        exact this), HB5⟩
      case measure => simp [intOf]; have := HLT.out; omega
    · obtain rfl : k = n := by omega
      have HE : Hid (L.take k = L) := Lib.hid (List.take_of_length_le (by have := HN.out; omega))
      clear hk hlt
      go_wp2_with fail
      go_ret
      exact ⟨_, rfl, by rw [← HE.out]; exact ho.out, hb.out⟩

theorem same_step {L M : List Int} {k : Nat} (hl : k < L.length) (hm : k < M.length) (h : L.take k = M.take k) (he : L.getD k 0 = M.getD k 0) : L.take (k + 1) = M.take (k + 1) := by
  rw [View.take_succ' L 0 k hl, View.take_succ' M 0 k hm, h, he]
theorem getD_of_eq {L M : List Int} {k : Nat} (h : L = M) : L.getD k 0 = M.getD k 0 := by rw [h]
set_option maxRecDepth 100000 in
set_option maxHeartbeats 2000000 in
theorem same_any (a : Option Addr) (n cap : Nat) (L : List Int) (a2 : Option Addr) (n2 cap2 : Nat) (M : List Int) (w : World) (h : Own.RdI .u32 w a n L) (h2 : Own.RdI .i64 w a2 n2 M) (hn : n ≤ 100000) (hn2 : n2 ≤ 100000) (hp : ∀ z ∈ L, 0 ≤ z ∧ z < 4294967296) :
    Calls Try.prog 14 #[.slice a n cap, .slice a2 n2 cap2] w fun e w' => e = .returned (.bool (decide (L = M))) ∧ Below w.heap.size w w' := by
  have HL := Lib.hid h
  have HM := Lib.hid h2
  have HP := Lib.hid hp
  have HN := Lib.hid h.1
  have HN2 := Lib.hid h2.1
  have hb1 : (n : Int) ≤ 100000 := by omega
  have hb2 : (n2 : Int) ≤ 100000 := by omega
  clear h h2 hp hn hn2
  by_cases hl : n = n2
  · subst hl
    have hne : ((n : Int) != (n : Int)) = false := by simp
    go_enter Try.func14, Try.ntmps14
    go_wp2_with fail
    go_loopw [13] (fun s13 wr => ∃ k : Nat, k ≤ n ∧ s13 = .int .i64 (k : Int) ∧ Hid (L.take k = M.take k) ∧ ∃ q, wr = w.drewN q) (fun s13 _ => n - (intOf s13).toNat)
    case atStart => exact ⟨0, Nat.zero_le _, rfl, Lib.hid rfl, 0, rfl⟩
    case round =>
      obtain ⟨k, hk, rfl, ht, q, rfl⟩ := hrel
      have BQ := Lib.hid (Own.below_drewN (Below.refl w.heap.size w) q)
      have R1 := HL.out.drewN q
      have R2 := HM.out.drewN q
      obtain ⟨W, hW⟩ : ∃ W, w.drewN q = W := ⟨_, rfl⟩
      have HW := Lib.hid hW
      rw [hW] at BQ R1 R2 ⊢
      clear hW
      by_cases hlt : k < n
      · obtain ⟨bb, off, rfl, _, hc⟩ := R1.at_ hlt
        obtain ⟨bb2, off2, rfl, _, hc2⟩ := R2.at_ hlt
        obtain ⟨x, hx⟩ : ∃ x, L.getD k 0 = x := ⟨_, rfl⟩
        obtain ⟨y, hy⟩ : ∃ y, M.getD k 0 = y := ⟨_, rfl⟩
        have hkL : k < L.length := by have := HN.out; omega
        have hkM : k < M.length := by have := HN2.out; omega
        have hxb := HP.out x (by rw [← hx]; simp [List.getD, hkL])
        obtain ⟨hx0, hx1⟩ := hxb
        rw [hx] at hc
        rw [hy] at hc2
        have HLT := Lib.hid hlt
        have hki : (k : Int) < (n : Int) := by omega
        by_cases he : x = y
        · have HT : Hid (L.take (k + 1) = M.take (k + 1)) := Lib.hid (same_step hkL hkM ht.out (by rw [hx, hy, he]))
          subst he
          have hxx : (x != x) = false := by simp
          clear hx hy hkL hkM hlt hk R1 R2
          go_wp2_with fail
          go_quiet (fail)
          clear hc hc2
          go_wp2_with fail
          go_roundw
          case rel => exact ⟨k + 1, HLT.out, by go_num, HT, q + nq, by rw [← HW.out, World.drewN_drewN]⟩
          case measure => simp [intOf]; have := HLT.out; omega
        · have HF : Hid (decide (L = M) = false) := Lib.hid (decide_eq_false (fun e => he (by rw [← hx, ← hy]; exact getD_of_eq e)))
          have hxx : (x != y) = true := by simpa using he
          clear hx hy hkL hkM hlt hk R1 R2 he
          go_wp2_with fail
          go_quiet (fail)
          clear hc hc2
          go_wp2_with fail
          go_ret
          exact ⟨by rw [HF.out]; rfl, Own.below_drewN BQ.out _⟩
      · obtain rfl : k = n := by omega
        have HE : Hid (decide (L = M) = true) := Lib.hid (decide_eq_true (by
          have := ht.out
          rw [List.take_of_length_le (by have := HN.out; omega), List.take_of_length_le (by have := HN2.out; omega)] at this
          exact this))
        clear hk hlt R1 R2
        go_wp2_with fail
        go_ret
        exact ⟨by rw [HE.out]; rfl, BQ.out⟩
  · have hne : ((n : Int) != (n2 : Int)) = true := by simp; omega
    have HF : Hid (decide (L = M) = false) := Lib.hid (decide_eq_false (fun e => hl (by rw [HN.out, HN2.out, e])))
    clear hl
    go_enter Try.func14, Try.ntmps14
    go_wp2_with fail
    go_ret
    exact ⟨by rw [HF.out]; rfl, Below.refl _ _⟩
end Go.Proofs.Ytdnikjjcgoilfaa.Gaps
