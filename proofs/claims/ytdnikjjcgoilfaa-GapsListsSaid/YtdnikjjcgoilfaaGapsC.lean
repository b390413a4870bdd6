/-
  Gaps: the document's own answer, which numbers pairs name.
-/
import Derived.Test.YtdnikjjcgoilfaaGapsB
namespace Go.Proofs.Ytdnikjjcgoilfaa.Gaps
open Go.ChangeShapes Go.WideShapes Go.RowKit SpanMath

theorem mem_take_succ (M : List Int) (z : Int) (c : Nat) (h : c < M.length) : decide (z ∈ M.take (c + 1)) = (decide (z ∈ M.take c) || (z == M.getD c 0)) := by
  rw [View.take_succ' M 0 c h, Bool.eq_iff_iff]
  simp
set_option maxRecDepth 100000 in
set_option maxHeartbeats 8000000 in
theorem rnamed_any (a : Option Addr) (n cap : Nat) (L : List Int) (w : World) (h : Own.RdI .i64 w a n L) (hn : n ≤ 10000) (hp : ∀ z ∈ L, 0 ≤ z ∧ z < 16777216) :
    Calls Try.prog 25 #[.slice a n cap, .int .i64 65536] w fun e w' => ∃ v, e = .returned v ∧ Own.OwnI .i64 3 w' w.heap.size v (namedL L) ∧ Below w.heap.size w w' := by
  have HL := Lib.hid h
  have HN := Lib.hid h.1
  have hn2 : (n : Int) ≤ 10000 := by omega
  have HM := Lib.hid hn
  have HP := Lib.hid hp
  clear h hn hp
  go_enter Try.func25, Try.ntmps25
  go_wp2_with fail
  go_loopw [5, 6] (fun s5 s6 wr => ∃ (k t : Nat), t ≤ n ∧ s6 = .int .i64 (t : Int) ∧ Hid (t = 2 * k) ∧ Hid (Own.OwnI .i64 3 wr w.heap.size s5 (namTo L k)) ∧ Hid (Below w.heap.size w wr)) (fun _ s6 _ => n + 2 - (intOf s6).toNat)
  case atStart => exact ⟨0, 0, Nat.zero_le _, rfl, Lib.hid rfl, Lib.hid (Own.ownI_empty w _ (Nat.le_refl _) rfl), Lib.hid ((Below.refl _ _).alloc (Nat.le_refl _) _)⟩
  case round =>
    obtain ⟨k, t, hk, rfl, hT, ho, hb⟩ := hrel
    obtain ⟨av, nv, cv, rfl, _, _⟩ := ho.out.form
    by_cases hlt : t + 1 < n
    · have hr := HL.out.below hb.out
      obtain ⟨bb, off, rfl, hbl, hc⟩ := hr.at_ (k := t) (by omega)
      obtain ⟨bb', off', e, _, hc1⟩ := hr.at_ (k := t + 1) hlt
      cases e
      obtain ⟨x, hx⟩ : ∃ x, L.getD t 0 = x := ⟨_, rfl⟩
      obtain ⟨y, hy⟩ : ∃ y, L.getD (t + 1) 0 = y := ⟨_, rfl⟩
      have hk1 : t < L.length := by have := HN.out; omega
      have hk2 : t + 1 < L.length := by have := HN.out; omega
      have hx0 := HP.out x (by rw [← hx]; simp [List.getD, hk1])
      have hy0 := HP.out y (by rw [← hy]; simp [List.getD, hk2])
      obtain ⟨xa, xb⟩ := hx0
      obtain ⟨ya, yb⟩ := hy0
      rw [hx] at hc
      rw [hy] at hc1
      have HX := Lib.hid hx
      have HY := Lib.hid hy
      obtain ⟨q, hq⟩ : ∃ q, wayI x y = q := ⟨_, rfl⟩
      have hqb := way_bounds x y
      rw [hq] at hqb
      obtain ⟨q0, q1⟩ := hqb
      have HQ := Lib.hid hq
      have hto : ∀ W : World, Calls Try.prog 26 #[.int .i64 x, .int .i64 y] W fun e w' => e = .returned (.int .i64 q) ∧ w' = W := fun W =>
        (SeqCalls.rto_any x y W (by omega) (by omega) (by omega) (by omega)).mono fun e w' ⟨h1, h2⟩ => ⟨by rw [h1, show (y - x) % 16777216 = q from hq], h2.symm⟩
      have HLT := Lib.hid hlt
      have hki : (t : Int) + 1 < (n : Int) := by omega
      have hcast : ((t : Int) + 1).toNat = t + 1 := by omega
      have hnn : (0 : Int) ≤ (t : Int) + 1 := by omega
      have htt : (t : Int) ≤ 10000 := by omega
      clear hx hy hk1 hk2 hq hr hk hlt
      go_wp2_with fail
      go_quiet (exact Calls.quiet_of_same (hto _))
      have HO := Lib.hid (ho.out.below (Own.below_drewN (Below.refl _ wr) nq))
      have HB := Lib.hid (Own.below_drewN hb.out nq)
      have hcq : (wr.drewN nq).cell? ⟨bb, off + t, none⟩ = some (.int .i64 x) := hc
      clear hc hc1 ho hb hto hnn hcast
      generalize wr.drewN nq = W at *
      by_cases hbig : 8388608 < q
      · have HSK : Hid (namTo L (k + 1) = namTo L k) := Lib.hid (by
          rw [namTo, ← hT.out, HX.out, HY.out, if_neg (by rw [HQ.out]; omega)])
        clear hcq
        go_wp2_with fail
        go_roundw
        case rel => exact ⟨k + 1, t + 2, by have := HLT.out; omega, by go_num, Lib.hid (by have := hT.out; omega), by rw [HSK.out]; exact HO, HB⟩
        case measure => simp [intOf]; have := HLT.out; omega
      · obtain ⟨m, hm⟩ : ∃ m : Nat, q = (m : Int) := ⟨q.toNat, by omega⟩
        have HST : Hid (namTo L (k + 1) = runN x (namTo L k) m) := Lib.hid (by
          rw [namTo, ← hT.out, HX.out, HY.out, if_pos (by rw [HQ.out]; omega), HQ.out, hm, Int.toNat_natCast])
        have HCAP : Hid ((namTo L k).length ≤ 65536) := Lib.hid (nam_cap L k)
        have hm2 : (m : Int) ≤ 8388608 := by omega
        have hdd : decide (8388608 < q) = false := decide_eq_false hbig
        clear HQ
        subst hm
        clear q0 q1 hbig
        generalize namTo L k = N at *
        go_wp2_with fail
        obtain ⟨W0, hW0⟩ : ∃ W0, W0 = W := ⟨_, rfl⟩
        rw [← hW0] at HO HB ⊢
        clear hW0
        go_loopw [5, 8] (fun s5 s8 wr => ∃ j : Nat, j ≤ m ∧ s8 = .int .i64 (j : Int) ∧ Hid (Own.OwnI .i64 3 wr w.heap.size s5 (runN x N j)) ∧ Hid (Below w.heap.size w wr)) (fun _ s8 _ => m - (intOf s8).toNat)
        case atStart => exact ⟨0, Nat.zero_le _, rfl, HO, HB⟩
        case round =>
          obtain ⟨j, hj, rfl, ho, hb⟩ := hrel
          obtain ⟨a5, n5, c5, rfl, hf5, hr5⟩ := ho.out.form
          have hl5 := hr5.1
          have HL5 := Lib.hid hl5
          have HR5 := Lib.hid hr5
          have hcap5 := runN_cap x HCAP.out j
          have HC5 := Lib.hid hcap5
          clear hf5 hr5 hl5 hcap5
          by_cases hjm : j < m
          · by_cases hfull : n5 < 65536
            · obtain ⟨M, hM⟩ : ∃ M, runN x N j = M := ⟨_, rfl⟩
              rw [hM] at ho HL5 HR5 HC5
              have HMM := Lib.hid hM
              obtain ⟨z, hz⟩ : ∃ z, (x + (j : Int)) % 16777216 = z := ⟨_, rfl⟩
              have HZ := Lib.hid hz
              have HST2 : Hid (runN x N (j + 1) = stepN M z) := Lib.hid (by rw [runN_succ, hM, hz])
              obtain ⟨b', off', e, _, hcx⟩ := (HL.out.below hb.out).at_ (k := t) (by have := HLT.out; omega)
              cases e
              rw [HX.out] at hcx
              have hd5 : decide ((n5 : Int) < 65536) = true := decide_eq_true (by omega)
              have hjj : (j : Int) < (m : Int) := by omega
              have HF := Lib.hid hfull
              have HJ := Lib.hid hjm
              have hn5 : (n5 : Int) ≤ 65536 := by omega
              clear hM hz hfull hjm hj hcq
              go_wp2_with fail
              refine (SeqCalls.of_any x _ (by omega) (by omega)).mono ?_; rintro e w2 ⟨rfl, rfl⟩
              go_wp2_with fail
              refine (SeqCalls.of_any _ _ (by omega) (by omega)).mono ?_; rintro e w2 ⟨rfl, rfl⟩
              rw [show (x % 16777216 + (j : Int)) % 16777216 = z from by rw [← HZ.out]; omega]
              clear hcx
              go_wp2_with fail
              go_loop [10, 54] (fun s10 s54 => ∃ c : Nat, c ≤ n5 ∧ s54 = .int .i64 (c : Int) ∧ s10 = .bool (decide (z ∈ M.take c))) (fun _ s54 => n5 - (intOf s54).toNat)
              case atStart => exact ⟨0, Nat.zero_le _, rfl, rfl⟩
              case round =>
                obtain ⟨c, hc, rfl, rfl⟩ := hrel
                by_cases hcn : c < n5
                · obtain ⟨b7, o7, rfl, _, hcc⟩ := HR5.out.at_ hcn
                  obtain ⟨u, hu⟩ : ∃ u, M.getD c 0 = u := ⟨_, rfl⟩
                  rw [hu] at hcc
                  have HMT : Hid (decide (z ∈ M.take (c + 1)) = (decide (z ∈ M.take c) || (z == u))) := Lib.hid (by rw [← hu]; exact mem_take_succ M z c (by have := HL5.out; omega))
                  have HCN := Lib.hid hcn
                  have hci : (c : Int) < (n5 : Int) := by omega
                  clear hu hcn hc
                  cases hm1 : decide (z ∈ M.take c)
                  · rw [hm1, Bool.false_or] at HMT
                    go_wp2_with fail
                    go_round
                    case rel => exact ⟨c + 1, HCN.out, by go_num, by rw [HMT.out]⟩
                    case measure => simp [intOf]; have := HCN.out; omega
                  · rw [hm1, Bool.true_or] at HMT
                    go_wp2_with fail
                    go_round
                    case rel => exact ⟨c + 1, HCN.out, by go_num, by rw [HMT.out]⟩
                    case measure => simp [intOf]; have := HCN.out; omega
                · obtain rfl : c = n5 := by omega
                  rw [List.take_of_length_le (by have := HL5.out; omega)]
                  clear hc hcn
                  by_cases hmem : z ∈ M
                  · have HE : Hid (stepN M z = M) := Lib.hid (if_neg (fun e => e.2 hmem))
                    have hdm : decide (z ∈ M) = true := decide_eq_true hmem
                    rw [hdm]
                    clear hmem hdm
                    go_wp2_with fail
                    go_roundw
                    case rel => exact ⟨j + 1, HJ.out, by go_num, by rw [HST2.out, HE.out]; exact ho, hb⟩
                    case measure => simp [intOf]; have := HJ.out; omega
                  · have HE : Hid (stepN M z = M ++ [z]) := Lib.hid (if_pos ⟨by have := HF.out; have := HL5.out; omega, hmem⟩)
                    have hdm : decide (z ∈ M) = false := decide_eq_false hmem
                    rw [hdm]
                    have HLEN : Hid (M.length + 1 ≤ 1000000) := Lib.hid (by have := HC5.out; omega)
                    have HW : Hid (w.heap.size ≤ wr.heap.size) := Lib.hid hb.out.size
                    clear hmem hdm
                    go_wp2_with (at_builtin; refine Own.wpList_appI infoI (by decide) rfl (.tmp 67) (.tmp 69) 24 rfl Try.underlying24 w.heap.size _ _ rfl (ho.out.below ((Below.refl _ _).alloc (Nat.le_refl _) _)) _ 1 1 [_] rfl (Own.rdI_lit1_at _ _ _ _ _ rfl) (fun h => by cases h) HLEN.out (by have := HW.out; simp; omega) ?_; intro v8 w8 hown8 hgrow8; have HO8 := Lib.hid hown8; have HB8 : Hid (Below w.heap.size w w8) := Lib.hid (Own.own_grown (hb.out.alloc HW.out _) (by have := HW.out; simp; omega) hgrow8 (ho.out.below ((Below.refl _ _).alloc (Nat.le_refl _) _))); clear hown8 hgrow8)
                    go_roundw
                    case rel => exact ⟨j + 1, HJ.out, by go_num, by rw [HST2.out, HE.out]; exact HO8, HB8⟩
                    case measure => simp [intOf]; have := HJ.out; omega
            · have hd5 : decide ((n5 : Int) < 65536) = false := decide_eq_false (by omega)
              have HE : Hid (runN x N j = runN x N m) := Lib.hid (runN_full (by have := HL5.out; omega) m hj).symm
              have hjj : (j : Int) < (m : Int) := by omega
              clear hfull hj hjm hcq
              go_wp2_with fail
              go_roundw
              case rel => exact ⟨k + 1, t + 2, by have := HLT.out; omega, by go_num, Lib.hid (by have := hT.out; omega), by rw [HST.out, ← HE.out]; exact ho, hb⟩
              case measure => simp [intOf]; have := HLT.out; omega
          · obtain rfl : j = m := by omega
            have HE : Hid (runN x N j = runN x N j) := Lib.hid rfl
            clear hj hjm hcq
            go_wp2_with fail
            go_roundw
            case rel => exact ⟨k + 1, t + 2, by have := HLT.out; omega, by go_num, Lib.hid (by have := hT.out; omega), by rw [HST.out, ← HE.out]; exact ho, hb⟩
            case measure => simp [intOf]; have := HLT.out; omega
    · have HE : Hid (namTo L k = namedL L) := Lib.hid (by
        unfold namedL
        congr 1
        have := hT.out; have := HN.out; omega)
      have hd : decide ((t : Int) + 1 < (n : Int)) = false := decide_eq_false (by omega)
      have htt : (t : Int) ≤ 10000 := by omega
      clear hlt hk
      go_wp2_with fail
      go_ret
      exact ⟨_, rfl, by rw [← HE.out]; exact ho.out, hb.out⟩
end Go.Proofs.Ytdnikjjcgoilfaa.Gaps
