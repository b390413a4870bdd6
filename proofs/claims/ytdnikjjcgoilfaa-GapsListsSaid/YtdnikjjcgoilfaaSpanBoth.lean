/-
  What is in both of two sets.
-/
import Derived.Test.YtdnikjjcgoilfaaSpanGaps
namespace Go.Proofs.Ytdnikjjcgoilfaa.SpanCalls
open Go.RowKit SpanMath View

/-- how long a slice is -/
def lenV : Value → Nat | .slice _ n _ => n | _ => 0

theorem RdS.tail {w : World} {b off n : Nat} {s : Sp} {S : List Sp} (h : RdS w (some ⟨b, off, none⟩) (n + 1) (s :: S)) : RdS w (some ⟨b, off + 2, none⟩) n S := by
  refine ⟨by have := h.1; simp at this; omega, fun hn => ?_⟩
  obtain ⟨b', off', e, hlt, hc⟩ := h.2 (by omega)
  cases e
  refine ⟨b, off + 2, rfl, hlt, fun i hi => ?_⟩
  have := hc (i + 1) (by omega)
  rw [show off + 2 + i * 2 = off + (i + 1) * 2 from by omega]
  simpa using this
theorem RdS.none_left {w : World} {a : Option Addr} {n : Nat} {s : Sp} {S : List Sp} (h : RdS w a (n + 1) (s :: S)) (hn : n = 0) : RdS w a 0 S := by
  have h1 := h.1
  simp at h1
  refine ⟨by omega, fun h => absurd h (by omega)⟩

set_option maxRecDepth 100000 in
set_option maxHeartbeats 2000000 in
theorem both_any (a : Option Addr) (n cap : Nat) (S : List Sp) (a' : Option Addr) (n' cap' : Nat) (T : List Sp) (R : List Sp) (w : World) (h : RdS w a n S) (h' : RdS w a' n' T) (hf : Fit a n cap) (hf' : Fit a' n' cap')
    (hn : n ≤ 10000) (hn' : n' ≤ 10000) (hS : Norm S) (hT : Norm T) (hR : IsSet R fun z => z ∈ nums S ∧ z ∈ nums T) :
    Calls Try.prog 36 #[.slice a n cap, .slice a' n' cap'] w fun e w' => ∃ v, e = .returned v ∧ OwnS w' w.heap.size v R ∧ Below w.heap.size w w' := by
  have HL := Lib.hid h
  have HM := Lib.hid h'
  have HR := Lib.hid hR
  have HI := Lib.hid (both_start hS hT)
  obtain ⟨hf1, hf2, _⟩ := hf
  obtain ⟨hf1', hf2', _⟩ := hf'
  unfold maxLen at hf2 hf2'
  have HF := Lib.hid hf1
  have HF' := Lib.hid hf1'
  have HG := Lib.hid hf2
  have HG' := Lib.hid hf2'
  have HN := Lib.hid hn
  have HN' := Lib.hid hn'
  clear h h' hR hS hT hf1 hf2 hf1' hf2' hn hn'
  go_enter Try.func36, Try.ntmps36
  go_wp2_with fail
  go_loopw [0, 1, 5] (fun sv tv v wr => ∃ (a1 : Option Addr) (n1 c1 : Nat) (S1 : List Sp) (a2 : Option Addr) (n2 c2 : Nat) (T1 l : List Sp), sv = .slice a1 n1 c1 ∧ tv = .slice a2 n2 c2 ∧ n1 ≤ c1 ∧ n2 ≤ c2 ∧ c1 ≤ 9223372036854775807 ∧ c2 ≤ 9223372036854775807 ∧ l.length + n1 + n2 ≤ 20000 ∧
      Hid (RdS w a1 n1 S1) ∧ Hid (RdS w a2 n2 T1) ∧ OwnS wr w.heap.size v l ∧ Hid (BothInv S T l S1 T1) ∧ Below w.heap.size w wr) (fun sv tv _ _ => lenV sv + lenV tv)
  case atStart => exact ⟨a, n, cap, S, a', n', cap', T, [], rfl, rfl, HF.out, HF'.out, HG.out, HG'.out, by have := HN.out; have := HN'.out; simp; omega, HL, HM, OwnS.nil, HI, Below.refl _ _⟩
  case round =>
    obtain ⟨a1, n1, c1, S1, a2, n2, c2, T1, l, rfl, rfl, hc1, hc2, hm1, hm2, hlen, hr1, hr2, hown, hinv, hb⟩ := hrel
    have hlen0 : l.length ≤ 20000 := by omega
    have hnn : n1 + n2 + l.length ≤ 20000 := by omega
    have HLEN := Lib.hid hlen
    clear hlen
    by_cases hz1 : n1 = 0
    · have hg : decide (0 < n1) = false := decide_eq_false (by omega)
      have HE : Hid (l = R) := Lib.hid (IsSet.ext (both_end hinv.out (.inl (List.eq_nil_of_length_eq_zero (by have := hr1.out.1; omega)))) HR.out)
      have HZ := Lib.hid hz1
      clear hz1 hinv
      go_wp2_with fail
      go_ret
      exact ⟨_, rfl, by rw [← HE.out]; exact hown, hb⟩
    · have hg : decide (0 < n1) = true := decide_eq_true (by omega)
      by_cases hz2 : n2 = 0
      · have hg2 : decide (0 < n2) = false := decide_eq_false (by omega)
        have HE : Hid (l = R) := Lib.hid (IsSet.ext (both_end hinv.out (.inr (List.eq_nil_of_length_eq_zero (by have := hr2.out.1; omega)))) HR.out)
        have HZ := Lib.hid hz1
        have HZ2 := Lib.hid hz2
        clear hz1 hz2 hinv
        go_wp2_with fail
        go_ret
        exact ⟨_, rfl, by rw [← HE.out]; exact hown, hb⟩
      · have hg2 : decide (0 < n2) = true := decide_eq_true (by omega)
        obtain ⟨p1, rfl⟩ : ∃ p, n1 = p + 1 := ⟨n1 - 1, by omega⟩
        obtain ⟨p2, rfl⟩ : ∃ p, n2 = p + 1 := ⟨n2 - 1, by omega⟩
        obtain ⟨s, S2, rfl⟩ : ∃ s S2, S1 = s :: S2 := by
          cases S1 with
          | nil => have := hr1.out.1; simp at this
          | cons s S2 => exact ⟨s, S2, rfl⟩
        obtain ⟨t, T2, rfl⟩ : ∃ t T2, T1 = t :: T2 := by
          cases T1 with
          | nil => have := hr2.out.1; simp at this
          | cons t T2 => exact ⟨t, T2, rfl⟩
        obtain ⟨b, off, rfl, hbl, hx1, hx2⟩ := hr1.out.at_ (k := 0) (by omega)
        obtain ⟨b', off', rfl, hbl', hy1, hy2⟩ := hr2.out.at_ (k := 0) (by omega)
        simp only [Nat.zero_mul, Nat.add_zero] at hx1 hx2 hy1 hy2
        obtain ⟨s1, s2⟩ := s
        obtain ⟨t1, t2⟩ := t
        change w.cell? _ = some (.int .i64 s1) at hx1
        change w.cell? _ = some (.int .i64 s2) at hx2
        change w.cell? _ = some (.int .i64 t1) at hy1
        change w.cell? _ = some (.int .i64 t2) at hy2
        have HX1 := Lib.hid hx1
        have HX2 := Lib.hid hx2
        have HY1 := Lib.hid hy1
        have HY2 := Lib.hid hy2
        replace hx1 := (cell_below hb hbl).trans hx1
        replace hx2 := (cell_below hb hbl).trans hx2
        replace hy1 := (cell_below hb hbl').trans hy1
        replace hy2 := (cell_below hb hbl').trans hy2
        have hsz := hb.size
        obtain ⟨hst1, hst2⟩ := both_step hinv.out
        have HST1 := Lib.hid hst1
        have HST2 := Lib.hid hst2
        clear hz1 hz2 hst1 hst2 hinv
        go_wp2_with fail
        go_still_tail 20, (by kernel_rfl)
        change wpList _ _ _ _ _ wr.drew
        have hown0 : OwnS wr.drew w.heap.size _ l := hown.below (below_drewN (Below.refl _ _) 1)
        have hb0 : Below w.heap.size w wr.drew := hb.drew
        clear hx1 hx2 hy1 hy2 hown hb
        have hlj := join_len l (max s1 t1, min s2 t2)
        go_wp2_with fail
        refine (join_any w.heap.size _ l (max s1 t1) (min s2 t2) _ (by exact hsz) hown0 (by omega)).mono ?_; rintro e w2 ⟨v2, rfl, hown2, _, hb2⟩
        have hb3 := hb0.trans hb2
        have hx1 := (cell_below hb3 hbl).trans HX1.out
        have hx2 := (cell_below hb3 hbl).trans HX2.out
        have hy1 := (cell_below hb3 hbl').trans HY1.out
        have hy2 := (cell_below hb3 hbl').trans HY2.out
        clear hown0 hb0 hb2
        by_cases hst : s2 < t2
        · have hd : decide (s2 < t2) = true := decide_eq_true hst
          have HI2 := Lib.hid (HST1.out (by omega))
          by_cases hcap : c1 = 1
          · subst hcap
            have hp : p1 = 0 := by omega
            subst hp
            have HT1 := Lib.hid (RdS.none_left hr1.out rfl)
            go_wp2_with fail
            go_quiet (fail)
            go_wp2_with fail
            go_roundw
            case rel => exact ⟨_, 0, 0, S2, _, p2 + 1, c2, (t1, t2) :: T2, _, rfl, rfl, Nat.le_refl _, hc2, by omega, hm2, by omega, HT1, hr2, hown2, HI2, below_drewN hb3 _⟩
            case measure => simp [lenV]
          · have HT1 := Lib.hid (RdS.tail hr1.out)
            have hcap2 : 1 < c1 := by omega
            go_wp2_with fail
            go_quiet (fail)
            go_wp2_with fail
            go_roundw
            case rel => exact ⟨_, p1, c1 - 1, S2, _, p2 + 1, c2, (t1, t2) :: T2, _, rfl, rfl, by omega, hc2, by omega, hm2, by omega, HT1, hr2, hown2, HI2, below_drewN hb3 _⟩
            case measure => simp [lenV]
        · have hd : decide (s2 < t2) = false := decide_eq_false hst
          have HI2 := Lib.hid (HST2.out (by omega))
          by_cases hcap : c2 = 1
          · subst hcap
            have hp : p2 = 0 := by omega
            subst hp
            have HT1 := Lib.hid (RdS.none_left hr2.out rfl)
            go_wp2_with fail
            go_quiet (fail)
            go_wp2_with fail
            go_roundw
            case rel => exact ⟨_, p1 + 1, c1, (s1, s2) :: S2, _, 0, 0, T2, _, rfl, rfl, hc1, Nat.le_refl _, hm1, by omega, by omega, hr1, HT1, hown2, HI2, below_drewN hb3 _⟩
            case measure => simp [lenV]
          · have HT1 := Lib.hid (RdS.tail hr2.out)
            have hcap2 : 1 < c2 := by omega
            go_wp2_with fail
            go_quiet (fail)
            go_wp2_with fail
            go_roundw
            case rel => exact ⟨_, p1 + 1, c1, (s1, s2) :: S2, _, p2, c2 - 1, T2, _, rfl, rfl, hc1, by omega, hm1, by omega, by omega, hr1, HT1, hown2, HI2, below_drewN hb3 _⟩
            case measure => simp [lenV]
end Go.Proofs.Ytdnikjjcgoilfaa.SpanCalls
