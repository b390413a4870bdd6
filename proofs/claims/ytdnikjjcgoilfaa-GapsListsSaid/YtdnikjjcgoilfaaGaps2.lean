/-
  Gaps: pairs of numbers, handed over one by one; how many numbers they have.
-/
import Derived.Test.YtdnikjjcgoilfaaGaps1
import Derived.BigQuiet
import Derived.Deep.QuietTactic
namespace Go.Proofs.Ytdnikjjcgoilfaa.Gaps
open Go.ChangeShapes Go.WideShapes Go.RowKit Own

/-- how far it is, and whether it counts -/
def wayP (x y : Int) : Int := wayI x y
def okP (x y : Int) : Prop := wayI x y ≤ 8388608
theorem way_bounds (x y : Int) : 0 ≤ wayI x y ∧ wayI x y < 16777216 := by unfold wayI; omega
def lenV : Value → Nat | .slice _ n _ => n | _ => 0
theorem rdI_drop2 {κ : IntKind} {w : World} {b off n : Nat} {L : List Int} {k : Nat} (h : RdI κ w (some ⟨b, off, none⟩) (n + 2) (L.drop k)) : RdI κ w (some ⟨b, off + 2, none⟩) n (L.drop (k + 2)) := by
  have h1 := h.1
  rw [List.length_drop] at h1
  refine ⟨by rw [List.length_drop]; omega, fun hn => ?_⟩
  obtain ⟨b', off', e, hlt, hc⟩ := h.2 (by omega)
  cases e
  refine ⟨b, off + 2, rfl, hlt, fun i hi => ?_⟩
  have := hc (i + 2) (by omega)
  rw [show off + 2 + i = off + (i + 2) from by omega, this]
  congr 2
  simp only [List.getD, List.getElem?_drop]
  rw [show k + (i + 2) = k + 2 + i from by omega]
theorem rdI_zero {κ : IntKind} {w : World} {a : Option Addr} {L : List Int} (h : L.length = 0) : RdI κ w a 0 L := ⟨h.symm, fun h => absurd h (by omega)⟩
set_option maxRecDepth 100000 in
set_option maxHeartbeats 2000000 in
theorem pairsC_any (g : Nat) (a : Option Addr) (n cap : Nat) (L : List Int) (w : World) (Inv : Nat → World → Prop) (h0 : Inv 0 w) (hn : n = L.length) (hcap : n ≤ cap) (hcap2 : cap ≤ 9223372036854775807)
    (hrd : ∀ k W, Inv k W → RdI .u32 W a n L) (hdr : ∀ k W q, Inv k W → Inv k (W.drewN q))
    (hskip : ∀ k W, 2 * k + 1 < L.length → ¬ okP (L.getD (2 * k) 0) (L.getD (2 * k + 1) 0) → Inv k W → Inv (k + 1) W)
    (hstep : ∀ k W, 2 * k + 1 < L.length → okP (L.getD (2 * k) 0) (L.getD (2 * k + 1) 0) → Inv k W → Calls Try.prog 38 #[.int .u32 (L.getD (2 * k) 0), .int .i64 (wayI (L.getD (2 * k) 0) (L.getD (2 * k + 1) 0)), .pointer (some ⟨g, 0, none⟩)] W fun e W' => (∃ v, e = .returned v) ∧ Inv (k + 1) W') :
    Calls Try.prog 37 #[.slice a n cap, .func (.func 38) #[] #[.pointer (some ⟨g, 0, none⟩)]] w fun e w' => (∃ v, e = .returned v) ∧ Inv (L.length / 2) w' := by
  have H0 := Lib.hid h0
  have HRD := Lib.hid hrd
  have HDR := Lib.hid hdr
  have HSK := Lib.hid hskip
  have HST := Lib.hid hstep
  have HN := Lib.hid hn
  clear h0 hrd hdr hskip hstep hn
  go_enter Try.func37, Try.ntmps37
  go_wp2_with fail
  go_loopw [0] (fun s0 wr => ∃ (k : Nat) (a1 : Option Addr) (n1 c1 : Nat), s0 = .slice a1 n1 c1 ∧ n1 ≤ c1 ∧ c1 ≤ 9223372036854775807 ∧ Hid (2 * k ≤ L.length ∧ n1 = L.length - 2 * k) ∧ Hid (∀ W, RdI .u32 W a n L → RdI .u32 W a1 n1 (L.drop (2 * k))) ∧ Hid (Inv k wr)) (fun s0 _ => lenV s0)
  case atStart => exact ⟨0, a, n, cap, rfl, hcap, hcap2, Lib.hid (by have := HN.out; omega), Lib.hid (fun W h => by simpa using h), H0⟩
  case round =>
    obtain ⟨k, a1, n1, c1, rfl, hc1, hc2, hk, hr, hi⟩ := hrel
    have hr1 := hr.out wr (HRD.out k wr hi.out)
    by_cases hgo : 1 < n1
    · obtain ⟨m, rfl⟩ : ∃ m, n1 = m + 2 := ⟨n1 - 2, by omega⟩
      have hlen : 2 * k + 1 < L.length := by have := hk.out; omega
      obtain ⟨b, off, rfl, hbl, hx⟩ := hr1.at_ (k := 0) (by omega)
      obtain ⟨b', off', e, _, hy⟩ := hr1.at_ (k := 1) (by omega)
      cases e
      have e0 : (L.drop (2 * k)).getD 0 0 = L.getD (2 * k) 0 := by simp [List.getD]
      have e1 : (L.drop (2 * k)).getD 1 0 = L.getD (2 * k + 1) 0 := by simp [List.getD]
      rw [e0, Nat.add_zero] at hx
      rw [e1] at hy
      have HS := Lib.hid (HSK.out k)
      have HT := Lib.hid (HST.out k)
      have HLEN := Lib.hid hlen
      have hr2 : Hid (∀ W, RdI .u32 W a n L → RdI .u32 W (some ⟨b, off + 2, none⟩) m (L.drop (2 * (k + 1)))) := Lib.hid (fun W h => by
        have := rdI_drop2 (hr.out W h)
        rwa [show 2 * k + 2 = 2 * (k + 1) from by omega] at this)
      have hr3 : Hid (∀ a2 W, m = 0 → RdI .u32 W a2 0 (L.drop (2 * (k + 1)))) := Lib.hid (fun a2 W hm => rdI_zero (by rw [List.length_drop]; have := hk.out; omega))
      generalize L.getD (2 * k) 0 = x at *
      generalize L.getD (2 * k + 1) 0 = y at *
      obtain ⟨q, hq⟩ : ∃ q, wayI x y = q := ⟨_, rfl⟩
      have hqb : 0 ≤ q ∧ q < 16777216 := by rw [← hq]; exact way_bounds x y
      obtain ⟨q0, q1⟩ := hqb
      have HQ := Lib.hid hq
      have hto : ∀ W : World, Calls Try.prog 39 #[.int .u32 x, .int .u32 y] W fun e w' => e = .returned (.int .i64 q) ∧ w' = W := fun W =>
        (SeqCalls.to_any x y W).mono fun e w' ⟨h1, h2⟩ => ⟨by rw [h1, show (y - x) % 16777216 = q from hq], h2.symm⟩
      have hm0 : (0 : Int) < (m : Int) + 2 := by omega
      have hm1 : (1 : Int) < (m : Int) + 2 := by omega
      have hm2 : 1 < m + 2 := by omega
      clear hq e0 e1 hr hr1 hlen
      go_wp2_with fail
      go_quiet (exact Calls.quiet_of_same (hto _))
      have hiq : Hid (Inv k (wr.drewN nq)) := Lib.hid (HDR.out k wr nq hi.out)
      have hxq : (wr.drewN nq).cell? ⟨b, off, none⟩ = some (.int .u32 x) := hx
      clear hx hy hto hi
      generalize wr.drewN nq = W at *
      by_cases hok : q ≤ 8388608
      · have hd : decide (q ≤ 8388608) = true := decide_eq_true hok
        have HT2 := Lib.hid (HT.out W HLEN.out (show wayI x y ≤ 8388608 by rw [HQ.out]; exact hok) hiq.out)
        clear HT HS hok
        go_wp2_with fail
        refine (show Calls Try.prog 38 #[.int .u32 x, .int .i64 q, .pointer (some ⟨g, 0, none⟩)] W _ by have := HT2.out; rw [HQ.out] at this; exact this).mono ?_; rintro e W2 ⟨⟨_, rfl⟩, hi2⟩
        have HI2 := Lib.hid hi2
        clear hi2 hiq hxq
        by_cases hc : c1 = 2
        · subst hc
          have hm : m = 0 := by omega
          subst hm
          have hr4 : ∀ a2 : Option Addr, Hid (∀ W, RdI .u32 W a n L → RdI .u32 W a2 0 (L.drop (2 * (k + 1)))) := fun a2 => Lib.hid (fun W _ => hr3.out a2 W rfl)
          clear hr3
          go_wp2_with fail
          all_goals
            go_roundw
            case rel => exact ⟨k + 1, _, 0, 0, rfl, Nat.le_refl _, by omega, Lib.hid (by have := hk.out; omega), hr4 _, HI2⟩
            case measure => simp [lenV]
        · have hc3 : 2 < c1 := by omega
          go_wp2_with fail
          all_goals
            go_roundw
            case rel => exact ⟨k + 1, _, m, c1 - 2, rfl, by omega, by omega, Lib.hid (by have := hk.out; omega), hr2, HI2⟩
            case measure => simp [lenV]
      · have hd : decide (q ≤ 8388608) = false := decide_eq_false hok
        have HI2 := Lib.hid (HS.out W HLEN.out (show ¬ wayI x y ≤ 8388608 by rw [HQ.out]; exact hok) hiq.out)
        clear HT HS hok hiq hxq
        by_cases hc : c1 = 2
        · subst hc
          have hm : m = 0 := by omega
          subst hm
          have hr4 : ∀ a2 : Option Addr, Hid (∀ W, RdI .u32 W a n L → RdI .u32 W a2 0 (L.drop (2 * (k + 1)))) := fun a2 => Lib.hid (fun W _ => hr3.out a2 W rfl)
          clear hr3
          go_wp2_with fail
          all_goals
            go_roundw
            case rel => exact ⟨k + 1, _, 0, 0, rfl, Nat.le_refl _, by omega, Lib.hid (by have := hk.out; omega), hr4 _, HI2⟩
            case measure => simp [lenV]
        · have hc3 : 2 < c1 := by omega
          go_wp2_with fail
          all_goals
            go_roundw
            case rel => exact ⟨k + 1, _, m, c1 - 2, rfl, by omega, by omega, Lib.hid (by have := hk.out; omega), hr2, HI2⟩
            case measure => simp [lenV]
    · have hd : decide ((1 : Int) < (n1 : Int)) = false := decide_eq_false (by omega)
      have he : k = L.length / 2 := by have := hk.out; omega
      have HE := Lib.hid he
      clear hgo he hr1 hr
      go_wp2_with fail
      (try simp only [Exit.inBlock, Exit.then]); refine bodyPost_end (results_none rfl _ _ _) rfl ?_
      exact ⟨⟨_, rfl⟩, by rw [← HE.out]; exact hi.out⟩

set_option maxRecDepth 100000 in
set_option maxHeartbeats 2000000 in
theorem pairsS_any (g g2 : Nat) (a : Option Addr) (n cap : Nat) (L : List Int) (w : World) (Inv : Nat → World → Prop) (h0 : Inv 0 w) (hn : n = L.length) (hcap : n ≤ cap) (hcap2 : cap ≤ 9223372036854775807)
    (hrd : ∀ k W, Inv k W → RdI .u32 W a n L) (hdr : ∀ k W q, Inv k W → Inv k (W.drewN q))
    (hskip : ∀ k W, 2 * k + 1 < L.length → ¬ okP (L.getD (2 * k) 0) (L.getD (2 * k + 1) 0) → Inv k W → Inv (k + 1) W)
    (hstep : ∀ k W, 2 * k + 1 < L.length → okP (L.getD (2 * k) 0) (L.getD (2 * k + 1) 0) → Inv k W → Calls Try.prog 41 #[.int .u32 (L.getD (2 * k) 0), .int .i64 (wayI (L.getD (2 * k) 0) (L.getD (2 * k + 1) 0)), .pointer (some ⟨g, 0, none⟩), .pointer (some ⟨g2, 0, none⟩)] W fun e W' => (∃ v, e = .returned v) ∧ Inv (k + 1) W') :
    Calls Try.prog 37 #[.slice a n cap, .func (.func 41) #[] #[.pointer (some ⟨g, 0, none⟩), .pointer (some ⟨g2, 0, none⟩)]] w fun e w' => (∃ v, e = .returned v) ∧ Inv (L.length / 2) w' := by
  have H0 := Lib.hid h0
  have HRD := Lib.hid hrd
  have HDR := Lib.hid hdr
  have HSK := Lib.hid hskip
  have HST := Lib.hid hstep
  have HN := Lib.hid hn
  clear h0 hrd hdr hskip hstep hn
  go_enter Try.func37, Try.ntmps37
  go_wp2_with fail
  go_loopw [0] (fun s0 wr => ∃ (k : Nat) (a1 : Option Addr) (n1 c1 : Nat), s0 = .slice a1 n1 c1 ∧ n1 ≤ c1 ∧ c1 ≤ 9223372036854775807 ∧ Hid (2 * k ≤ L.length ∧ n1 = L.length - 2 * k) ∧ Hid (∀ W, RdI .u32 W a n L → RdI .u32 W a1 n1 (L.drop (2 * k))) ∧ Hid (Inv k wr)) (fun s0 _ => lenV s0)
  case atStart => exact ⟨0, a, n, cap, rfl, hcap, hcap2, Lib.hid (by have := HN.out; omega), Lib.hid (fun W h => by simpa using h), H0⟩
  case round =>
    obtain ⟨k, a1, n1, c1, rfl, hc1, hc2, hk, hr, hi⟩ := hrel
    have hr1 := hr.out wr (HRD.out k wr hi.out)
    by_cases hgo : 1 < n1
    · obtain ⟨m, rfl⟩ : ∃ m, n1 = m + 2 := ⟨n1 - 2, by omega⟩
      have hlen : 2 * k + 1 < L.length := by have := hk.out; omega
      obtain ⟨b, off, rfl, hbl, hx⟩ := hr1.at_ (k := 0) (by omega)
      obtain ⟨b', off', e, _, hy⟩ := hr1.at_ (k := 1) (by omega)
      cases e
      have e0 : (L.drop (2 * k)).getD 0 0 = L.getD (2 * k) 0 := by simp [List.getD]
      have e1 : (L.drop (2 * k)).getD 1 0 = L.getD (2 * k + 1) 0 := by simp [List.getD]
      rw [e0, Nat.add_zero] at hx
      rw [e1] at hy
      have HS := Lib.hid (HSK.out k)
      have HT := Lib.hid (HST.out k)
      have HLEN := Lib.hid hlen
      have hr2 : Hid (∀ W, RdI .u32 W a n L → RdI .u32 W (some ⟨b, off + 2, none⟩) m (L.drop (2 * (k + 1)))) := Lib.hid (fun W h => by
        have := rdI_drop2 (hr.out W h)
        rwa [show 2 * k + 2 = 2 * (k + 1) from by omega] at this)
      have hr3 : Hid (∀ a2 W, m = 0 → RdI .u32 W a2 0 (L.drop (2 * (k + 1)))) := Lib.hid (fun a2 W hm => rdI_zero (by rw [List.length_drop]; have := hk.out; omega))
      generalize L.getD (2 * k) 0 = x at *
      generalize L.getD (2 * k + 1) 0 = y at *
      obtain ⟨q, hq⟩ : ∃ q, wayI x y = q := ⟨_, rfl⟩
      have hqb : 0 ≤ q ∧ q < 16777216 := by rw [← hq]; exact way_bounds x y
      obtain ⟨q0, q1⟩ := hqb
      have HQ := Lib.hid hq
      have hto : ∀ W : World, Calls Try.prog 39 #[.int .u32 x, .int .u32 y] W fun e w' => e = .returned (.int .i64 q) ∧ w' = W := fun W =>
        (SeqCalls.to_any x y W).mono fun e w' ⟨h1, h2⟩ => ⟨by rw [h1, show (y - x) % 16777216 = q from hq], h2.symm⟩
      have hm0 : (0 : Int) < (m : Int) + 2 := by omega
      have hm1 : (1 : Int) < (m : Int) + 2 := by omega
      have hm2 : 1 < m + 2 := by omega
      clear hq e0 e1 hr hr1 hlen
      go_wp2_with fail
      go_quiet (exact Calls.quiet_of_same (hto _))
      have hiq : Hid (Inv k (wr.drewN nq)) := Lib.hid (HDR.out k wr nq hi.out)
      have hxq : (wr.drewN nq).cell? ⟨b, off, none⟩ = some (.int .u32 x) := hx
      clear hx hy hto hi
      generalize wr.drewN nq = W at *
      by_cases hok : q ≤ 8388608
      · have hd : decide (q ≤ 8388608) = true := decide_eq_true hok
        have HT2 := Lib.hid (HT.out W HLEN.out (show wayI x y ≤ 8388608 by rw [HQ.out]; exact hok) hiq.out)
        clear HT HS hok
        go_wp2_with fail
        refine (show Calls Try.prog 41 #[.int .u32 x, .int .i64 q, .pointer (some ⟨g, 0, none⟩), .pointer (some ⟨g2, 0, none⟩)] W _ by have := HT2.out; rw [HQ.out] at this; exact this).mono ?_; rintro e W2 ⟨⟨_, rfl⟩, hi2⟩
        have HI2 := Lib.hid hi2
        clear hi2 hiq hxq
        by_cases hc : c1 = 2
        · subst hc
          have hm : m = 0 := by omega
          subst hm
          have hr4 : ∀ a2 : Option Addr, Hid (∀ W, RdI .u32 W a n L → RdI .u32 W a2 0 (L.drop (2 * (k + 1)))) := fun a2 => Lib.hid (fun W _ => hr3.out a2 W rfl)
          clear hr3
          go_wp2_with fail
          all_goals
            go_roundw
            case rel => exact ⟨k + 1, _, 0, 0, rfl, Nat.le_refl _, by omega, Lib.hid (by have := hk.out; omega), hr4 _, HI2⟩
            case measure => simp [lenV]
        · have hc3 : 2 < c1 := by omega
          go_wp2_with fail
          all_goals
            go_roundw
            case rel => exact ⟨k + 1, _, m, c1 - 2, rfl, by omega, by omega, Lib.hid (by have := hk.out; omega), hr2, HI2⟩
            case measure => simp [lenV]
      · have hd : decide (q ≤ 8388608) = false := decide_eq_false hok
        have HI2 := Lib.hid (HS.out W HLEN.out (show ¬ wayI x y ≤ 8388608 by rw [HQ.out]; exact hok) hiq.out)
        clear HT HS hok hiq hxq
        by_cases hc : c1 = 2
        · subst hc
          have hm : m = 0 := by omega
          subst hm
          have hr4 : ∀ a2 : Option Addr, Hid (∀ W, RdI .u32 W a n L → RdI .u32 W a2 0 (L.drop (2 * (k + 1)))) := fun a2 => Lib.hid (fun W _ => hr3.out a2 W rfl)
          clear hr3
          go_wp2_with fail
          all_goals
            go_roundw
            case rel => exact ⟨k + 1, _, 0, 0, rfl, Nat.le_refl _, by omega, Lib.hid (by have := hk.out; omega), hr4 _, HI2⟩
            case measure => simp [lenV]
        · have hc3 : 2 < c1 := by omega
          go_wp2_with fail
          all_goals
            go_roundw
            case rel => exact ⟨k + 1, _, m, c1 - 2, rfl, by omega, by omega, Lib.hid (by have := hk.out; omega), hr2, HI2⟩
            case measure => simp [lenV]
    · have hd : decide ((1 : Int) < (n1 : Int)) = false := decide_eq_false (by omega)
      have he : k = L.length / 2 := by have := hk.out; omega
      have HE := Lib.hid he
      clear hgo he hr1 hr
      go_wp2_with fail
      (try simp only [Exit.inBlock, Exit.then]); refine bodyPost_end (results_none rfl _ _ _) rfl ?_
      exact ⟨⟨_, rfl⟩, by rw [← HE.out]; exact hi.out⟩

set_option maxRecDepth 100000 in
set_option maxHeartbeats 2000000 in
theorem pairsN_any (g g2 : Nat) (a : Option Addr) (n cap : Nat) (L : List Int) (w : World) (Inv : Nat → World → Prop) (h0 : Inv 0 w) (hn : n = L.length) (hcap : n ≤ cap) (hcap2 : cap ≤ 9223372036854775807)
    (hrd : ∀ k W, Inv k W → RdI .u32 W a n L) (hdr : ∀ k W q, Inv k W → Inv k (W.drewN q))
    (hskip : ∀ k W, 2 * k + 1 < L.length → ¬ okP (L.getD (2 * k) 0) (L.getD (2 * k + 1) 0) → Inv k W → Inv (k + 1) W)
    (hstep : ∀ k W, 2 * k + 1 < L.length → okP (L.getD (2 * k) 0) (L.getD (2 * k + 1) 0) → Inv k W → Calls Try.prog 42 #[.int .u32 (L.getD (2 * k) 0), .int .i64 (wayI (L.getD (2 * k) 0) (L.getD (2 * k + 1) 0)), .pointer (some ⟨g, 0, none⟩), .pointer (some ⟨g2, 0, none⟩)] W fun e W' => (∃ v, e = .returned v) ∧ Inv (k + 1) W') :
    Calls Try.prog 37 #[.slice a n cap, .func (.func 42) #[] #[.pointer (some ⟨g, 0, none⟩), .pointer (some ⟨g2, 0, none⟩)]] w fun e w' => (∃ v, e = .returned v) ∧ Inv (L.length / 2) w' := by
  have H0 := Lib.hid h0
  have HRD := Lib.hid hrd
  have HDR := Lib.hid hdr
  have HSK := Lib.hid hskip
  have HST := Lib.hid hstep
  have HN := Lib.hid hn
  clear h0 hrd hdr hskip hstep hn
  go_enter Try.func37, Try.ntmps37
  go_wp2_with fail
  go_loopw [0] (fun s0 wr => ∃ (k : Nat) (a1 : Option Addr) (n1 c1 : Nat), s0 = .slice a1 n1 c1 ∧ n1 ≤ c1 ∧ c1 ≤ 9223372036854775807 ∧ Hid (2 * k ≤ L.length ∧ n1 = L.length - 2 * k) ∧ Hid (∀ W, RdI .u32 W a n L → RdI .u32 W a1 n1 (L.drop (2 * k))) ∧ Hid (Inv k wr)) (fun s0 _ => lenV s0)
  case atStart => exact ⟨0, a, n, cap, rfl, hcap, hcap2, Lib.hid (by have := HN.out; omega), Lib.hid (fun W h => by simpa using h), H0⟩
  case round =>
    obtain ⟨k, a1, n1, c1, rfl, hc1, hc2, hk, hr, hi⟩ := hrel
    have hr1 := hr.out wr (HRD.out k wr hi.out)
    by_cases hgo : 1 < n1
    · obtain ⟨m, rfl⟩ : ∃ m, n1 = m + 2 := ⟨n1 - 2, by omega⟩
      have hlen : 2 * k + 1 < L.length := by have := hk.out; omega
      obtain ⟨b, off, rfl, hbl, hx⟩ := hr1.at_ (k := 0) (by omega)
      obtain ⟨b', off', e, _, hy⟩ := hr1.at_ (k := 1) (by omega)
      cases e
      have e0 : (L.drop (2 * k)).getD 0 0 = L.getD (2 * k) 0 := by simp [List.getD]
      have e1 : (L.drop (2 * k)).getD 1 0 = L.getD (2 * k + 1) 0 := by simp [List.getD]
      rw [e0, Nat.add_zero] at hx
      rw [e1] at hy
      have HS := Lib.hid (HSK.out k)
      have HT := Lib.hid (HST.out k)
      have HLEN := Lib.hid hlen
      have hr2 : Hid (∀ W, RdI .u32 W a n L → RdI .u32 W (some ⟨b, off + 2, none⟩) m (L.drop (2 * (k + 1)))) := Lib.hid (fun W h => by
        have := rdI_drop2 (hr.out W h)
        rwa [show 2 * k + 2 = 2 * (k + 1) from by omega] at this)
      have hr3 : Hid (∀ a2 W, m = 0 → RdI .u32 W a2 0 (L.drop (2 * (k + 1)))) := Lib.hid (fun a2 W hm => rdI_zero (by rw [List.length_drop]; have := hk.out; omega))
      generalize L.getD (2 * k) 0 = x at *
      generalize L.getD (2 * k + 1) 0 = y at *
      obtain ⟨q, hq⟩ : ∃ q, wayI x y = q := ⟨_, rfl⟩
      have hqb : 0 ≤ q ∧ q < 16777216 := by rw [← hq]; exact way_bounds x y
      obtain ⟨q0, q1⟩ := hqb
      have HQ := Lib.hid hq
      have hto : ∀ W : World, Calls Try.prog 39 #[.int .u32 x, .int .u32 y] W fun e w' => e = .returned (.int .i64 q) ∧ w' = W := fun W =>
        (SeqCalls.to_any x y W).mono fun e w' ⟨h1, h2⟩ => ⟨by rw [h1, show (y - x) % 16777216 = q from hq], h2.symm⟩
      have hm0 : (0 : Int) < (m : Int) + 2 := by omega
      have hm1 : (1 : Int) < (m : Int) + 2 := by omega
      have hm2 : 1 < m + 2 := by omega
      clear hq e0 e1 hr hr1 hlen
      go_wp2_with fail
      go_quiet (exact Calls.quiet_of_same (hto _))
      have hiq : Hid (Inv k (wr.drewN nq)) := Lib.hid (HDR.out k wr nq hi.out)
      have hxq : (wr.drewN nq).cell? ⟨b, off, none⟩ = some (.int .u32 x) := hx
      clear hx hy hto hi
      generalize wr.drewN nq = W at *
      by_cases hok : q ≤ 8388608
      · have hd : decide (q ≤ 8388608) = true := decide_eq_true hok
        have HT2 := Lib.hid (HT.out W HLEN.out (show wayI x y ≤ 8388608 by rw [HQ.out]; exact hok) hiq.out)
        clear HT HS hok
        go_wp2_with fail
        refine (show Calls Try.prog 42 #[.int .u32 x, .int .i64 q, .pointer (some ⟨g, 0, none⟩), .pointer (some ⟨g2, 0, none⟩)] W _ by have := HT2.out; rw [HQ.out] at this; exact this).mono ?_; rintro e W2 ⟨⟨_, rfl⟩, hi2⟩
        have HI2 := Lib.hid hi2
        clear hi2 hiq hxq
        by_cases hc : c1 = 2
        · subst hc
          have hm : m = 0 := by omega
          subst hm
          have hr4 : ∀ a2 : Option Addr, Hid (∀ W, RdI .u32 W a n L → RdI .u32 W a2 0 (L.drop (2 * (k + 1)))) := fun a2 => Lib.hid (fun W _ => hr3.out a2 W rfl)
          clear hr3
          go_wp2_with fail
          all_goals
            go_roundw
            case rel => exact ⟨k + 1, _, 0, 0, rfl, Nat.le_refl _, by omega, Lib.hid (by have := hk.out; omega), hr4 _, HI2⟩
            case measure => simp [lenV]
        · have hc3 : 2 < c1 := by omega
          go_wp2_with fail
          all_goals
            go_roundw
            case rel => exact ⟨k + 1, _, m, c1 - 2, rfl, by omega, by omega, Lib.hid (by have := hk.out; omega), hr2, HI2⟩
            case measure => simp [lenV]
      · have hd : decide (q ≤ 8388608) = false := decide_eq_false hok
        have HI2 := Lib.hid (HS.out W HLEN.out (show ¬ wayI x y ≤ 8388608 by rw [HQ.out]; exact hok) hiq.out)
        clear HT HS hok hiq hxq
        by_cases hc : c1 = 2
        · subst hc
          have hm : m = 0 := by omega
          subst hm
          have hr4 : ∀ a2 : Option Addr, Hid (∀ W, RdI .u32 W a n L → RdI .u32 W a2 0 (L.drop (2 * (k + 1)))) := fun a2 => Lib.hid (fun W _ => hr3.out a2 W rfl)
          clear hr3
          go_wp2_with fail
          all_goals
            go_roundw
            case rel => exact ⟨k + 1, _, 0, 0, rfl, Nat.le_refl _, by omega, Lib.hid (by have := hk.out; omega), hr4 _, HI2⟩
            case measure => simp [lenV]
        · have hc3 : 2 < c1 := by omega
          go_wp2_with fail
          all_goals
            go_roundw
            case rel => exact ⟨k + 1, _, m, c1 - 2, rfl, by omega, by omega, Lib.hid (by have := hk.out; omega), hr2, HI2⟩
            case measure => simp [lenV]
    · have hd : decide ((1 : Int) < (n1 : Int)) = false := decide_eq_false (by omega)
      have he : k = L.length / 2 := by have := hk.out; omega
      have HE := Lib.hid he
      clear hgo he hr1 hr
      go_wp2_with fail
      (try simp only [Exit.inBlock, Exit.then]); refine bodyPost_end (results_none rfl _ _ _) rfl ?_
      exact ⟨⟨_, rfl⟩, by rw [← HE.out]; exact hi.out⟩

end Go.Proofs.Ytdnikjjcgoilfaa.Gaps
