/-
  TimerNext is proved: when the next one is over is told, as many ticks later something is over, and ahead of that nothing; for every input the law returns true.
-/
import Derived.Test.YtighpblhghfneaaBase
import Derived.Test.YtighpblhghfneaaLaw08
namespace Go.Proofs.Ytighpblhghfneaa.timerNext
open Go.ChangeShapes Go.WideShapes Go.ChangeAt Go.RowKit
set_option linter.unusedVariables false      -- a walk need not use every bound of an argument

open Bank View

def downL (L : List Nat) (j : Nat) : List Nat := L.map (· - j)
theorem down_tick (L : List Nat) (j : Nat) : tickL (downL L j) = downL L (j + 1) := by
  simp only [tickL, downL, List.map_map]
  exact List.map_congr_left fun x _ => by simp only [Function.comp]; omega
theorem down_zero (L : List Nat) : downL L 0 = L := by simp [downL]
theorem getD_down (L : List Nat) (i j : Nat) : (downL L j).getD i 0 = L.getD i 0 - j := by
  simp only [downL, List.getD, List.getElem?_map]
  cases L[i]? <;> simp
def Bd (L : List Nat) : Prop := ∀ i, L.getD i 0 ≤ 50
theorem bd_zero : Bd zeroL := fun i => by rw [getD_zero]; omega
theorem bd_start {L : List Nat} {i : Nat} {v : Int} (hl : L.length = 5) (h : Bd L) (hi : i < 5) (h2 : v ≤ 50) : Bd (startL L (i : Int) v) := fun k => by
  rw [getD_start hl i k v hi]
  split
  · unfold clampN; omega
  · exact h k
theorem bd_down {L : List Nat} (h : Bd L) (j : Nat) : Bd (downL L j) := fun k => by rw [getD_down]; have := h k; omega
def pos : List Nat → Nat
  | [] => 0
  | x :: L => (if 0 < x then 1 else 0) + pos L
theorem pos_le : ∀ (L : List Nat), pos L ≤ L.length
  | [] => Nat.le_refl _
  | x :: L => by
    have ih := pos_le L
    show (if 0 < x then 1 else 0) + pos L ≤ L.length + 1
    split <;> omega
theorem pos_down_le : ∀ (L : List Nat) (n : Nat), pos (downL L n) ≤ pos L
  | [], _ => Nat.le_refl _
  | x :: L, n => by
    have ih := pos_down_le L n
    show (if 0 < x - n then 1 else 0) + pos (downL L n) ≤ (if 0 < x then 1 else 0) + pos L
    split <;> split <;> omega
theorem pos_down_lt : ∀ (L : List Nat) (n i : Nat), 0 < L.getD i 0 → L.getD i 0 ≤ n → pos (downL L n) < pos L
  | [], _, _, h, _ => by simp at h
  | x :: L, n, 0, h, h2 => by
    have ih := pos_down_le L n
    simp only [List.getD_cons_zero] at h h2
    show (if 0 < x - n then 1 else 0) + pos (downL L n) < (if 0 < x then 1 else 0) + pos L
    rw [if_pos h, if_neg (by omega)]; omega
  | x :: L, n, i + 1, h, h2 => by
    have ih := pos_down_lt L n i (by simpa using h) (by simpa using h2)
    show (if 0 < x - n then 1 else 0) + pos (downL L n) < (if 0 < x then 1 else 0) + pos L
    split <;> split <;> omega
theorem pos_none : ∀ (L : List Nat) (i : Nat), pos L = 0 → L.getD i 0 = 0
  | [], _, _ => by simp
  | x :: L, 0, h => by
    have h : (if 0 < x then 1 else 0) + pos L = 0 := h
    rw [List.getD_cons_zero]
    split at h <;> omega
  | x :: L, i + 1, h => by
    have h : (if 0 < x then 1 else 0) + pos L = 0 := h
    have := pos_none L i (by omega)
    simpa using this
theorem nextTo_le (L : List Nat) : ∀ k i, i < k → 0 < L.getD i 0 → 0 < nextTo L k ∧ nextTo L k ≤ L.getD i 0
  | 0, _, h, _ => absurd h (Nat.not_lt_zero _)
  | k + 1, i, h, h0 => by
    by_cases hik : i = k
    · subst hik
      rw [nextTo]
      split <;> omega
    · have ih := nextTo_le L k i (by omega) h0
      rw [nextTo]
      split <;> omega
theorem nextTo_ex (L : List Nat) : ∀ k, 0 < nextTo L k → ∃ i, i < k ∧ L.getD i 0 = nextTo L k
  | 0, h => absurd h (Nat.not_lt_zero _)
  | k + 1, h => by
    rw [nextTo] at h ⊢
    split
    · exact ⟨k, by omega, rfl⟩
    · rename_i hc
      rw [if_neg hc] at h
      obtain ⟨i, hi, he⟩ := nextTo_ex L k h
      exact ⟨i, by omega, he⟩
theorem next_of_pos {L : List Nat} (h : pos L = 0) : nextL L = 0 := by
  rcases Nat.eq_zero_or_pos (nextL L) with h0 | h0
  · exact h0
  · obtain ⟨i, _, he⟩ := nextTo_ex L 5 h0
    have := pos_none L i h
    unfold nextL at h0
    omega
theorem none_ahead {L : List Nat} {m j : Nat} (hm : nextL L = m + 1) (hj : j < m) : oversL (downL L j) = [] :=
  overs_none fun i hi => by
    rw [getD_down]
    intro h
    have := (nextTo_le L 5 i hi (by omega)).2
    unfold nextL at hm
    omega
theorem some_then {L : List Nat} {m : Nat} (hm : nextL L = m + 1) : 0 < (oversL (downL L m)).length := by
  obtain ⟨i, hi, he⟩ := nextTo_ex L 5 (by unfold nextL at hm; omega)
  exact overs_some hi (by rw [getD_down, he]; unfold nextL at hm; omega)
theorem fewer_then {L : List Nat} {m : Nat} (hm : nextL L = m + 1) : pos (downL L (m + 1)) < pos L := by
  obtain ⟨i, hi, he⟩ := nextTo_ex L 5 (by unfold nextL at hm; omega)
  unfold nextL at hm
  exact pos_down_lt L (m + 1) i (by omega) (by omega)

set_option maxRecDepth 100000 in
set_option maxHeartbeats 4000000 in
theorem walk (w : World) (v0 : Value) (T : List Int) (w0 : Base.IntSlice .i64 8 w v0 T) :
    Calls Try.prog 5 #[v0] w fun e w' => e = .returned (.bool true) ∧ Below w.heap.size w w' := by
  obtain ⟨a, cap, rfl, hr, hb64, hl64⟩ := rd_ints w0
  obtain ⟨M, hM⟩ : ∃ M, T.length = M := ⟨_, rfl⟩
  rw [hM] at hr hl64 ⊢
  have HT := Lib.hid hr
  have HB64 := Lib.hid hb64
  have HM := Lib.hid hM
  clear hr hb64 hM w0
  go_enter Try.func5, Try.ntmps5
  go_wp2_with fail
  refine (awake_any _).mono ?_; rintro e x1 ⟨rfl, hb1⟩
  have H1 := Lib.hid (mine_new hb1 hb1.size)
  clear hb1
  go_wp2_with fail
  generalize x1.alloc (.cells #[.int .i64 0, .int .i64 0, .int .i64 0, .int .i64 0, .int .i64 0] 26) = W0 at *
  generalize x1.heap.size = B at *
  go_loopw [4] (fun s4 wr => ∃ (i : Nat) (L : List Nat), i ≤ 5 ∧ i ≤ M ∧ s4 = .int .i64 (i : Int) ∧ Hid (Mine w w.heap.size B L wr) ∧ Hid (Bd L)) (fun s4 _ => 5 - (intOf s4).toNat)
  case atStart => exact ⟨0, zeroL, by omega, by omega, rfl, H1, Lib.hid bd_zero⟩
  case round =>
    obtain ⟨i, L, hi5, hiM, rfl, hm, hg⟩ := hrel
    by_cases hgo : i < M ∧ i < 5
    · obtain ⟨hg1, hg2⟩ := hgo
      have hd1 : decide (i < M) = true := decide_eq_true hg1
      have hd2 : decide ((i : Int) < 5) = true := decide_eq_true (by omega)
      obtain ⟨b, off, rfl, _, hc⟩ := (HT.out.below hm.out.1).at_ hg1
      have hin : (i : Int) < (M : Int) := by omega
      generalize T.getD i 0 = y at hc
      go_wp2_with fail
      all_goals
        refine (start_own (i : Int) _ hm.out).mono ?_; rintro e x3 ⟨⟨_, rfl⟩, h3, _⟩
        obtain ⟨L2, h4, h5⟩ : ∃ L2, Hid (Mine w w.heap.size B L2 x3) ∧ Hid (Bd L2) := ⟨_, Lib.hid h3, Lib.hid (bd_start hm.out.2.2.2.len hg.out hg2 (by omega))⟩
        clear h3
        go_wp2_with fail
        go_roundw
        case rel => exact ⟨i + 1, L2, by omega, by omega, by go_num, h4, h5⟩
        case measure => simp [intOf]; omega
    · have hcase : decide (i < M) = false ∨ (decide (i < M) = true ∧ decide ((i : Int) < 5) = false) := by
        by_cases h1 : i < M
        · exact .inr ⟨decide_eq_true h1, decide_eq_false (by omega)⟩
        · exact .inl (decide_eq_false h1)
      have HP0 : Hid (pos L ≤ 5) := Lib.hid (by have := pos_le L; have := hm.out.2.2.2.len; omega)
      clear hgo
      obtain ⟨W1, hW1⟩ : ∃ W1, W1 = wr := ⟨_, rfl⟩
      rw [← hW1] at hm ⊢
      clear hW1
      rcases hcase with hd1 | ⟨hd1, hd2⟩
      all_goals
        go_wp2_with fail
        go_loopw [29] (fun s29 wr => ∃ (r : Nat) (L2 : List Nat), r ≤ 5 ∧ s29 = .int .i64 (r : Int) ∧ Hid (Mine w w.heap.size B L2 wr) ∧ Hid (Bd L2) ∧ Hid (pos L2 + r ≤ 5)) (fun s29 _ => 5 - (intOf s29).toNat)
        case atStart => exact ⟨0, L, by omega, rfl, hm, hg, Lib.hid (by have := HP0.out; omega)⟩
        case round =>
          obtain ⟨r, L2, hr5, rfl, hm2, hg2, hp2⟩ := hrel
          by_cases hlt : r < 5
          · have hrd : decide ((r : Int) < 5) = true := decide_eq_true (by omega)
            by_cases hn0 : nextL L2 = 0
            · have HN0 := Lib.hid hn0
              clear hn0
              go_wp2_with fail
              refine (next_own hm2.out).mono ?_; rintro e x4 ⟨rfl, rfl⟩
              rw [HN0.out]
              go_wp2_with fail
              go_ret
              exact ⟨rfl, hm2.out.1⟩
            · obtain ⟨m, hmm⟩ : ∃ m, nextL L2 = m + 1 := ⟨nextL L2 - 1, by omega⟩
              have hm50 : m ≤ 50 := by
                obtain ⟨k, _, hk⟩ := nextTo_ex L2 5 (by unfold nextL at hmm; omega)
                have := hg2.out k
                unfold nextL at hmm
                omega
              have HMM := Lib.hid hmm
              clear hn0 hmm
              obtain ⟨n, hn⟩ : ∃ n : Nat, m + 1 = n := ⟨_, rfl⟩
              have hn1 : (n : Int) - 1 = (m : Int) := by omega
              have hn2 : decide (0 < n) = true := decide_eq_true (by omega)
              have HN := Lib.hid hn
              clear hn
              go_wp2_with fail
              refine (next_own hm2.out).mono ?_; rintro e x4 ⟨rfl, rfl⟩
              rw [HMM.out, HN.out, hn2]
              go_wp2_with fail
              obtain ⟨W2, hW2⟩ : ∃ W2, W2 = wr := ⟨_, rfl⟩
              rw [← hW2] at hm2 ⊢
              clear hW2 hn1 hn2
              go_loopw [41] (fun s41 wr => ∃ (j : Nat), j ≤ m ∧ s41 = .int .i64 (j : Int) ∧ Hid (Mine w w.heap.size B (downL L2 j) wr)) (fun s41 _ => m - (intOf s41).toNat)
              case atStart => exact ⟨0, Nat.zero_le _, rfl, Lib.hid (by rw [down_zero]; exact hm2.out)⟩
              case round =>
                obtain ⟨j, hj, rfl, hm3⟩ := hrel
                by_cases hjm : j < m
                · go_wp2_with fail
                  refine (tick_own hm3.out).mono ?_; rintro e x5 ⟨a5, c5, rfl, _, h5, _⟩
                  rw [none_ahead HMM.out hjm]
                  rw [down_tick] at h5
                  have H5 := Lib.hid h5
                  clear h5
                  go_wp2_with fail
                  go_roundw
                  case rel => exact ⟨j + 1, by omega, by go_num, H5⟩
                  case measure => simp [intOf]; omega
                · obtain rfl : j = m := by omega
                  have hsome := some_then HMM.out
                  obtain ⟨q, hq⟩ : ∃ q, (oversL (downL L2 j)).length = q := ⟨_, rfl⟩
                  rw [hq] at hsome
                  have hq0 : ((q : Int) == 0) = false := by simp; omega
                  have HQ := Lib.hid hq
                  clear hq
                  go_wp2_with fail
                  refine (tick_own hm3.out).mono ?_; rintro e x5 ⟨a5, c5, rfl, _, h5, _⟩
                  rw [HQ.out]
                  rw [down_tick] at h5
                  have H5 := Lib.hid h5
                  clear h5
                  go_wp2_with fail
                  go_roundw
                  case rel => exact ⟨r + 1, downL L2 (j + 1), by omega, by go_num, H5, Lib.hid (bd_down hg2.out _), Lib.hid (by have := fewer_then HMM.out; have := hp2.out; omega)⟩
                  case measure => simp [intOf]; omega
          · obtain rfl : r = 5 := by omega
            have hp0 : pos L2 = 0 := by have := hp2.out; omega
            have HN0 := Lib.hid (next_of_pos hp0)
            clear hp0
            go_wp2_with fail
            refine (next_own hm2.out).mono ?_; rintro e x4 ⟨rfl, rfl⟩
            rw [HN0.out]
            go_wp2_with fail
            go_ret
            exact ⟨rfl, hm2.out.1⟩

theorem own : ownKnob Try.prog.godebug = none := by kernel_rfl
theorem laidOut : laidOutB Try.prog = true := by kernel_rfl

set_option maxRecDepth 100000 in
theorem lifted (os : Os) (started : os.Started) (H : Type) (enc : TypeId × Value → H) :
    ReturnsInHanded {} Try.checked os 5 .any (Rows.timerNextSpec.pre6 enc Try.prog Try.f5 Rows.timerNextRow.domain false) (Rows.timerNextSpec.post enc Try.prog Try.f5 false true false false) := by
  refine Base.law_lifted (C := Try.checked) own started (by kernel_rfl) Try.func5 laidOut (by kernel_rfl) rfl Try.underlying4 rfl ?_
    (ChangeSpec.witness6 (enc := enc) (C := Try.checked) false ⟨#[], #[.slice none 0 0], []⟩ 8 (by kernel_rfl) (by kernel_rfl) (by kernel_rfl) (by kernel_rfl)) ?_
  · intro ds h
    match ds, h with
    | [_d0], _ => exact ⟨rfl, rfl, rfl⟩
  · intro W base args ds before hval0 hA0 hlt hsz
    have hval : ∀ (j : Nat) t v, Try.f5.params[j]? = some t → args[j]? = some v → Value.okWide Try.prog W .any base t v := hval0
    have hA : DataW.TrodAll enc Try.prog W 0 (fun _ => true) true Try.f5.params.toList args.toList ds before := hA0
    clear hval0 hA0
    rw [Try.params5] at hA hval hsz
    obtain ⟨v0, vs0, d0, ds0, p0, q0, hargs, rfl, rfl, h0, r0⟩ := trodAll_cons hA
    obtain ⟨rfl, rfl, rfl⟩ := trodAll_nil r0
    obtain rfl : args = #[v0] := by cases args; simp_all
    obtain ⟨a0, w0⟩ := Base.open_int_slice Try.underlying27 Try.underlying3 (by kernel_rfl) (by kernel_rfl) (hval 0 27 v0 rfl rfl) h0 (fun x hx => hlt x (by simp [hx])) (Base.sized_at hsz (j := 0) rfl rfl)
    exact walk W v0 a0 w0

theorem over : Rows.timerNextRow.holds Try.pinned (OpenSpec.ofChange Rows.timerNextSpec) :=
  OpenClaim.holds_of_wide 5 Try.f5 rfl rfl rfl rfl rfl rfl rfl ⟨rfl, rfl, rfl, rfl, rfl⟩ rfl rfl rfl rfl rfl (by kernel_rfl) Try.func5 (by kernel_rfl)
    (of_decide_eq_true (by kernel_rfl)) (by unfold Func.isWrapper; first | (rw [if_pos (by decide +kernel)]; kernel_rfl) | (rw [if_neg (by decide +kernel)]; exact ⟨rfl, rfl⟩))
    (fun os started H enc _ => lifted os started H enc)

theorem proved : Rows.TimerNextSaid :=
  over
#print axioms proved
end Go.Proofs.Ytighpblhghfneaa.timerNext
