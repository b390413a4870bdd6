/-
  What is done with units, by the state: which requests may be.
-/
import Derived.Test.YtkphompjahcjiaaDoorRules4L
namespace Go.Proofs.YtkphompjahcjiaaDoor.Rules
open Go.ChangeShapes Go.WideShapes Go.RowKit Go.Maps Own

def inL (x : Int) (L : List Int) : Bool := L.any fun y => y == x
theorem inL_none {x : Int} {L : List Int} (h : ∀ j, j < L.length → L.getD j 0 ≠ x) : inL x L = false := by
  unfold inL
  rw [List.any_eq_false]
  intro y hy
  obtain ⟨j, hj, rfl⟩ := List.getElem_of_mem hy
  have := h j hj
  simpa [List.getD, hj] using this
theorem inL_some {x : Int} {L : List Int} {j : Nat} (hj : j < L.length) (h : L.getD j 0 = x) : inL x L = true := by
  unfold inL
  rw [List.any_eq_true]
  exact ⟨L[j], List.getElem_mem hj, by simpa [List.getD, hj] using h⟩
set_option maxHeartbeats 1000000 in
theorem index_any (x : Int) (a : Option Addr) (n cap : Nat) (L : List Int) (w : World) (h : RdI .i64 w a n L) (hn : n ≤ 1000000) :
    Calls Tryd.prog 89 #[.slice a n cap, .int .i64 x] w fun e w' => (∃ r : Int, e = .returned (.int .i64 r) ∧ decide (0 ≤ r) = inL x L) ∧ w = w' := by
  have HL := Lib.hid h
  clear h
  go_enter Tryd.func89, Tryd.ntmps89
  go_wp2_with fail
  go_loop [8] (fun s8 => ∃ i : Nat, i ≤ n ∧ s8 = .int .i64 (i : Int) ∧ Hid (∀ j, j < i → L.getD j 0 ≠ x)) (fun s8 => n - (intOf s8).toNat)
  case atStart => exact ⟨0, Nat.zero_le _, rfl, Lib.hid (fun j hj => absurd hj (Nat.not_lt_zero _))⟩
  case round =>
    obtain ⟨i, hi, rfl, hno⟩ := hrel
    by_cases hlt : i < n
    · obtain ⟨b, off, rfl, _, hc⟩ := HL.out.at_ hlt
      obtain ⟨y, hy⟩ : ∃ y, L.getD i 0 = y := ⟨_, rfl⟩
      rw [hy] at hc
      have HY := Lib.hid hy
      have HLT := Lib.hid hlt
      clear hy
      by_cases he : x = y
      · have he2 : (x == y) = true := by simpa using he
        have HE := Lib.hid he
        clear he
        go_wp2_with fail
        go_ret
        exact ⟨⟨_, rfl, by rw [inL_some (by have := HL.out.1; have := HLT.out; omega) (HY.out.trans HE.out.symm)]; simp⟩, rfl⟩
      · have he2 : (x == y) = false := by simpa using he
        have HE := Lib.hid he
        clear he
        go_wp2_with fail
        go_round
        case rel => exact ⟨i + 1, HLT.out, by go_num, Lib.hid (fun j hj => by
          by_cases hji : j = i
          · subst hji; rw [HY.out]; exact fun e => HE.out e.symm
          · exact hno.out j (by omega))⟩
        case measure => simp [intOf]; have := HLT.out; omega
    · obtain rfl : i = n := by omega
      go_wp2_with fail
      go_ret
      exact ⟨⟨_, rfl, by rw [inL_none (by have := HL.out.1; rw [← this]; exact hno.out)]; rfl⟩, rfl⟩
theorem among_any (x : Int) (a : Option Addr) (n cap : Nat) (L : List Int) (w : World) (h : RdI .i64 w a n L) (hn : n ≤ 1000000) :
    Calls Tryd.prog 65 #[.int .i64 x, .slice a n cap] w fun e w' => e = .returned (.bool (inL x L)) ∧ w = w' := by
  have hcon : Calls Tryd.prog 81 #[.slice a n cap, .int .i64 x] w fun e w' => e = .returned (.bool (inL x L)) ∧ w = w' := by
    have H := Lib.hid h
    clear h
    go_enter Tryd.func81, Tryd.ntmps81
    go_wp2_with fail
    refine (index_any x a n cap L _ H.out hn).mono ?_; rintro e w1 ⟨⟨r, rfl, hr⟩, rfl⟩
    go_wp2_with fail
    go_ret
    exact ⟨by simp [← hr], rfl⟩
  go_enter Tryd.func65, Tryd.ntmps65
  go_wp2_with fail
  refine hcon.mono ?_; rintro e w1 ⟨rfl, rfl⟩
  go_wp2_with fail
  go_ret
  exact ⟨rfl, rfl⟩
theorem rdI_lit2_at (κ : IntKind) (τ : TypeId) (w : World) (a b : Int) (g : Nat) (hg : g = w.heap.size) : RdI κ (w.alloc (.cells #[.int κ a, .int κ b] τ)) (some ⟨g, 0, none⟩) 2 [a, b] := by
  subst hg
  exact ⟨rfl, fun _ => ⟨_, 0, rfl, by simp, fun i hi => by
    rcases (show i = 0 ∨ i = 1 by omega) with rfl | rfl <;> simp⟩⟩

def mayI (s r : Int) : Bool :=
  if r = 1 then inL s [1, 4] else if r = 2 then inL s [3] else if r = 3 then knownB s && !inL s [1, 4] else if r = 4 then inL s [8, 10] else if r = 5 then inL s [6] else if r = 6 then inL s [8, 9] else if r = 7 then inL s [10] else knownB s && decide (8 ≤ r ∧ r ≤ 11)
set_option maxRecDepth 100000 in
set_option maxHeartbeats 1000000 in
theorem may_any (s r : Int) (w : World) :
    Calls Tryd.prog 42 #[.int .i64 s, .int .i64 r] w fun e w' => e = .returned (.bool (mayI s r)) ∧ Below w.heap.size w w' := by
  by_cases h1 : r = 1
  · subst h1
    rw [show mayI s 1 = inL s [1, 4] from rfl]
    go_enter Tryd.func42, Tryd.ntmps42
    go_wp2_with fail
    refine (among_any s _ 2 _ [1, 4] _ (rdI_lit2_at .i64 3 w 1 4 _ rfl) (by decide)).mono ?_; rintro e w1 ⟨rfl, rfl⟩
    go_wp2_with fail
    go_ret
    exact ⟨rfl, below_lit _ _⟩
  by_cases h2 : r = 2
  · subst h2
    clear h1
    rw [show mayI s 2 = inL s [3] from rfl]
    go_enter Tryd.func42, Tryd.ntmps42
    go_wp2_with fail
    refine (among_any s _ 1 _ [3] _ (rdI_lit1_at .i64 3 w 3 _ rfl) (by decide)).mono ?_; rintro e w1 ⟨rfl, rfl⟩
    go_wp2_with fail
    go_ret
    exact ⟨rfl, below_lit _ _⟩
  by_cases h3 : r = 3
  · subst h3
    clear h1
    clear h2
    rw [show mayI s 3 = (knownB s && !inL s [1, 4]) from rfl]
    cases hk : knownB s
    · go_enter Tryd.func42, Tryd.ntmps42
      go_wp2_with fail
      refine (known_any _ _).mono ?_; rintro e w1 ⟨rfl, rfl⟩
      rw [hk]
      go_wp2_with fail
      go_ret
      exact ⟨rfl, Below.refl _ _⟩
    · go_enter Tryd.func42, Tryd.ntmps42
      go_wp2_with fail
      refine (known_any _ _).mono ?_; rintro e w1 ⟨rfl, rfl⟩
      rw [hk]
      go_wp2_with fail
      refine (among_any s _ 2 _ [1, 4] _ (rdI_lit2_at .i64 3 w 1 4 _ rfl) (by decide)).mono ?_; rintro e w1 ⟨rfl, rfl⟩
      go_wp2_with fail
      go_ret
      exact ⟨by simp, below_lit _ _⟩
  by_cases h4 : r = 4
  · subst h4
    clear h1
    clear h2
    clear h3
    rw [show mayI s 4 = inL s [8, 10] from rfl]
    go_enter Tryd.func42, Tryd.ntmps42
    go_wp2_with fail
    refine (among_any s _ 2 _ [8, 10] _ (rdI_lit2_at .i64 3 w 8 10 _ rfl) (by decide)).mono ?_; rintro e w1 ⟨rfl, rfl⟩
    go_wp2_with fail
    go_ret
    exact ⟨rfl, below_lit _ _⟩
  by_cases h5 : r = 5
  · subst h5
    clear h1
    clear h2
    clear h3
    clear h4
    rw [show mayI s 5 = inL s [6] from rfl]
    go_enter Tryd.func42, Tryd.ntmps42
    go_wp2_with fail
    refine (among_any s _ 1 _ [6] _ (rdI_lit1_at .i64 3 w 6 _ rfl) (by decide)).mono ?_; rintro e w1 ⟨rfl, rfl⟩
    go_wp2_with fail
    go_ret
    exact ⟨rfl, below_lit _ _⟩
  by_cases h6 : r = 6
  · subst h6
    clear h1
    clear h2
    clear h3
    clear h4
    clear h5
    rw [show mayI s 6 = inL s [8, 9] from rfl]
    go_enter Tryd.func42, Tryd.ntmps42
    go_wp2_with fail
    refine (among_any s _ 2 _ [8, 9] _ (rdI_lit2_at .i64 3 w 8 9 _ rfl) (by decide)).mono ?_; rintro e w1 ⟨rfl, rfl⟩
    go_wp2_with fail
    go_ret
    exact ⟨rfl, below_lit _ _⟩
  by_cases h7 : r = 7
  · subst h7
    clear h1
    clear h2
    clear h3
    clear h4
    clear h5
    clear h6
    rw [show mayI s 7 = inL s [10] from rfl]
    go_enter Tryd.func42, Tryd.ntmps42
    go_wp2_with fail
    refine (among_any s _ 1 _ [10] _ (rdI_lit1_at .i64 3 w 10 _ rfl) (by decide)).mono ?_; rintro e w1 ⟨rfl, rfl⟩
    go_wp2_with fail
    go_ret
    exact ⟨rfl, below_lit _ _⟩
  by_cases h8 : r = 8
  · subst h8
    clear h1
    clear h2
    clear h3
    clear h4
    clear h5
    clear h6
    clear h7
    rw [show mayI s 8 = knownB s from Bool.and_true _]
    go_enter Tryd.func42, Tryd.ntmps42
    go_wp2_with fail
    refine (known_any _ _).mono ?_; rintro e w1 ⟨rfl, rfl⟩
    go_wp2_with fail
    go_ret
    exact ⟨rfl, Below.refl _ _⟩
  by_cases h9 : r = 9
  · subst h9
    clear h1
    clear h2
    clear h3
    clear h4
    clear h5
    clear h6
    clear h7
    clear h8
    rw [show mayI s 9 = knownB s from Bool.and_true _]
    go_enter Tryd.func42, Tryd.ntmps42
    go_wp2_with fail
    refine (known_any _ _).mono ?_; rintro e w1 ⟨rfl, rfl⟩
    go_wp2_with fail
    go_ret
    exact ⟨rfl, Below.refl _ _⟩
  by_cases h10 : r = 10
  · subst h10
    clear h1
    clear h2
    clear h3
    clear h4
    clear h5
    clear h6
    clear h7
    clear h8
    clear h9
    rw [show mayI s 10 = knownB s from Bool.and_true _]
    go_enter Tryd.func42, Tryd.ntmps42
    go_wp2_with fail
    refine (known_any _ _).mono ?_; rintro e w1 ⟨rfl, rfl⟩
    go_wp2_with fail
    go_ret
    exact ⟨rfl, Below.refl _ _⟩
  by_cases h11 : r = 11
  · subst h11
    clear h1
    clear h2
    clear h3
    clear h4
    clear h5
    clear h6
    clear h7
    clear h8
    clear h9
    clear h10
    rw [show mayI s 11 = knownB s from Bool.and_true _]
    go_enter Tryd.func42, Tryd.ntmps42
    go_wp2_with fail
    refine (known_any _ _).mono ?_; rintro e w1 ⟨rfl, rfl⟩
    go_wp2_with fail
    go_ret
    exact ⟨rfl, Below.refl _ _⟩
  have hm : mayI s r = false := by
    unfold mayI
    rw [if_neg h1, if_neg h2, if_neg h3, if_neg h4, if_neg h5, if_neg h6, if_neg h7, decide_eq_false (by omega), Bool.and_false]
  rw [hm]
  have e1 : (r == 1) = false := by simpa using h1
  have e2 : (r == 2) = false := by simpa using h2
  have e3 : (r == 3) = false := by simpa using h3
  have e4 : (r == 4) = false := by simpa using h4
  have e5 : (r == 5) = false := by simpa using h5
  have e6 : (r == 6) = false := by simpa using h6
  have e7 : (r == 7) = false := by simpa using h7
  have e8 : (r == 8) = false := by simpa using h8
  have e9 : (r == 9) = false := by simpa using h9
  have e10 : (r == 10) = false := by simpa using h10
  have e11 : (r == 11) = false := by simpa using h11
  clear hm h1 h2 h3 h4 h5 h6 h7 h8 h9 h10 h11
  go_enter Tryd.func42, Tryd.ntmps42
  go_wp2_with fail
  go_ret
  exact ⟨rfl, Below.refl _ _⟩

theorem may_close {a b : Bool} (h : a = true ↔ b = true) : a = b := Bool.eq_iff_iff.2 h
set_option maxRecDepth 100000 in
set_option maxHeartbeats 1000000 in
theorem rmay_any (s r : Int) (w : World) :
    Calls Tryd.prog 54 #[.int .i64 s, .int .i64 r] w fun e w' => e = .returned (.bool (mayI s r)) ∧ w = w' := by
  by_cases hk : s < 1 ∨ 10 < s
  · have hm : mayI s r = false := by
      have e : knownB s = false := decide_eq_false (by omega)
      have e2 : ∀ L : List Int, (∀ x ∈ L, 1 ≤ x ∧ x ≤ 10) → inL s L = false := fun L hL => by
        unfold inL
        rw [List.any_eq_false]
        intro x hx
        have := hL x hx
        simp; omega
      unfold mayI
      rw [e, e2 [1, 4] (by simp), e2 [3] (by simp), e2 [8, 10] (by simp), e2 [6] (by simp), e2 [8, 9] (by simp), e2 [10] (by simp)]
      simp
    rw [hm]
    clear hm
    rcases hk with hk | hk
    all_goals
      go_enter Tryd.func54, Tryd.ntmps54
      go_wp2_with fail
      all_goals go_ret
      all_goals exact ⟨rfl, rfl⟩
  · have hkb : knownB s = true := decide_eq_true (by omega)
    have k1 : 1 ≤ s := by omega
    have k2 : s ≤ 10 := by omega
    clear hk
    by_cases h1 : r = 1
    · subst h1
      clear hkb
      go_enter Tryd.func54, Tryd.ntmps54
      go_wp2_with fail
      all_goals go_ret
      all_goals exact ⟨congrArg (fun z => Ending.returned (.bool z)) (may_close (by unfold mayI inL; first | (simp; omega) | (simp only [beq_iff_eq, beq_eq_false_iff_ne, ne_eq] at *; simp; omega) | grind)), rfl⟩
    by_cases h2 : r = 2
    · subst h2
      clear h1
      clear hkb
      go_enter Tryd.func54, Tryd.ntmps54
      go_wp2_with fail
      all_goals go_ret
      all_goals exact ⟨congrArg (fun z => Ending.returned (.bool z)) (may_close (by unfold mayI inL; first | (simp; omega) | (simp only [beq_iff_eq, beq_eq_false_iff_ne, ne_eq] at *; simp; omega) | grind)), rfl⟩
    by_cases h3 : r = 3
    · subst h3
      clear h1
      clear h2
      have HK := Lib.hid hkb
      clear hkb
      go_enter Tryd.func54, Tryd.ntmps54
      go_wp2_with fail
      all_goals go_ret
      all_goals exact ⟨congrArg (fun z => Ending.returned (.bool z)) (may_close (by unfold mayI inL; rw [HK.out]; first | (simp; omega) | (simp only [beq_iff_eq, beq_eq_false_iff_ne, ne_eq] at *; simp; omega) | grind)), rfl⟩
    by_cases h4 : r = 4
    · subst h4
      clear h1
      clear h2
      clear h3
      clear hkb
      go_enter Tryd.func54, Tryd.ntmps54
      go_wp2_with fail
      all_goals go_ret
      all_goals exact ⟨congrArg (fun z => Ending.returned (.bool z)) (may_close (by unfold mayI inL; first | (simp; omega) | (simp only [beq_iff_eq, beq_eq_false_iff_ne, ne_eq] at *; simp; omega) | grind)), rfl⟩
    by_cases h5 : r = 5
    · subst h5
      clear h1
      clear h2
      clear h3
      clear h4
      clear hkb
      go_enter Tryd.func54, Tryd.ntmps54
      go_wp2_with fail
      all_goals go_ret
      all_goals exact ⟨congrArg (fun z => Ending.returned (.bool z)) (may_close (by unfold mayI inL; first | (simp; omega) | (simp only [beq_iff_eq, beq_eq_false_iff_ne, ne_eq] at *; simp; omega) | grind)), rfl⟩
    by_cases h6 : r = 6
    · subst h6
      clear h1
      clear h2
      clear h3
      clear h4
      clear h5
      clear hkb
      go_enter Tryd.func54, Tryd.ntmps54
      go_wp2_with fail
      all_goals go_ret
      all_goals exact ⟨congrArg (fun z => Ending.returned (.bool z)) (may_close (by unfold mayI inL; first | (simp; omega) | (simp only [beq_iff_eq, beq_eq_false_iff_ne, ne_eq] at *; simp; omega) | grind)), rfl⟩
    by_cases h7 : r = 7
    · subst h7
      clear h1
      clear h2
      clear h3
      clear h4
      clear h5
      clear h6
      clear hkb
      go_enter Tryd.func54, Tryd.ntmps54
      go_wp2_with fail
      all_goals go_ret
      all_goals exact ⟨congrArg (fun z => Ending.returned (.bool z)) (may_close (by unfold mayI inL; first | (simp; omega) | (simp only [beq_iff_eq, beq_eq_false_iff_ne, ne_eq] at *; simp; omega) | grind)), rfl⟩
    have hm : mayI s r = decide (8 ≤ r ∧ r ≤ 11) := by
      unfold mayI
      rw [if_neg h1, if_neg h2, if_neg h3, if_neg h4, if_neg h5, if_neg h6, if_neg h7, hkb, Bool.true_and]
    rw [hm]
    have e1 : (r == 1) = false := by simpa using h1
    have e2 : (r == 2) = false := by simpa using h2
    have e3 : (r == 3) = false := by simpa using h3
    have e4 : (r == 4) = false := by simpa using h4
    have e5 : (r == 5) = false := by simpa using h5
    have e6 : (r == 6) = false := by simpa using h6
    have e7 : (r == 7) = false := by simpa using h7
    clear hm hkb h1 h2 h3 h4 h5 h6 h7
    go_enter Tryd.func54, Tryd.ntmps54
    go_wp2_with fail
    all_goals go_ret
    all_goals exact ⟨congrArg (fun z => Ending.returned (.bool z)) (by simp <;> omega), rfl⟩
end Go.Proofs.YtkphompjahcjiaaDoor.Rules
