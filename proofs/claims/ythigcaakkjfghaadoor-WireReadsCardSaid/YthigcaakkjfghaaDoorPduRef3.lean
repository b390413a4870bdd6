/-
  The document's own words on units: may a unit be: the walk.
-/
import Derived.Test.YthigcaakkjfghaaDoorPduRAt
namespace Go.Proofs.YthigcaakkjfghaaDoor.Pdu
open Go.ChangeShapes Go.WideShapes Go.RowKit Own

set_option maxRecDepth 100000 in
set_option maxHeartbeats 8000000 in
theorem rcheck_any (kind sq n ps mr : Int) (a : Option Addr) (m cap : Nat) (L : List Int) (self : Bool) (data : ByteArray) (w : World) (hL : RdI .i64 w a m L) (hll : m ≤ 1000000)
    (hn : 0 ≤ n) (hps : 0 ≤ ps) (hmr : 0 ≤ mr) (hpos : ∀ z ∈ L, 0 ≤ z) :
    Calls Tryd.prog 13 #[.agg #[.int .i64 kind, .int .i64 sq, .int .i64 n, .int .i64 ps, .int .i64 mr, .slice a m cap, .bool self, .string data]] w fun e w' => e = .returned (.int .i64 (checkU ⟨kind, sq, n, ps, mr, L, self, data⟩)) ∧ Below w.heap.size w w' := by
  have H0 : Hid (RAt w (w.alloc (.cells (aggR kind sq n ps mr (.slice a m cap) self data) 24)) w.heap.size kind sq n ps mr a m cap L self data) := Lib.hid (RAt.new hL)
  clear hL
  by_cases hk : kind < 1
  · have hc : checkU ⟨kind, sq, n, ps, mr, L, self, data⟩ = 10 := if_pos (decide_eq_false (by dsimp only; omega))
    rw [hc]
    go_enter Tryd.func13, Tryd.ntmps13
    go_wp2_with fail
    go_ret
    exact ⟨rfl, H0.out.bel⟩
  by_cases hk2 : 15 < kind
  · have hc : checkU ⟨kind, sq, n, ps, mr, L, self, data⟩ = 10 := if_pos (decide_eq_false (by dsimp only; omega))
    rw [hc]
    go_enter Tryd.func13, Tryd.ntmps13
    go_wp2_with fail
    go_ret
    exact ⟨rfl, H0.out.bel⟩
  obtain ⟨k, rfl⟩ : ∃ k : Nat, kind = (k : Int) := ⟨kind.toNat, by omega⟩
  have hc6 : bad4 ⟨(k : Int), sq, n, ps, mr, L, self, data⟩ → checkU ⟨(k : Int), sq, n, ps, mr, L, self, data⟩ = 6 := fun hb => by
    unfold checkU
    rw [if_neg (by rw [show knownB (k : Int) = true from decide_eq_true ⟨by omega, by omega⟩]; simp), if_pos]
    have h8 := (form_facts k (by omega) (by omega)).2.2.2.2.2.2.2
    unfold bad4 at hb
    dsimp only at hb ⊢
    rw [Int.toNat_natCast, h8]
    exact hb
  have hce := check_eq ⟨(k : Int), sq, n, ps, mr, L, self, data⟩ k rfl (by omega) (by omega) hn hps hmr hpos
  obtain ⟨c, hc⟩ : ∃ c, checkU ⟨(k : Int), sq, n, ps, mr, L, self, data⟩ = c := ⟨_, rfl⟩
  rw [hc] at hc6 hce ⊢
  obtain ⟨mo, hmo⟩ : ∃ mo, mostI (k : Int) = mo := ⟨_, rfl⟩
  have hmo0 : 0 ≤ mo := by rw [← hmo]; exact pos_most _
  have hb4 : bad4 ⟨(k : Int), sq, n, ps, mr, L, self, data⟩ ↔ (0 < mo ∧ mo < (data.size : Int)) ∨ 128 < (L.length : Int) := by unfold bad4; dsimp only; rw [hmo]
  rw [hb4] at hc6 hce
  have HC6 := Lib.hid hc6
  have HCE := Lib.hid hce
  have HMO := Lib.hid hmo
  have HPOS := Lib.hid hpos
  clear hc6 hce hmo hb4 hc hpos
  have HM : Hid (m = L.length) := Lib.hid H0.out.rd.1
  go_enter Tryd.func13, Tryd.ntmps13
  go_wp2_with fail
  obtain ⟨k0, k1, k2, k3, k4, k5, k6, k7⟩ := H0.out.cells
  generalize w.alloc (.cells (aggR (k : Int) sq n ps mr (.slice a m cap) self data) 24) = W0 at *
  generalize hg : w.heap.size = g at *
  have HG := Lib.hid hg
  clear hg
  have hlt0 := H0.out.lt
  refine (most_any (k : Int) _).mono ?_; rintro e W1 ⟨rfl, hb1⟩
  have H1 := Lib.hid (H0.out.below hb1)
  clear hb1 H0 k0 k1 k2 k3 k4 k5 k6 k7 hlt0
  rw [HMO.out]
  obtain ⟨k0, k1, k2, k3, k4, k5, k6, k7⟩ := H1.out.cells
  by_cases hm128 : 128 < m
  · have hc6 : c = 6 := HC6.out (.inr (by have := HM.out; omega))
    subst hc6
    rcases (show (0 < mo ∧ mo < (data.size : Int)) ∨ (0 < mo ∧ ¬ mo < (data.size : Int)) ∨ mo = 0 by omega) with ⟨g1, g2⟩ | ⟨g1, g2⟩ | g1
    all_goals
      go_wp2_with fail
      go_ret
      exact ⟨rfl, by rw [HG.out]; exact H1.out.bel⟩
  by_cases hbig : 0 < mo ∧ mo < (data.size : Int)
  · have hc6 : c = 6 := HC6.out (.inl hbig)
    subst hc6
    obtain ⟨g1, g2⟩ := hbig
    go_wp2_with fail
    go_ret
    exact ⟨rfl, by rw [HG.out]; exact H1.out.bel⟩
  have hC := HCE.out (by have := HM.out; omega)
  have HC := Lib.hid hC
  clear hC HCE HC6
  have hcase : (0 < mo ∧ decide (mo < (data.size : Int)) = false ∧ (mo == 0) = false) ∨ (mo = 0) := by
    rcases (show 0 < mo ∨ mo = 0 by omega) with h | h
    · exact .inl ⟨h, decide_eq_false (fun h2 => hbig ⟨h, h2⟩), by simp; omega⟩
    · exact .inr h
  clear hbig
  have hm128' : decide (128 < (m : Int)) = false := decide_eq_false (by omega)
  go_upto_region 4 with (fail)
  go_cut [31] (fun s wx => s = .bool false ∧ wx = W1)
  case first =>
    as_aux_lemma =>
      rcases hcase with ⟨g1, g2, _⟩ | g1
      all_goals
        go_wp2_with fail
        go_meet
        exact ⟨rfl, rfl⟩
  case rest =>
  obtain ⟨rfl, rfl⟩ := hcut
  go_upto_region 6 with (fail)
  go_cut [66] (fun s wx => s = .bool (bad6 ⟨(k : Int), sq, n, ps, mr, L, self, data⟩) ∧ wx = wc)
  case first =>
    as_aux_lemma =>
      have hb6 : bad6 ⟨(k : Int), sq, n, ps, mr, L, self, data⟩ = ((mo == 0 && !(data.size == 0)) || !lowB n || !lowB ps || !lowB mr || decide (sq < 0) || decide (255 < sq)) := by unfold bad6; dsimp only; rw [HMO.out]
      have HB6 := Lib.hid hb6
      clear hb6
      have hd : (data.toList.isEmpty = true ∧ (data.size == 0) = true) ∨ (data.toList.isEmpty = false ∧ (data.size == 0) = false) := by
        by_cases h : data.size = 0
        · exact .inl ⟨empty_yes h, by simpa using h⟩
        · exact .inr ⟨isEmpty_no h, by simpa using h⟩
      have hfirst : ((mo == 0) = true ∧ data.toList.isEmpty = false ∧ (data.size == 0) = false) ∨ ((mo == 0) = false) ∨ ((mo == 0) = true ∧ data.toList.isEmpty = true ∧ (data.size == 0) = true) := by
        rcases hcase with ⟨_, _, h⟩ | h
        · exact .inr (.inl h)
        · rcases hd with hd | hd
          · exact .inr (.inr ⟨by simpa using h, hd⟩)
          · exact .inl ⟨by simpa using h, hd⟩
      clear hd hcase hmo0
      rcases hfirst with ⟨e1, e2, e3⟩ | hrest
      · go_wp2_with fail
        go_meet
        exact ⟨congrArg Value.bool (by rw [HB6.out, e1, e3]; rfl), rfl⟩
      · have HF1 : Hid ((mo == 0 && !(data.size == 0)) = false) := Lib.hid (by rcases hrest with h | ⟨h, _, h2⟩ <;> (try rw [h]) <;> (try rw [h2]) <;> rfl)
        cases l1 : lowB n with
        | false =>
          rcases hrest with e1 | ⟨e1, e2, e3⟩
          all_goals
            go_wp2_with (refine (rlow_any _ _).mono ?_; rintro e w' ⟨rfl, rfl⟩)
            go_meet
            exact ⟨congrArg Value.bool (by rw [HB6.out, HF1.out, l1]; rfl), rfl⟩
        | true =>
          cases l2 : lowB ps with
          | false =>
            rcases hrest with e1 | ⟨e1, e2, e3⟩
            all_goals
              go_wp2_with (refine (rlow_any _ _).mono ?_; rintro e w' ⟨rfl, rfl⟩)
              go_meet
              exact ⟨congrArg Value.bool (by rw [HB6.out, HF1.out, l1, l2]; rfl), rfl⟩
          | true =>
            cases l3 : lowB mr with
            | false =>
              rcases hrest with e1 | ⟨e1, e2, e3⟩
              all_goals
                go_wp2_with (refine (rlow_any _ _).mono ?_; rintro e w' ⟨rfl, rfl⟩)
                go_meet
                exact ⟨congrArg Value.bool (by rw [HB6.out, HF1.out, l1, l2, l3]; rfl), rfl⟩
            | true =>
              rcases (show sq < 0 ∨ 255 < sq ∨ (0 ≤ sq ∧ sq ≤ 255) by omega) with s1 | s1 | ⟨s1, s2⟩
              · have HS : Hid (decide (sq < 0) = true) := Lib.hid (decide_eq_true s1)
                rcases hrest with e1 | ⟨e1, e2, e3⟩
                all_goals
                  go_wp2_with (refine (rlow_any _ _).mono ?_; rintro e w' ⟨rfl, rfl⟩)
                  go_meet
                  exact ⟨congrArg Value.bool (by rw [HB6.out, HF1.out, l1, l2, l3, HS.out]; rfl), rfl⟩
              · have HS : Hid (decide (sq < 0) = false ∧ decide (255 < sq) = true) := Lib.hid ⟨decide_eq_false (by omega), decide_eq_true s1⟩
                rcases hrest with e1 | ⟨e1, e2, e3⟩
                all_goals
                  go_wp2_with (refine (rlow_any _ _).mono ?_; rintro e w' ⟨rfl, rfl⟩)
                  go_meet
                  exact ⟨congrArg Value.bool (by rw [HB6.out, HF1.out, l1, l2, l3, HS.out.1, HS.out.2]; rfl), rfl⟩
              · have HS : Hid (decide (sq < 0) = false ∧ decide (255 < sq) = false) := Lib.hid ⟨decide_eq_false (by omega), decide_eq_false (by omega)⟩
                rcases hrest with e1 | ⟨e1, e2, e3⟩
                all_goals
                  go_wp2_with (refine (rlow_any _ _).mono ?_; rintro e w' ⟨rfl, rfl⟩)
                  go_meet
                  exact ⟨congrArg Value.bool (by rw [HB6.out, HF1.out, l1, l2, l3, HS.out.1, HS.out.2]; rfl), rfl⟩
  case rest =>
  obtain ⟨rfl, rfl⟩ := hcut
  clear hcase hmo0
  cases hb6 : bad6 ⟨(k : Int), sq, n, ps, mr, L, self, data⟩ with
  | true =>
    have hc1 : c = 1 := by rw [HC.out, hb6]; rfl
    subst hc1
    go_wp2_with fail
    go_ret
    exact ⟨rfl, by rw [HG.out]; exact H1.out.bel⟩
  | false =>
  have hC2 := HC.out
  rw [hb6, if_neg (by simp)] at hC2
  have HC2 := Lib.hid hC2
  clear hC2 HC hb6
  go_upto_region 8 with (fail)
  go_cut [95] (fun s wx => s = .bool (bad8 ⟨(k : Int), sq, n, ps, mr, L, self, data⟩) ∧ Hid (RAt w wx g (k : Int) sq n ps mr a m cap L self data))
  case first =>
    as_aux_lemma =>
      have hb8 : bad8 ⟨(k : Int), sq, n, ps, mr, L, self, data⟩ = ((!hasSQ (k : Int) && sq != 0) || (!hasN (k : Int) && n != 0) || ((k : Int) != 3 && self)) := rfl
      have HB8 := Lib.hid hb8
      clear hb8
      obtain ⟨A, hA⟩ : ∃ A, hasSQ (k : Int) = A := ⟨_, rfl⟩
      obtain ⟨B, hB⟩ : ∃ B, hasN (k : Int) = B := ⟨_, rfl⟩
      have hb8 := HB8.out
      rw [hA, hB] at hb8
      have HB8 := Lib.hid hb8
      have HA := Lib.hid hA
      have HBN := Lib.hid hB
      clear hb8 hA hB
      have h1 : (A = false ∧ (sq == 0) = false) ∨ (A = true ∨ (A = false ∧ (sq == 0) = true)) := by
        cases A
        · cases h : (sq == 0)
          · exact .inl ⟨rfl, rfl⟩
          · exact .inr (.inr ⟨rfl, rfl⟩)
        · exact .inr (.inl rfl)
      have h2 : (B = false ∧ (n == 0) = false) ∨ (B = true ∨ (B = false ∧ (n == 0) = true)) := by
        cases B
        · cases h : (n == 0)
          · exact .inl ⟨rfl, rfl⟩
          · exact .inr (.inr ⟨rfl, rfl⟩)
        · exact .inr (.inl rfl)
      have h3 : ((k : Int) == 3) = true ∨ (((k : Int) == 3) = false ∧ self = true) ∨ (((k : Int) == 3) = false ∧ self = false) := by
        cases h : ((k : Int) == 3)
        · cases self
          · exact .inr (.inr ⟨rfl, rfl⟩)
          · exact .inr (.inl ⟨rfl, rfl⟩)
        · exact .inl rfl
      have hbne : ∀ x y : Int, (x != y) = !(x == y) := fun _ _ => rfl
      have HV : Hid (bad8 ⟨(k : Int), sq, n, ps, mr, L, self, data⟩ = ((!A && !(sq == 0)) || (!B && !(n == 0)) || (!((k : Int) == 3) && self))) := Lib.hid HB8.out
      clear hbne
      rcases h1 with ⟨rfl, e1⟩ | h1
      · go_wp2_with fail
        refine (hasSQ_any (k : Int) _).mono ?_; rintro e W2 ⟨rfl, hb2⟩
        rw [HA.out]
        have H2 := Lib.hid (H1.out.below hb2)
        obtain ⟨k0, k1, k2, k3, k4, k5, k6, k7⟩ := H2.out.cells
        clear hb2
        have e1' : (sq != 0) = true := by rw [bne, e1]; rfl
        go_wp2_with fail
        go_meet
        exact ⟨congrArg Value.bool (by rw [HV.out, e1]; rfl), H2⟩
      · rcases h2 with ⟨rfl, e2⟩ | h2
        · rcases h1 with rfl | ⟨rfl, e1⟩
          all_goals
            go_wp2_with fail
            refine (hasSQ_any (k : Int) _).mono ?_; rintro e W2 ⟨rfl, hb2⟩
            rw [HA.out]
            have H2 := Lib.hid (H1.out.below hb2)
            obtain ⟨k0, k1, k2, k3, k4, k5, k6, k7⟩ := H2.out.cells
            clear hb2
            have e2' : (n != 0) = true := by rw [bne, e2]; rfl
            try have e1' : (sq != 0) = false := by rw [bne, e1]; rfl
            go_wp2_with fail
            refine (hasN_any (k : Int) _).mono ?_; rintro e W3 ⟨rfl, hb3⟩
            rw [HBN.out]
            have H3 := Lib.hid (H2.out.below hb3)
            obtain ⟨q0, q1, q2, q3, q4, q5, q6, q7⟩ := H3.out.cells
            clear hb3
            go_wp2_with fail
            go_meet
            exact ⟨congrArg Value.bool (by rw [HV.out, e2]; first | rfl | (rw [e1]; rfl)), H3⟩
        · rcases h1 with rfl | ⟨rfl, e1⟩ <;> rcases h2 with rfl | ⟨rfl, e2⟩ <;> rcases h3 with e3 | ⟨e3, rfl⟩ | ⟨e3, rfl⟩
          all_goals
            go_wp2_with fail
            refine (hasSQ_any (k : Int) _).mono ?_; rintro e W2 ⟨rfl, hb2⟩
            rw [HA.out]
            have H2 := Lib.hid (H1.out.below hb2)
            obtain ⟨k0, k1, k2, k3, k4, k5, k6, k7⟩ := H2.out.cells
            clear hb2
            try have e2' : (n != 0) = false := by rw [bne, e2]; rfl
            try have e1' : (sq != 0) = false := by rw [bne, e1]; rfl
            first | (have e3' : ((k : Int) != 3) = false := by rw [bne, e3]; rfl) | (have e3' : ((k : Int) != 3) = true := by rw [bne, e3]; rfl)
            go_wp2_with fail
            refine (hasN_any (k : Int) _).mono ?_; rintro e W3 ⟨rfl, hb3⟩
            rw [HBN.out]
            have H3 := Lib.hid (H2.out.below hb3)
            obtain ⟨q0, q1, q2, q3, q4, q5, q6, q7⟩ := H3.out.cells
            clear hb3
            go_wp2_with fail
            go_meet
            exact ⟨congrArg Value.bool (by rw [HV.out]; (try rw [e1]); (try rw [e2]); rw [e3]; first | rfl | (cases self <;> rfl) | simp), H3⟩
  case rest =>
  obtain ⟨rfl, H2⟩ := hcut
  clear k0 k1 k2 k3 k4 k5 k6 k7 H1
  obtain ⟨k0, k1, k2, k3, k4, k5, k6, k7⟩ := H2.out.cells
  cases hb8 : bad8 ⟨(k : Int), sq, n, ps, mr, L, self, data⟩ with
  | true =>
    have hc1 : c = 1 := by rw [HC2.out, hb8]; rfl
    subst hc1
    go_wp2_with fail
    go_ret
    exact ⟨rfl, by rw [HG.out]; exact H2.out.bel⟩
  | false =>
  have hC3 := HC2.out
  rw [hb8, if_neg (by simp)] at hC3
  have HC3 := Lib.hid hC3
  clear hC3 HC2 hb8
  go_upto_region 10 with (fail)
  go_cut [117] (fun s wx => s = .bool (bad10 ⟨(k : Int), sq, n, ps, mr, L, self, data⟩) ∧ Hid (RAt w wx g (k : Int) sq n ps mr a m cap L self data))
  case first =>
    as_aux_lemma =>
      have hb10 : bad10 ⟨(k : Int), sq, n, ps, mr, L, self, data⟩ = ((!inB (k : Int) [10, 11] && !(ps == 0)) || (!inB (k : Int) [11, 12] && !(mr == 0))) := rfl
      obtain ⟨A, hA⟩ : ∃ A, inB (k : Int) [10, 11] = A := ⟨_, rfl⟩
      obtain ⟨B, hB⟩ : ∃ B, inB (k : Int) [11, 12] = B := ⟨_, rfl⟩
      rw [hA, hB] at hb10
      have HV := Lib.hid hb10
      have HA := Lib.hid hA
      have HBN := Lib.hid hB
      clear hb10 hA hB
      have h1 : (A = false ∧ (ps == 0) = false) ∨ (A = true ∨ (A = false ∧ (ps == 0) = true)) := by
        cases A
        · cases h : (ps == 0)
          · exact .inl ⟨rfl, rfl⟩
          · exact .inr (.inr ⟨rfl, rfl⟩)
        · exact .inr (.inl rfl)
      have h2 : B = true ∨ (B = false ∧ (mr == 0) = true) ∨ (B = false ∧ (mr == 0) = false) := by
        cases B
        · cases h : (mr == 0)
          · exact .inr (.inr ⟨rfl, rfl⟩)
          · exact .inr (.inl ⟨rfl, rfl⟩)
        · exact .inl rfl
      have HX := Lib.hid (H2.out.below ((Below.refl _ _).alloc (Nat.le_refl _) (.cells #[.int .i64 10, .int .i64 11] 3)))
      obtain ⟨q0, q1, q2, q3, q4, q5, q6, q7⟩ := HX.out.cells
      rcases h1 with ⟨rfl, e1⟩ | h1
      · have e1' : (ps != 0) = true := by rw [bne, e1]; rfl
        go_wp2_with fail
        refine (in_any (k : Int) _ 2 2 [10, 11] _ (rdI_lit .i64 _ _ _ _ 2 rfl rfl) (by decide)).mono ?_; rintro e W2 ⟨rfl, rfl⟩
        rw [HA.out]
        go_wp2_with fail
        go_meet
        exact ⟨congrArg Value.bool (by rw [HV.out, e1]; rfl), HX⟩
      · have HY := Lib.hid (HX.out.below ((Below.refl _ _).alloc (Nat.le_refl _) (.cells #[.int .i64 11, .int .i64 12] 3)))
        obtain ⟨r0, r1, r2, r3, r4, r5, r6, r7⟩ := HY.out.cells
        rcases h1 with rfl | ⟨rfl, e1⟩ <;> rcases h2 with rfl | ⟨rfl, e2⟩ | ⟨rfl, e2⟩
        all_goals
          try have e1' : (ps != 0) = false := by rw [bne, e1]; rfl
          try first | (have e2' : (mr != 0) = false := by rw [bne, e2]; rfl) | (have e2' : (mr != 0) = true := by rw [bne, e2]; rfl)
          go_wp2_with fail
          refine (in_any (k : Int) _ 2 2 [10, 11] _ (rdI_lit .i64 _ _ _ _ 2 rfl rfl) (by decide)).mono ?_; rintro e W2 ⟨rfl, rfl⟩
          rw [HA.out]
          go_wp2_with fail
          refine (in_any (k : Int) _ 2 2 [11, 12] _ (by have := rdI_lit .i64 3 (wc.alloc (.cells #[.int .i64 10, .int .i64 11] 3)) [11, 12] _ 2 rfl rfl; simpa using this) (by decide)).mono ?_; rintro e W2 ⟨rfl, rfl⟩
          rw [HBN.out]
          go_wp2_with fail
          go_meet
          exact ⟨congrArg Value.bool (by rw [HV.out]; (try rw [e1]); (try rw [e2]); first | rfl | simp), HY⟩
  case rest =>
  obtain ⟨rfl, H3⟩ := hcut
  clear k0 k1 k2 k3 k4 k5 k6 k7 H2
  obtain ⟨k0, k1, k2, k3, k4, k5, k6, k7⟩ := H3.out.cells
  cases hb10 : bad10 ⟨(k : Int), sq, n, ps, mr, L, self, data⟩ with
  | true =>
    have hc1 : c = 1 := by rw [HC3.out, hb10]; rfl
    subst hc1
    go_wp2_with fail
    go_ret
    exact ⟨rfl, by rw [HG.out]; exact H3.out.bel⟩
  | false =>
  have hC4 := HC3.out
  rw [hb10, if_neg (by simp)] at hC4
  have HC4 := Lib.hid hC4
  clear hC4 HC3 hb10
  go_upto_region 12 with (fail)
  go_cut [154] (fun s wx => s = .bool (bad12 ⟨(k : Int), sq, n, ps, mr, L, self, data⟩) ∧ wx = wc)
  case first =>
    as_aux_lemma =>
      have hb12 : bad12 ⟨(k : Int), sq, n, ps, mr, L, self, data⟩ = (((k : Int) == 11 && m % 2 != 0) || ((k : Int) == 12 && m != 2) || ((k : Int) != 11 && (k : Int) != 12 && decide (0 < m))) := by unfold bad12; dsimp only; rw [← HM.out]
      have HV := Lib.hid hb12
      clear hb12
      rcases (show k = 11 ∨ k = 12 ∨ (k ≠ 11 ∧ k ≠ 12) by omega) with hk11 | hk12 | ⟨hk11, hk12⟩
      · subst hk11
        rcases (show m % 2 = 0 ∨ m % 2 ≠ 0 by omega) with p | p
        · have p2 : ((m : Int) % 2 != 0) = false := by rw [bne_eq_false_iff_eq]; omega
          have HP : Hid ((m % 2 != 0) = false) := Lib.hid (by rw [p]; rfl)
          clear p
          go_wp2_with fail
          go_meet
          exact ⟨congrArg Value.bool (by rw [HV.out, HP.out]; rfl), rfl⟩
        · have p2 : ((m : Int) % 2 != 0) = true := by rw [bne_iff_ne]; omega
          have HP : Hid ((m % 2 != 0) = true) := Lib.hid (by rw [bne_iff_ne]; exact p)
          clear p
          go_wp2_with fail
          go_meet
          exact ⟨congrArg Value.bool (by rw [HV.out, HP.out]; rfl), rfl⟩
      · subst hk12
        rcases (show m = 2 ∨ m ≠ 2 by omega) with p | p
        · have p2 : ((m : Int) != 2) = false := by rw [bne_eq_false_iff_eq]; omega
          have HP : Hid ((m != 2) = false) := Lib.hid (by rw [p]; rfl)
          clear p
          go_wp2_with fail
          go_meet
          exact ⟨congrArg Value.bool (by rw [HV.out, HP.out]; rfl), rfl⟩
        · have p2 : ((m : Int) != 2) = true := by rw [bne_iff_ne]; omega
          have HP : Hid ((m != 2) = true) := Lib.hid (by rw [bne_iff_ne]; exact p)
          clear p
          go_wp2_with fail
          go_meet
          exact ⟨congrArg Value.bool (by rw [HV.out, HP.out]; rfl), rfl⟩
      · have e1 : ((k : Int) == 11) = false := by rw [beq_eq_false_iff_ne]; omega
        have e2 : ((k : Int) == 12) = false := by rw [beq_eq_false_iff_ne]; omega
        have e1' : ((k : Int) != 11) = true := by rw [bne_iff_ne]; omega
        have e2' : ((k : Int) != 12) = true := by rw [bne_iff_ne]; omega
        have HE : Hid (((k : Int) == 11) = false ∧ ((k : Int) == 12) = false ∧ ((k : Int) != 11) = true ∧ ((k : Int) != 12) = true) := Lib.hid ⟨e1, e2, e1', e2'⟩
        clear hk11 hk12
        rcases (show 0 < m ∨ m = 0 by omega) with p | p
        · have p2 : decide ((0 : Int) < (m : Int)) = true := decide_eq_true (by omega)
          have HP : Hid (decide (0 < m) = true) := Lib.hid (decide_eq_true p)
          go_wp2_with fail
          go_meet
          exact ⟨congrArg Value.bool (by rw [HV.out, HP.out, HE.out.1, HE.out.2.1, HE.out.2.2.1, HE.out.2.2.2]; rfl), rfl⟩
        · have p2 : decide ((0 : Int) < (m : Int)) = false := decide_eq_false (by omega)
          have HP : Hid (decide (0 < m) = false) := Lib.hid (decide_eq_false (by omega))
          clear p
          go_wp2_with fail
          go_meet
          exact ⟨congrArg Value.bool (by rw [HV.out, HP.out, HE.out.1, HE.out.2.1, HE.out.2.2.1, HE.out.2.2.2]; rfl), rfl⟩
  case rest =>
  obtain ⟨rfl, rfl⟩ := hcut
  cases hb12 : bad12 ⟨(k : Int), sq, n, ps, mr, L, self, data⟩ with
  | true =>
    have hc1 : c = 1 := by rw [HC4.out, hb12]; rfl
    subst hc1
    go_wp2_with fail
    go_ret
    exact ⟨rfl, by rw [HG.out]; exact H3.out.bel⟩
  | false =>
  have hC5 := HC4.out
  rw [hb12, if_neg (by simp)] at hC5
  have HC5 := Lib.hid hC5
  clear hC5 HC4 hb12
  go_wp2_with fail
  go_loop [158] (fun i => ∃ j : Nat, j ≤ m ∧ i = .int .i64 j ∧ Hid (((L.take j).any fun x => !lowB x) = false)) (fun i => m - (intOf i).toNat)
  case atStart => exact ⟨0, Nat.zero_le _, rfl, Lib.hid rfl⟩
  case round =>
    obtain ⟨j, hj, rfl, hno⟩ := hrel
    by_cases hlt : j < m
    · obtain ⟨b, off, rfl, _, hcell⟩ := H3.out.rd.at_ hlt
      have hl : j < L.length := by have := HM.out; omega
      have hst : ((L.take (j + 1)).any fun x => !lowB x) = !lowB (L.getD j 0) := by
        rw [any_take L (fun x => !lowB x) j hl, hno.out, Bool.false_or]
      obtain ⟨y, hy⟩ : ∃ y, L.getD j 0 = y := ⟨_, rfl⟩
      rw [hy] at hcell hst
      have HST := Lib.hid hst
      clear hst hy
      cases hlo : lowB y with
      | false =>
        have hc1 : c = 1 := by
          rw [HC5.out, if_pos]
          have h1 : ((L.take (j + 1)).any fun x => !lowB x) = true := by rw [HST.out, hlo]; rfl
          rw [List.any_eq_true] at h1 ⊢
          obtain ⟨z, hz, he⟩ := h1
          exact ⟨z, List.mem_of_mem_take hz, he⟩
        subst hc1
        go_wp2_with fail
        refine (rlow_any _ _).mono ?_; rintro e W2 ⟨rfl, rfl⟩
        rw [hlo]
        go_wp2_with fail
        go_ret
        exact ⟨rfl, by rw [HG.out]; exact H3.out.bel⟩
      | true =>
        go_wp2_with fail
        refine (rlow_any _ _).mono ?_; rintro e W2 ⟨rfl, rfl⟩
        rw [hlo]
        go_wp2_with fail
        go_round
        case rel => exact ⟨j + 1, by omega, by go_num, Lib.hid (by rw [HST.out, hlo]; rfl)⟩
        case measure => simp [intOf]; omega
    · have hc0 : c = 0 := by
        rw [HC5.out, if_neg]
        have := hno.out
        rw [List.take_of_length_le (by have := HM.out; omega)] at this
        rw [this]; simp
      subst hc0
      go_wp2_with fail
      go_ret
      exact ⟨rfl, by rw [HG.out]; exact H3.out.bel⟩
end Go.Proofs.YthigcaakkjfghaaDoor.Pdu
