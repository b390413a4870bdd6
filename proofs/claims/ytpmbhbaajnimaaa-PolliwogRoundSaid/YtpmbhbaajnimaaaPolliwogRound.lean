/-
  PolliwogRound is proved: a set of how far numbers are is moved round with its base; for every input the law returns true.
-/
import Derived.Test.YtpmbhbaajnimaaaBase
import Derived.Test.YtpmbhbaajnimaaaSpanAdd
import Derived.Test.YtpmbhbaajnimaaaSpanSame
import Derived.Test.YtpmbhbaajnimaaaSeqCalls
import Derived.Test.YtpmbhbaajnimaaaBase4
import Derived.Deep.DeepCutAuto
namespace Go.Proofs.Ytpmbhbaajnimaaa.polliwogRound
open Go.ChangeShapes Go.WideShapes Go.ChangeAt Go.RowKit
set_option linter.unusedVariables false      -- a walk need not use every bound of an argument

open SpanMath View SpanCalls

theorem rd_pairs {W : World} {v : Value} {D : List (Int × Int)} (h : Base.Pairs W v D) : ∃ a n cap, v = .slice a n cap ∧ Fit a n cap ∧ RdS W a n D := by
  obtain ⟨a, n, cap, rfl, h1, h2, h3, h4, _, h6⟩ := h
  exact ⟨a, n, cap, rfl, ⟨h2, h3, h4⟩, h1, h6⟩
def Bd (E : List Sp) : Prop := ∀ x ∈ E, 0 ≤ x.1 ∧ x.1 ≤ 200 ∧ 0 ≤ x.2 ∧ x.2 ≤ 200
theorem bd_nil : Bd [] := fun x hx => by cases hx
theorem bd_app {E : List Sp} {f t : Int} (h : Bd E) (h1 : 0 ≤ f) (h2 : f ≤ 200) (h3 : 0 ≤ t) (h4 : t ≤ 200) : Bd (E ++ [(f, t)]) := fun x hx => by
  rcases List.mem_append.1 hx with hx | hx
  · exact h x hx
  · rw [List.mem_singleton] at hx; subst hx; exact ⟨h1, h2, h3, h4⟩
theorem set_of (E : List Sp) (h : Bd E) : ∃ S, IsSet S (inSp E) ∧ Small S ∧ ∀ z ∈ nums S, 0 ≤ z ∧ z < 200 := by
  obtain ⟨S, hS⟩ := exists_set E
  have hb : ∀ z ∈ nums S, 0 ≤ z ∧ z < 200 := fun z hz => by
    obtain ⟨x, hx, h1, h2⟩ := (hS.2 z).1 hz
    have := h x hx
    omega
  exact ⟨S, hS, small_of hS.1 fun z hz => by have := hb z hz; omega, hb⟩
theorem ones (L : List Int) (hb : ∀ z ∈ L, 0 ≤ z ∧ z < 200) : ∃ T, IsSet T (· ∈ L) ∧ Small T := by
  obtain ⟨T, hT⟩ := exists_set (L.map fun z => (z, z + 1))
  have h2 : IsSet T (· ∈ L) := ⟨hT.1, fun n => by
    rw [hT.2]
    unfold inSp
    constructor
    · rintro ⟨x, hx, h1, h2⟩
      obtain ⟨z, hz, rfl⟩ := List.mem_map.1 hx
      dsimp only at h1 h2
      obtain rfl : n = z := by omega
      exact hz
    · intro h
      exact ⟨(n, n + 1), List.mem_map.2 ⟨n, h, rfl⟩, by dsimp only; omega, by dsimp only; omega⟩⟩
  exact ⟨T, h2, small_of h2.1 fun z hz => by have := hb z ((h2.2 z).1 hz); omega⟩
theorem set_next {L : List Int} {T T' : List Sp} {j : Nat} {z : Int} (hj : j < L.length) (hz : L.getD j 0 = z) (hT : IsSet T (· ∈ L.take j)) (hT' : IsSet T' (· ∈ L.take (j + 1))) : IsSet T' fun x => x ∈ nums T ∨ (z ≤ x ∧ x < z + 1) :=
  ⟨hT'.1, fun x => by
    rw [hT'.2]
    show x ∈ L.take (j + 1) ↔ x ∈ nums T ∨ (z ≤ x ∧ x < z + 1)
    rw [hT.2, View.take_succ' L 0 j hj, hz, List.mem_append, List.mem_singleton]
    constructor
    · rintro (h | h)
      · exact .inl h
      · exact .inr (by omega)
    · rintro (h | h)
      · exact .inl h
      · exact .inr (by omega)⟩

set_option maxRecDepth 100000 in
set_option maxHeartbeats 4000000 in
theorem walk (w : World) (a0 : Int) (w0 : (Lit.int .u32 a0).wf = true) (v1 : Value) (D : List (Int × Int)) (w1 : Base.Pairs w v1 D) :
    Calls Try.prog 3 #[.int .u32 a0, v1] w fun e w' => e = .returned (.bool true) ∧ Below w.heap.size w w' := by
  obtain ⟨x1, x2⟩ := bounds_u32 w0
  obtain ⟨a, n, cap, rfl, hf, hr⟩ := rd_pairs w1
  have HR := Lib.hid hr
  have hn : n ≤ 9223372036854775807 := by have h1 := hf.1; have h2 := hf.2.1; unfold maxLen at h2; omega
  clear w0 w1 hr hf
  go_enter Try.func3, Try.ntmps3
  go_wp2_with fail
  go_loopw [5, 6] (fun s5 s6 wr => ∃ (i : Nat) (E : List Sp), i ≤ 8 ∧ i ≤ n ∧ s6 = .int .i64 (i : Int) ∧ Hid (OwnS wr w.heap.size s5 E) ∧ Hid (Below w.heap.size w wr) ∧ Hid (Bd E) ∧ Hid (E.length = i)) (fun _ s6 _ => 8 - (intOf s6).toNat)
  case atStart => exact ⟨0, [], by omega, by omega, rfl, Lib.hid OwnS.nil, Lib.hid (Below.refl _ _), Lib.hid bd_nil, Lib.hid rfl⟩
  case round =>
    obtain ⟨i, E, hi8, hin, rfl, ho, hb, hbd, hel⟩ := hrel
    by_cases hgo : i < n ∧ i < 8
    · obtain ⟨hg1, hg2⟩ := hgo
      have hd1 : decide (i < n) = true := decide_eq_true hg1
      have hd2 : decide ((i : Int) < 8) = true := decide_eq_true (by omega)
      obtain ⟨b, off, rfl, _, c0, c1⟩ := (HR.out.below hb.out).at_ hg1
      have hiI : (i : Int) < (n : Int) := by omega
      obtain ⟨y, hy⟩ : ∃ y, D.getD i (0, 0) = y := ⟨_, rfl⟩
      rw [hy] at c0 c1
      clear hy
      obtain ⟨y1, y2⟩ := y
      dsimp only at c0 c1
      obtain ⟨W3, hW3⟩ : ∃ W3, W3 = wr := ⟨_, rfl⟩
      rw [← hW3] at ho hb c0 c1 ⊢
      clear hW3
      go_upto_region 5 with (fail)
      go_cut [7] (fun s7 wx => ∃ f : Int, s7 = .int .i64 f ∧ 0 ≤ f ∧ f ≤ 200 ∧ wx = W3)
      case first =>
        go_wp2_with fail
        all_goals go_meet
        all_goals exact ⟨_, rfl, by omega, by omega, rfl⟩
      case rest =>
      obtain ⟨f, rfl, hf0, hf1, rfl⟩ := hcut
      go_wp2_with (at_builtin; refine wpList_appS rfl (.tmp 32) (.tmp 43) 23 rfl Try.underlying23 w.heap.size _ _ rfl (OwnS.below ho.out ((Below.refl _ _).alloc (Nat.le_refl _) _)) _ 1 1 [(_, _)] rfl (rdS_lit1 _ _ _) (fun h => by cases h) (by have := hel.out; simp; omega) (by have := hb.out.size; simp; omega) ?_)
      intro v' w1 hown' hgrow
      have ho1 : OwnS (wc.alloc (.cells #[.int .i64 f, .int .i64 (max f (min y2 200))] 25)) w.heap.size u5 E := OwnS.below ho.out ((Below.refl _ _).alloc (Nat.le_refl _) _)
      have HB1 : Hid (Below w.heap.size w w1) := Lib.hid ((hb.out.alloc hb.out.size _).grown hgrow (by have := hb.out.size; simp; omega) (fun j hj => (ho1.lt j hj).1))
      have HO1 := Lib.hid hown'
      have HBD1 := Lib.hid (bd_app (f := f) (t := max f (min y2 200)) hbd.out hf0 hf1 (by omega) (by omega))
      clear ho1 hown' hgrow hb ho c0 c1
      go_wp2_with fail
      go_roundw
      case rel => exact ⟨i + 1, _, by omega, by omega, by go_num, HO1, HB1, HBD1, Lib.hid (by rw [List.length_append, hel.out]; rfl)⟩
      case measure => simp [intOf]; omega
    · have hcase : decide (i < n) = false ∨ (decide (i < n) = true ∧ decide ((i : Int) < 8) = false) := by
        by_cases h1 : i < n
        · exact .inr ⟨decide_eq_true h1, decide_eq_false (by omega)⟩
        · exact .inl (decide_eq_false h1)
      clear hgo
      obtain ⟨S, hS, hsm, hnb⟩ := set_of E hbd.out
      obtain ⟨ae, ne, ce, rfl, hfe, hre⟩ := ho.out.form
      have hne : ne ≤ 8 := by rw [hre.1, hel.out]; exact hi8
      have HS := Lib.hid hS
      have HSM := Lib.hid hsm
      have HNB := Lib.hid hnb
      have HFE := Lib.hid hfe
      have HRE := Lib.hid hre
      have HNEAR : Hid (Near E) := Lib.hid (near_of (by have := hel.out; omega) (fun x hx => by have := hbd.out x hx; omega))
      have hnl : (nums S).length ≤ 800 := small_len hsm hS.1
      obtain ⟨N, hN⟩ : ∃ N, nums S = N := ⟨_, rfl⟩
      rw [hN] at hnl HNB
      have HN := Lib.hid hN
      obtain ⟨W3, hW3⟩ : ∃ W3, W3 = wr := ⟨_, rfl⟩
      rw [← hW3] at HRE hb ⊢
      clear hS hsm hnb hfe hre hN hW3 ho
      rcases hcase with hd1 | ⟨hd1, hd2⟩
      all_goals
        go_wp2_with fail
        refine (of_any ae ne ce E S _ HRE.out HFE.out HNEAR.out HS.out).mono ?_; rintro e W4 ⟨v4, rfl, ho4, hb4⟩
        obtain ⟨aS, ns, cs, rfl, hfs, hrs⟩ := ho4.form
        have HB4 := Lib.hid (hb.out.trans (hb4.mono hb.out.size))
        have HFS := Lib.hid hfs
        have HRS := Lib.hid hrs
        have hns : ns ≤ 1000 := by rw [hrs.1]; exact HSM.out.1
        clear ho4 hb4 hfs hrs
        go_wp2_with fail
        refine (SeqCalls.low_any a0 _ x1 (by omega)).mono ?_; rintro e W4 ⟨rfl, rfl⟩
        go_wp2_with fail
        obtain ⟨W5, hW5⟩ : ∃ W5, W4.alloc (.cells #[] 25) = W5 := ⟨_, rfl⟩
        have hal : Below W4.heap.size W4 W5 := by rw [← hW5]; exact (Below.refl _ _).alloc (Nat.le_refl _) _
        have HRS5 := Lib.hid (HRS.out.below hal)
        have HB5 := Lib.hid (HB4.out.trans (hal.mono HB4.out.size))
        have HE5 : Hid (RdS W5 (some ⟨W4.heap.size, 0, none⟩) 0 []) := Lib.hid ⟨rfl, fun h => absurd h (Nat.lt_irrefl _)⟩
        rw [hW5]
        clear hal hW5
        generalize W4.heap.size = g0 at *
        refine (list_any aS ns cs S _ HRS5.out HSM.out HS.out.1).mono ?_; rintro e W6 ⟨v6, rfl, ho6, hb6⟩
        rw [HN.out] at ho6
        obtain ⟨al, nl, cl, rfl, hfl, hrl⟩ := ho6.form
        have hnl2 : nl ≤ 800 := by rw [hrl.1]; exact hnl
        have HRL := Lib.hid hrl
        have HRS6 := Lib.hid (HRS5.out.below hb6)
        have HE6 := Lib.hid (HE5.out.below hb6)
        have HB6 := Lib.hid (HB5.out.trans (hb6.mono HB5.out.size))
        clear ho6 hb6 hfl hrl
        go_wp2_with fail
        go_loopw [10, 53] (fun s10 s53 wx => ∃ (j : Nat) (aT : Option Addr) (nT cT : Nat) (T : List Sp), j ≤ nl ∧ s53 = .int .i64 (j : Int) ∧ s10 = .slice aT nT cT ∧ Hid (Fit aT nT cT) ∧ Hid (RdS wx aT nT T) ∧ Hid (IsSet T (· ∈ N.take j)) ∧ Hid (Small T) ∧ Hid (Below W6.heap.size W6 wx)) (fun _ s53 _ => nl - (intOf s53).toNat)
        case atStart => exact ⟨0, _, 0, 0, [], Nat.zero_le _, rfl, rfl, Lib.hid ⟨Nat.le_refl _, by simp [maxLen], fun h => by cases h⟩, HE6, Lib.hid ⟨norm_nil, fun z => by simp [nums_nil]⟩, Lib.hid ⟨by simp, by simp⟩, Lib.hid (Below.refl _ _)⟩
        case round =>
          obtain ⟨j, aT, nT, cT, T, hj, rfl, rfl, hfT, hrT, hsT, hsmT, hbT⟩ := hrel
          by_cases hjl : j < nl
          · obtain ⟨bl, ol, rfl, _, cz⟩ := (HRL.out.below hbT.out).at_ hjl
            have hjN : j < N.length := by rw [← HRL.out.1]; exact hjl
            obtain ⟨z, hz⟩ : ∃ z, N.getD j 0 = z := ⟨_, rfl⟩
            have hzb : 0 ≤ z ∧ z < 200 := HNB.out z (by rw [← hz]; simp [List.getD, hjN])
            rw [hz] at cz
            obtain ⟨T', hT', hsmT'⟩ := ones (N.take (j + 1)) (fun y hy => HNB.out y (List.mem_of_mem_take hy))
            have hnx := set_next hjN hz hsT.out hT'
            obtain ⟨hz0, hz1⟩ := hzb
            have HTT := Lib.hid hT'
            have HST := Lib.hid hsmT'
            have HNX := Lib.hid hnx
            clear hT' hsmT' hnx hz
            go_wp2_with fail
            refine (SeqCalls.add_any (a0 % 16777216) z _).mono ?_; rintro e W7 ⟨rfl, rfl⟩
            go_wp2_with fail
            refine (SeqCalls.add_any (a0 % 16777216) 200 _).mono ?_; rintro e W7 ⟨rfl, rfl⟩
            rw [show (a0 % 16777216 + 200) % 16777216 = (a0 + 200) % 16777216 from by omega]
            go_wp2_with fail
            refine (SeqCalls.within_any (a0 % 16777216) ((a0 + z) % 16777216) ((a0 + 200) % 16777216) _).mono ?_; rintro e W7 ⟨rfl, rfl⟩
            rw [show decide (((a0 + z) % 16777216 - a0 % 16777216) % 16777216 ≤ ((a0 + 200) % 16777216 - a0 % 16777216) % 16777216) = true from decide_eq_true (by omega)]
            go_wp2_with fail
            refine (SeqCalls.to_any (a0 % 16777216) ((a0 + z) % 16777216) _).mono ?_; rintro e W7 ⟨rfl, rfl⟩
            rw [show ((a0 + z) % 16777216 - a0 % 16777216) % 16777216 = z from by omega]
            go_wp2_with fail
            refine (add_any aT nT cT T z (z + 1) T' _ hrT.out hfT.out hsmT.out (by omega) (by omega) (by omega) (by omega) HNX.out).mono ?_; rintro e W8 ⟨v8, rfl, ho8, hb8⟩
            obtain ⟨a8, n8, c8, rfl, hf8, hr8⟩ := ho8.form
            have HF8 := Lib.hid hf8
            have HR8 := Lib.hid hr8
            have HB8 := Lib.hid (hbT.out.trans (hb8.mono hbT.out.size))
            clear ho8 hf8 hr8 hb8 cz
            go_wp2_with fail
            go_roundw
            case rel => exact ⟨j + 1, a8, n8, c8, T', by omega, by go_num, rfl, HF8, HR8, HTT, HST, HB8⟩
            case measure => simp [intOf]; omega
          · have hjn : N.take j = N := List.take_of_length_le (by have := HRL.out.1; omega)
            have hTS : T = S := by
              have h1 := hsT.out
              rw [hjn] at h1
              exact h1.ext (p := (· ∈ N)) ⟨HS.out.1, fun z => by rw [HN.out]⟩
            have hnT : nT ≤ 100000 := by rw [hrT.out.1]; have := hsmT.out.1; omega
            have HTS := Lib.hid hTS
            clear hjn hTS
            go_wp2_with fail
            refine (same_any aT nT cT T aS ns cs S _ hrT.out (HRS6.out.below hbT.out) hnT (by omega)).mono ?_; rintro e W9 ⟨rfl, hb9⟩
            rw [show decide (T = S) = true from decide_eq_true HTS.out]
            have HB9 := Lib.hid ((HB6.out.trans (hbT.out.mono HB6.out.size)).trans (hb9.mono (Nat.le_trans HB6.out.size hbT.out.size)))
            clear hb9
            go_wp2_with fail
            refine (SeqCalls.add_any 16777215 1 _).mono ?_; rintro e W10 ⟨rfl, rfl⟩
            rw [show ((16777215 : Int) + 1) % 16777216 = 0 from by decide]
            go_wp2_with fail
            go_ret
            exact ⟨rfl, HB9.out⟩

theorem own : ownKnob Try.prog.godebug = none := by kernel_rfl
theorem laidOut : laidOutB Try.prog = true := by kernel_rfl

set_option maxRecDepth 100000 in
theorem lifted (os : Os) (started : os.Started) (H : Type) (enc : TypeId × Value → H) :
    ReturnsInHanded {} Try.checked os 3 .any (Rows.polliwogRoundSpec.pre6 enc Try.prog Try.f3 Rows.polliwogRoundRow.domain false) (Rows.polliwogRoundSpec.post enc Try.prog Try.f3 false true false false) := by
  refine Base.law_lifted (C := Try.checked) own started (by kernel_rfl) Try.func3 laidOut (by kernel_rfl) rfl Try.underlying4 rfl ?_
    (ChangeSpec.witness6 (enc := enc) (C := Try.checked) false ⟨#[], #[.int .u32 0, .slice none 0 0], []⟩ 8 (by kernel_rfl) (by kernel_rfl) (by kernel_rfl) (by kernel_rfl)) ?_
  · intro ds h
    match ds, h with
    | [_d0, _d1], _ => exact ⟨rfl, rfl, rfl⟩
  · intro W base args ds before hval0 hA0 hlt hsz
    have hval : ∀ (j : Nat) t v, Try.f3.params[j]? = some t → args[j]? = some v → Value.okWide Try.prog W .any base t v := hval0
    have hA : DataW.TrodAll enc Try.prog W 0 (fun _ => true) true Try.f3.params.toList args.toList ds before := hA0
    clear hval0 hA0
    rw [Try.params3] at hA hval hsz
    obtain ⟨v0, vs0, d0, ds0, p0, q0, hargs, rfl, rfl, h0, r0⟩ := trodAll_cons hA
    obtain ⟨v1, vs1, d1, ds1, p1, q1, rfl, rfl, rfl, h1, r1⟩ := trodAll_cons r0
    obtain ⟨rfl, rfl, rfl⟩ := trodAll_nil r1
    obtain rfl : args = #[v0, v1] := by cases args; simp_all
    obtain ⟨a0, rfl, rfl, rfl, w0⟩ := open_int Try.underlying22 (hval 0 22 v0 rfl rfl) h0
    obtain ⟨a1, w1⟩ := Base.open_pairs Try.underlying23 Try.underlying25 (by kernel_rfl) rfl rfl rfl rfl Try.underlying3 (by kernel_rfl) (hval 1 23 v1 rfl rfl) h1 (fun x hx => hlt x (by simp [hx]))
    exact walk W a0 w0 v1 a1 w1

theorem over : Rows.polliwogRoundRow.holds Try.pinned (OpenSpec.ofChange Rows.polliwogRoundSpec) :=
  OpenClaim.holds_of_wide 3 Try.f3 rfl rfl rfl rfl rfl rfl rfl ⟨rfl, rfl, rfl, rfl, rfl⟩ rfl rfl rfl rfl rfl (by kernel_rfl) Try.func3 (by kernel_rfl)
    (of_decide_eq_true (by kernel_rfl)) (by unfold Func.isWrapper; first | (rw [if_pos (by decide +kernel)]; kernel_rfl) | (rw [if_neg (by decide +kernel)]; exact ⟨rfl, rfl⟩))
    (fun os started H enc _ => lifted os started H enc)

theorem proved : Rows.PolliwogRoundSaid :=
  over
#print axioms proved
end Go.Proofs.Ytpmbhbaajnimaaa.polliwogRound
