/-
  ConnNumbers is proved: each beginning has the next SQ, round about, and an answer to an elder one begins nothing; for every input the law returns true.
-/
import Derived.Test.YtkphompjahcjiaaDoorLaid
import Derived.Test.YtkphompjahcjiaaDoorCards
import Derived.Test.YtkphompjahcjiaaDoorConnA
import Derived.IntWalk
import Derived.Deep.DeepCutAuto
namespace Go.Proofs.YtkphompjahcjiaaDoor.connNumbers
open Go.ChangeShapes Go.WideShapes Go.ChangeAt Go.RowKit
set_option linter.unusedVariables false      -- a walk need not use every bound of an argument

open Conn

theorem exp1 (q : Int) : (expR ⟨1, 3, 2, q, -1, 3, 1, noD⟩).1 = ⟨1, 3, 1, q, -1, 3, 1, noD⟩ := rfl
theorem rej1 (q : Int) : (recvR ⟨1, 3, 2, q, -1, 3, 1, noD⟩ ⟨7, q, 0, 0, 0, none, 0, 0, false, noD⟩).1 = ⟨1, 3, 1, q, -1, 3, 1, noD⟩ := by
  simp [recvR, recvC, handleC, isNew, isAns, bringC, asksK, show Rules.ofI 2 7 = 1 from rfl, hearAnswerC, toC]
theorem ak1 (q d : Int) (h : d ≠ q) : recvR ⟨1, 3, 2, q, -1, 3, 1, noD⟩ ⟨2, d, 9, 0, 0, none, 0, 0, false, noD⟩ = (⟨1, 3, 2, q, -1, 3, 1, noD⟩, o0) := by
  simp [recvR, recvC, recvO, handleC, handleO, isNew, isAns, h, bringC, endsB, asksK, o0, show Rules.ofI 2 2 = 1 from rfl]
theorem req1 (q k : Int) : reqR ⟨1, 3, 1, q, -1, 3, k, noD⟩ 1 noD = (⟨1, 3, 2, (q + 1) % 256, -1, 3, 1, noD⟩, ⟨[], [⟨1, (q + 1) % 256, 3, false, noD⟩], false, false, 0, 1⟩) := rfl
structure At (w : World) (g : Nat) (q k : Int) (wr : World) : Prop where
  bel : Below w.heap.size w wr
  row : wr.heap[g]? = some (.cells (encC ⟨1, 3, 1, q, -1, 3, k, noD⟩) 81 (0, 0))
  tab : Rules.Tabs wr
  q0 : 0 ≤ q ∧ q ≤ 255

set_option maxRecDepth 100000 in
set_option maxHeartbeats 4000000 in
theorem walk (w : World) (a0 : Int) (w0 : (Lit.int .i64 a0).wf = true) (hL : laidMetH Tryd.prog Rows.connNumbersRow.laid w) :
    Calls Tryd.prog 8 #[.int .i64 a0] w fun e w' => e = .returned (.bool true) ∧ Below w.heap.size w w' := by
  have hT : Rules.Tabs w := Rules.tabs_laid (by kernel_rfl) hL (by simp [Rows.connNumbersRow])
  have HT := Lib.hid hT
  obtain ⟨nn, hnn, hn1, hn2⟩ : ∃ nn : Nat, max 1 (min a0 300) = (nn : Int) ∧ 1 ≤ nn ∧ nn ≤ 300 := ⟨(max 1 (min a0 300)).toNat, by omega, by omega, by omega⟩
  have HN := Lib.hid hnn
  clear w0 hL hT hnn
  go_enter Tryd.func8, Tryd.ntmps8
  go_wp2_with fail
  refine (awake_any _ HT.out).mono ?_; rintro e W0 ⟨rfl, hb0⟩
  have HB0 := Lib.hid hb0
  clear hb0
  go_upto_region 3 with (fail)
  go_cut [0] (fun s0 wx => s0 = .int .i64 (nn : Int) ∧ wx = W0)
  case first =>
    have hcase : (300 < a0 ∧ nn = 300) ∨ (a0 ≤ 300 ∧ a0 < 1 ∧ nn = 1) ∨ (a0 ≤ 300 ∧ 1 ≤ a0 ∧ (nn : Int) = a0) := by have := HN.out; omega
    rcases hcase with ⟨g1, g2⟩ | ⟨g1, g2, g3⟩ | ⟨g1, g2, g3⟩
    all_goals
      go_wp2_with fail
    all_goals go_meet
    all_goals exact ⟨congrArg (Value.int .i64) (by omega), rfl⟩
  case rest =>
  obtain ⟨rfl, rfl⟩ := hcut
  go_wp2_with fail
  refine (new_any wc 1 3 (by omega)).mono ?_; rintro e W1 ⟨g, hg, rfl, hc, hb⟩
  rw [show newC 1 3 = ⟨1, 3, 1, 0, -1, 3, 0, noD⟩ from rfl] at hc
  have HG : Hid (w.heap.size ≤ g) := Lib.hid (Nat.le_trans HB0.out.size hg)
  have HGL := Lib.hid (tabs_ne HT.out HG.out)
  have H1 : Hid (At w g 0 0 W1) := Lib.hid ⟨HB0.out.trans (hb.mono HB0.out.size), hc, (HT.out.below HB0.out).below hb, by omega⟩
  clear hc hb hg
  go_wp2_with fail
  go_loopw [4] (fun s4 wr => ∃ (i : Nat) (q k : Int), i ≤ nn ∧ s4 = .int .i64 ((i : Int) + 1) ∧ q = (i : Int) % 256 ∧ Hid (At w g q k wr)) (fun s4 _ => 400 - (intOf s4).toNat)
  case atStart => exact ⟨0, 0, 0, by omega, rfl, by omega, H1⟩
  case round =>
    clear H1
    obtain ⟨i, q, k, hi, rfl, hq, HA⟩ := hrel
    have HQ := Lib.hid hq
    clear hq
    by_cases hgo : i < nn
    · have hle : ((i : Int) + 1 ≤ (nn : Int)) := by omega
      obtain ⟨s, hs⟩ : ∃ s : Int, ((i : Int) + 1) % 256 = s := ⟨_, rfl⟩
      have hqs : (q + 1) % 256 = s := by have := HQ.out; omega
      have HQS := Lib.hid hqs
      have hs0 : 0 ≤ s ∧ s ≤ 255 := by omega
      obtain ⟨d, hd⟩ : ∃ d : Int, ((i : Int) + 1 + 255) % 256 = d := ⟨_, rfl⟩
      have HDS : Hid (d ≠ s) := Lib.hid (by omega)
      obtain ⟨t, ht⟩ : ∃ t : Int, ((i : Int) + 1) % 3 = t := ⟨_, rfl⟩
      have hi3 : (i : Int) ≤ 300 := by omega
      have HSQ := Lib.hid hs0
      clear hqs hs0
      go_wp2_with fail
      refine (request_ok1 wr g ⟨1, 3, 1, q, -1, 3, k, noD⟩ 1 noD HA.out.row (by omega) (by omega) rfl (by decide) rfl HA.out.q0).mono ?_; rintro e W2 ⟨v, rfl, h2⟩
      rw [req1, HQS.out] at h2
      obtain ⟨sa, sc, ua, uc, rfl, _, hu, hc2, ho2⟩ := h2.open_
      obtain ⟨b, eb, hbl, hbs, hbc⟩ := hu (by simp)
      subst eb
      simp only [List.length_singleton, List.length_nil]
      have u1 : W2.cell? ⟨b, 1, none⟩ = some (.int .i64 s) := hbc 1 _ rfl
      have HC2 := Lib.hid hc2
      have HB2 := Lib.hid (ho2.bel HA.out.bel HA.out.bel.size HG.out)
      have HT2 := Lib.hid (ho2.tabs HA.out.tab HGL.out)
      clear h2 hu hbc hc2 ho2 hbl HA
      go_wp2_with fail
      have hbW : Below W2.heap.size W2 (W2.alloc (.cells #[.slice sa 0 sc, .slice (some ⟨b, 0, none⟩) 1 uc, .bool false, .bool false, .int .u32 0, .int .i64 1] 61)) := (Below.refl _ _).alloc (Nat.le_refl _) _
      have HCW := Lib.hid ((hbW.block g (Array.getElem?_eq_some_iff.1 HC2.out).1).trans HC2.out)
      have HBW := Lib.hid (HB2.out.trans (hbW.mono HB2.out.size))
      have HTW := Lib.hid (HT2.out.below hbW)
      clear hbW u1 hbs
      generalize W2.alloc (.cells #[.slice sa 0 sc, .slice (some ⟨b, 0, none⟩) 1 uc, .bool false, .bool false, .int .u32 0, .int .i64 1] 61) = W at *
      refine (recv_any W g ⟨1, 3, 2, s, -1, 3, 1, noD⟩ ⟨2, d, 9, 0, 0, none, 0, 0, false, noD⟩ HCW.out HTW.out HGL.out rfl).mono ?_; rintro e W3 ⟨v, rfl, h3⟩
      rw [ak1 s d HDS.out] at h3
      obtain ⟨sa3, sc3, ua3, uc3, rfl, _, _, hc3, ho3⟩ := h3.open_
      simp only [o0, List.length_nil]
      have HC3 := Lib.hid hc3
      have HB3 := Lib.hid (ho3.bel HBW.out HBW.out.size HG.out)
      have HT3 := Lib.hid (ho3.tabs HTW.out HGL.out)
      clear h3 hc3 ho3 HC2 HB2 HT2 HCW HBW HTW
      go_wp2_with fail
      have hbW : Below W3.heap.size W3 (W3.alloc (.cells #[.slice sa3 0 sc3, .slice ua3 0 uc3, .bool false, .bool false, .int .u32 0, .int .i64 0] 61)) := (Below.refl _ _).alloc (Nat.le_refl _) _
      have HCW := Lib.hid ((hbW.block g (Array.getElem?_eq_some_iff.1 HC3.out).1).trans HC3.out)
      have HBW := Lib.hid (HB3.out.trans (hbW.mono HB3.out.size))
      have HTW := Lib.hid (HT3.out.below hbW)
      clear hbW HC3 HB3 HT3
      generalize W3.alloc (.cells #[.slice sa3 0 sc3, .slice ua3 0 uc3, .bool false, .bool false, .int .u32 0, .int .i64 0] 61) = W5 at *
      refine (vars_any _ g _ HCW.out).mono ?_; rintro e W6 ⟨rfl, hb6⟩
      have hf := field_vars0 2 s (-1) 1 3 W6
      have HC6 := Lib.hid ((hb6.block g (Array.getElem?_eq_some_iff.1 HCW.out).1).trans HCW.out)
      have HB6 := Lib.hid (HBW.out.trans (hb6.mono HBW.out.size))
      have HT6 := Lib.hid (HTW.out.below hb6)
      clear hb6 HCW HBW HTW
      go_upto_if 67 with (fail)
      go_cut [4] (fun s4 wx => s4 = .int .i64 ((i : Int) + 1) ∧ Hid (∃ k', At w g s k' wx))
      case first =>
        clear hf
        by_cases ht0 : t = 0
        · subst ht0
          go_wp2_with fail
          refine (recv_any W6 g ⟨1, 3, 2, s, -1, 3, 1, noD⟩ ⟨7, s, 0, 0, 0, none, 0, 0, false, noD⟩ HC6.out HT6.out HGL.out rfl).mono ?_; rintro e W7 ⟨v, rfl, h7⟩
          rw [rej1 s] at h7
          obtain ⟨sa7, sc7, ua7, uc7, rfl, _, _, hc7, ho7⟩ := h7.open_
          have HA7 : Hid (∃ k', At w g s k' W7) := Lib.hid ⟨1, ho7.bel HB6.out HB6.out.size HG.out, hc7, ho7.tabs HT6.out HGL.out, HSQ.out⟩
          clear h7 hc7 ho7
          go_wp2_with fail
          go_meet
          exact ⟨rfl, HA7⟩
        · have ht1 : (t == 0) = false := by simpa using ht0
          go_wp2_with fail
          refine (expire_any W6 g ⟨1, 3, 2, s, -1, 3, 1, noD⟩ HC6.out (by simp)).mono ?_; rintro e W7 ⟨v, rfl, h7⟩
          rw [exp1 s] at h7
          obtain ⟨sa7, sc7, ua7, uc7, rfl, _, _, hc7, ho7⟩ := h7.open_
          have HA7 : Hid (∃ k', At w g s k' W7) := Lib.hid ⟨1, ho7.bel HB6.out HB6.out.size HG.out, hc7, ho7.tabs HT6.out HGL.out, HSQ.out⟩
          clear h7 hc7 ho7
          go_wp2_with fail
          go_meet
          exact ⟨rfl, HA7⟩
      case rest =>
        obtain ⟨rfl, hx⟩ := hcut
        obtain ⟨k', hA⟩ := hx.out
        clear hx hf HC6 HB6 HT6
        have HA := Lib.hid hA
        clear hA
        go_wp2_with fail
        refine (vars_any _ g _ HA.out.row).mono ?_; rintro e W8 ⟨rfl, hb8⟩
        have hf := field_vars0 1 s (-1) k' 3 W8
        have HA8 : Hid (At w g s k' W8) := Lib.hid ⟨HA.out.bel.trans (hb8.mono HA.out.bel.size), (hb8.block g (Array.getElem?_eq_some_iff.1 HA.out.row).1).trans HA.out.row, HA.out.tab.below hb8, HA.out.q0⟩
        clear hb8 HA
        go_wp2_with fail
        go_roundw
        case rel => exact ⟨i + 1, s, k', by omega, by go_num, by omega, HA8⟩
        case measure => simp [intOf]; omega
    · obtain rfl : i = nn := by omega
      clear hgo hi
      have hno : ¬ ((i : Int) + 1 ≤ (i : Int)) := by omega
      have hi3 : (i : Int) ≤ 300 := by omega
      go_wp2_with fail
      refine (vars_any _ g _ HA.out.row).mono ?_; rintro e W4 ⟨rfl, hb4⟩
      have hqq : (i : Int) % 256 = q := HQ.out.symm
      have hf := field_vars1 1 q (-1) k 3 W4
      have hfin := HA.out.bel.trans (hb4.mono HA.out.bel.size)
      have HF := Lib.hid hfin
      clear hfin hb4
      go_wp2_with fail
      go_ret
      exact ⟨rfl, HF.out⟩

theorem own : ownKnob Tryd.prog.godebug = none := by kernel_rfl
theorem laidOut : laidOutB Tryd.prog = true := by kernel_rfl

set_option maxRecDepth 100000 in
theorem lifted (os : Os) (started : os.Started) (H : Type) (enc : TypeId × Value → H) :
    ReturnsInHanded {} Tryd.checked os 8 .any (fun w args => (Rows.connNumbersSpec.pre enc Tryd.prog Tryd.f8 Rows.connNumbersRow.domain false w args ∧ laidMetH Tryd.prog Rows.connNumbersRow.laid w) ∧ sizedMet enc Tryd.prog Tryd.f8 (OpenSpec.ofChange Rows.connNumbersSpec) false w args) (Rows.connNumbersSpec.post enc Tryd.prog Tryd.f8 false true false false) := by
  refine Base.law_laid (C := Tryd.checked) own started (by kernel_rfl) Tryd.func8 laidOut (by kernel_rfl) rfl Tryd.underlying4 rfl ?_
    (Base.laid_witness #[.int .i64 0] (World.shaped_of_ZipB (by kernel_rfl) (by kernel_rfl)) (by kernel_rfl) (by kernel_rfl) (by kernel_rfl) (by rw [MakeChecks.laidMetH_plain _ _ _ (by kernel_rfl)]; exact laidMet_laidAll _ (by kernel_rfl) (by kernel_rfl))) ?_
  · intro ds h
    match ds, h with
    | [_d0], _ => exact ⟨rfl, rfl, rfl⟩
  · intro W base args ds before hval0 hA0 hlt hsz hL
    have hval : ∀ (j : Nat) t v, Tryd.f8.params[j]? = some t → args[j]? = some v → Value.okWide Tryd.prog W .any base t v := hval0
    have hA : DataW.TrodAll enc Tryd.prog W 0 (fun _ => true) true Tryd.f8.params.toList args.toList ds before := hA0
    clear hval0 hA0
    rw [Tryd.params8] at hA hval hsz
    obtain ⟨v0, vs0, d0, ds0, p0, q0, hargs, rfl, rfl, h0, r0⟩ := trodAll_cons hA
    obtain ⟨rfl, rfl, rfl⟩ := trodAll_nil r0
    obtain rfl : args = #[v0] := by cases args; simp_all
    obtain ⟨a0, rfl, rfl, rfl, w0⟩ := open_int Tryd.underlying3 (hval 0 3 v0 rfl rfl) h0
    exact walk W a0 w0 hL

theorem over : Rows.connNumbersRow.holds Tryd.pinned (OpenSpec.ofChange Rows.connNumbersSpec) :=
  OpenClaim.holds_of_wide 8 Tryd.f8 rfl rfl rfl rfl rfl rfl rfl ⟨rfl, rfl, rfl, rfl, rfl⟩ rfl rfl rfl rfl rfl (by kernel_rfl) Tryd.func8 (by kernel_rfl)
    (of_decide_eq_true (by kernel_rfl)) (by unfold Func.isWrapper; first | (rw [if_pos (by decide +kernel)]; kernel_rfl) | (rw [if_neg (by decide +kernel)]; exact ⟨rfl, rfl⟩))
    (fun os started H enc _ => lifted os started H enc)

theorem proved : Rows.ConnNumbersCardSaid :=
  Claim7.holds_tied_plain_at .later [] [.data] true Rows.connNumbersCard.stood.harness false over (fun _ h => by cases h) (by kernel_rfl) (fun _ h => by cases h) connNumbers_row_tie rfl ⟨rfl, rfl⟩ (by kernel_rfl) rfl
    (fun f fn hf hfn => by
      obtain rfl : f = 8 := Option.some.inj ((show Tryd.prog.funcNamed Rows.connNumbersRow.func = some 8 by kernel_rfl).symm.trans hf) |>.symm
      obtain rfl : fn = Tryd.f8 := (Option.some.inj (Tryd.func8.symm.trans hfn)).symm
      exact ⟨by kernel_rfl, fun j t ht => by
        rw [Tryd.params8] at ht
        have hm : t ∈ [3] := by simpa using Array.mem_of_getElem? ht
        have hall : ([3].all fun u => !Tryd.prog.wantsStandIn u) = true := by kernel_rfl
        exact (show Tryd.prog.wantsStandIn t = false by simpa using List.all_eq_true.1 hall t hm)⟩)
    (by kernel_rfl)
#print axioms proved
end Go.Proofs.YtkphompjahcjiaaDoor.connNumbers
