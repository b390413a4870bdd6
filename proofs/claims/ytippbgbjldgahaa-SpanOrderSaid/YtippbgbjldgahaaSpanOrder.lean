/-
  SpanOrder is proved: span by span, in whatever order, the set is the same as at once; for every input the law returns true.
-/
import Derived.Test.YtippbgbjldgahaaBase
import Derived.Test.YtippbgbjldgahaaLaw03Kit
import Derived.Test.YtippbgbjldgahaaSpanDrop
namespace Go.Proofs.Ytippbgbjldgahaa.spanOrder
open Go.ChangeShapes Go.WideShapes Go.ChangeAt Go.RowKit
set_option linter.unusedVariables false      -- a walk need not use every bound of an argument

open SpanMath View SpanCalls Law03 Ref

set_option maxHeartbeats 4000000 in
theorem walk (w : World) (v0 : Value) (D : List (Int × Int)) (w0 : Base.Pairs w v0 D) (v1 : Value) (L : List Int) (w1 : Base.IntSlice .i64 8 w v1 L) :
    Calls Try.prog 7 #[v0, v1] w fun e w' => e = .returned (.bool true) ∧ Below w.heap.size w w' := by
  obtain ⟨a, n, cap, rfl, hf, hr⟩ := rd_pairs w0
  obtain ⟨a', cap', rfl, hr', hb64, hl64⟩ := rd_ints w1
  obtain ⟨M, hM⟩ : ∃ M, L.length = M := ⟨_, rfl⟩
  rw [hM] at hr' hl64 ⊢
  have HB64 := Lib.hid hb64
  obtain ⟨S, hS, hsm⟩ := few_set D
  have HS := Lib.hid hS
  have HSM := Lib.hid hsm
  have HD1 := Lib.hid (hr)
  have HL2 := Lib.hid (hr')
  have HB3 : Hid (Below w.heap.size w w) := Lib.hid (Below.refl _ _)
  clear w0 w1 hr hr' hf hS hsm hM hb64
  go_enter Try.func7, Try.ntmps7
  go_wp2_with fail
  refine (awake_any _).mono ?_; rintro e x1 ⟨rfl, hb1⟩
  have HD4 := Lib.hid (HD1.out.below hb1)
  clear HD1
  have HL5 := Lib.hid (HL2.out.below hb1)
  clear HL2
  have HB6 := Lib.hid (HB3.out.trans (hb1.mono HB3.out.size))
  clear HB3
  go_wp2_with fail
  refine (few_any _ _ _ D _ HD4.out).mono ?_; rintro e x2 ⟨vp, up, Ap, rfl, hop, hup, hjp, hb2⟩
  have HJp := Lib.hid hjp
  have HLTp : Hid (∀ k, Value.ownBlock vp = some k → k < x2.heap.size) := Lib.hid (fun k hk => (hop.lt k hk).2)
  obtain ⟨aps, nps, cps, rfl, hfps, hrps⟩ := hop.form
  obtain ⟨api, npi, cpi, rfl, hfpi, hrpi⟩ := hup.form
  have hnps : nps ≤ 12 := by rw [hrps.1]; exact fewL_len D
  have hnpi : npi ≤ 200 := by rw [hrpi.1]; exact just_len hjp (fun z hz => inSp_few D z hz)
  have HFps := Lib.hid hfps
  have HFpi := Lib.hid hfpi
  clear hfps hfpi hjp
  have HD7 := Lib.hid (HD4.out.below hb2)
  clear HD4
  have HL8 := Lib.hid (HL5.out.below hb2)
  clear HL5
  have HB9 := Lib.hid (HB6.out.trans (hb2.mono HB6.out.size))
  clear HB6
  have HRps11 := Lib.hid (hrps)
  have HRpi12 := Lib.hid (hrpi)
  have HUp13 := Lib.hid (hup)
  clear hrps hrpi hup hop
  have HA : Hid (nums S = Ap) := Lib.hid (just_nums HS.out HJp.out)
  clear HD7
  clear HUp13
  go_wp2_with fail
  go_loopw [8, 9] (fun v i wr => ∃ (k : Nat) (T X : List Sp), k ≤ M ∧ k ≤ 30 ∧ i = .int .i64 k ∧ OwnS wr x2.heap.size v T ∧ Hid (IsSet T (inSp X)) ∧ Hid (Sub X D) ∧ Below x2.heap.size x2 wr) (fun _ i _ => 30 - (intOf i).toNat)
  case atStart => exact ⟨0, [], [], Nat.zero_le _, Nat.zero_le _, rfl, OwnS.nil, Lib.hid ⟨norm_nil, fun z => by simp [nums, inSp]⟩, Lib.hid (fun x hx => by cases hx), Below.refl _ _⟩
  case round =>
    obtain ⟨k, T, X, hk, hk30, rfl, hown, hT, hX, hb⟩ := hrel
    by_cases hgo : k < M ∧ k < 30 ∧ 0 < nps
    · obtain ⟨hg1, hg2, hg3⟩ := hgo
      have hd1 : decide (k < M) = true := decide_eq_true hg1
      have hd2 : decide ((k : Int) < 30) = true := decide_eq_true (by omega)
      have hd3 : decide (0 < nps) = true := decide_eq_true hg3
      obtain ⟨b, off, rfl, _, hc⟩ := (HL8.out.below hb).at_ hg1
      obtain ⟨y, hy⟩ : ∃ y, L.getD k 0 = y := ⟨_, rfl⟩
      have hyb := HB64.out y (by rw [← hy]; simp [List.getD, show k < L.length from by have := HL8.out.1; omega])
      rw [hy] at hc
      clear hy
      obtain ⟨hyb1, hyb2⟩ := hyb
      obtain ⟨rq, j, h1, h2, h3, h4, h5, hjn⟩ := rem_idx y nps hg3
      obtain ⟨b2, off2, rfl, _, hx1, hx2⟩ := (HRps11.out.below hb).at_ hjn
      obtain ⟨z, hz⟩ : ∃ z, (fewL D).getD j (0, 0) = z := ⟨_, rfl⟩
      have hzm : z ∈ fewL D := by rw [← hz]; exact getD_memS (by have := HRps11.out.1; omega)
      have hzb := fewL_bd D z hzm
      rw [hz] at hx1 hx2
      clear hz
      obtain ⟨z1, z2⟩ := z
      simp only at hx1 hx2 hzb
      obtain ⟨zb1, zb2, zb3, zb4⟩ := hzb
      obtain ⟨T2, hT2, hT3⟩ := add_next hT.out (z1, z2)
      have HT2 := Lib.hid hT2
      have HT3 := Lib.hid hT3
      have HX2 := Lib.hid (sub_add hX.out hzm)
      have HSMT := Lib.hid (sub_small hT.out hX.out)
      obtain ⟨au, nu, cu, rfl, hfu, hru⟩ := hown.form
      have HRU := Lib.hid hru
      have HFU := Lib.hid hfu
      have hsz := hb.size
      have hj0 : (0 : Int) ≤ (j : Int) := by omega
      have hjn2 : (j : Int) < (nps : Int) := by omega
      have hn0 : ((nps : Int) == 0) = false := by simp; omega
      have hn1 : ¬ ((nps : Int) = 0) := by omega
      have hn2 : nps ≠ 0 := by omega
      clear hT2 hT3 hT hX hzm hru hfu hown
      go_wp2_with fail
      refine (add_any au nu cu T z1 z2 T2 _ HRU.out HFU.out HSMT.out (by omega) (by omega) (by omega) (by omega) HT2.out).mono ?_; rintro e w6 ⟨v6, rfl, hown6, hb6⟩
      have hb7 := hb.trans (hb6.mono hsz)
      have hown7 := hown6.lower hsz
      clear hb hb6 hown6 hc hx1 hx2 h1 h2 h3 h4 h5
      go_wp2_with fail
      go_roundw
      case rel => exact ⟨k + 1, T2, _, by omega, by omega, by go_num, hown7, HT3, HX2, hb7⟩
      case measure => simp [intOf]; omega
    · have hcase : decide (k < M) = false ∨ (decide (k < M) = true ∧ decide ((k : Int) < 30) = false) ∨ (decide (k < M) = true ∧ decide ((k : Int) < 30) = true ∧ decide (0 < nps) = false) := by
        by_cases h1 : k < M
        · by_cases h2 : k < 30
          · exact .inr (.inr ⟨decide_eq_true h1, decide_eq_true (by omega), decide_eq_false (fun h => hgo ⟨h1, h2, h⟩)⟩)
          · exact .inr (.inl ⟨decide_eq_true h1, decide_eq_false (by omega)⟩)
        · exact .inl (decide_eq_false h1)
      clear hgo hk30 hk
      rcases hcase with hd1 | ⟨hd1, hd2⟩ | ⟨hd1, hd2, hd3⟩
      all_goals
      have HL1001 := Lib.hid (HL8.out.below hb)
      clear HL8
      have HRps1002 := Lib.hid (HRps11.out.below hb)
      clear HRps11
      have HRpi1003 := Lib.hid (HRpi12.out.below hb)
      clear HRpi12
      have HB1004 := Lib.hid (HB9.out.trans (hb.mono HB9.out.size))
      clear HB9
      obtain ⟨wq, rfl⟩ : ∃ wq : World, wq = wr := ⟨_, rfl⟩
      have hown1 := hown
      have hs0 := hb.size
      clear hb hown
      go_wp2_with fail
      go_loopw [8, 54] (fun v i wr => ∃ (k : Nat) (T X : List Sp), k ≤ nps ∧ i = .int .i64 k ∧ OwnS wr x2.heap.size v T ∧ Hid (IsSet T (inSp X)) ∧ Hid (Sub X D) ∧ Hid (Has X (fewL D) k) ∧ Below wq.heap.size wq wr) (fun _ i _ => nps - (intOf i).toNat)
      case atStart => exact ⟨0, T, X, Nat.zero_le _, rfl, hown1, hT, hX, Lib.hid (fun i hi => absurd hi (Nat.not_lt_zero _)), Below.refl _ _⟩
      case round =>
        clear hT hX hown1
        obtain ⟨k', T, X, hk, rfl, hown, hT, hX, hH, hb⟩ := hrel
        by_cases hlt : k' < nps
        · obtain ⟨j, hj⟩ : ∃ j, nps = j + 1 + k' := ⟨nps - 1 - k', by omega⟩
          have hjn : j < nps := by omega
          have h1 : (nps : Int) - 1 - (k' : Int) = (j : Int) := by omega
          have hj0 : (0 : Int) ≤ (j : Int) := by omega
          have hjn2 : (j : Int) < (nps : Int) := by omega
          obtain ⟨b2, off2, rfl, _, hx1, hx2⟩ := (HRps1002.out.below hb).at_ hjn
          obtain ⟨z, hz⟩ : ∃ z, (fewL D).getD j (0, 0) = z := ⟨_, rfl⟩
          have hlen := HRps1002.out.1
          have hzm : z ∈ fewL D := by rw [← hz]; exact getD_memS (by omega)
          have HH2 := Lib.hid (has_next hH.out (y := z) (by rw [show (fewL D).length - 1 - k' = j from by omega]; exact hz))
          have hzb := fewL_bd D z hzm
          rw [hz] at hx1 hx2
          clear hz hlen
          obtain ⟨z1, z2⟩ := z
          simp only at hx1 hx2 hzb
          obtain ⟨zb1, zb2, zb3, zb4⟩ := hzb
          obtain ⟨T2, hT2, hT3⟩ := add_next hT.out (z1, z2)
          have HT2 := Lib.hid hT2
          have HT3 := Lib.hid hT3
          have HX2 := Lib.hid (sub_add hX.out hzm)
          have HSMT := Lib.hid (sub_small hT.out hX.out)
          obtain ⟨au, nu, cu, rfl, hfu, hru⟩ := hown.form
          have HRU := Lib.hid hru
          have HFU := Lib.hid hfu
          have hsz := hb.size
          have HJ := Lib.hid hj
          clear hT2 hT3 hT hX hH hzm hru hfu hown hj
          go_wp2_with fail
          refine (add_any au nu cu T z1 z2 T2 _ HRU.out HFU.out HSMT.out (by omega) (by omega) (by omega) (by omega) HT2.out).mono ?_; rintro e w6 ⟨v6, rfl, hown6, hb6⟩
          have hb7 := hb.trans (hb6.mono hsz)
          have hown7 := hown6.lower (by exact Nat.le_trans hs0 hsz)
          clear hb hb6 hown6 hx1 hx2 h1
          go_wp2_with fail
          go_roundw
          case rel => exact ⟨k' + 1, T2, _, by omega, by go_num, hown7, HT3, HX2, HH2, hb7⟩
          case measure => simp [intOf]; omega
        · have hkn : k' = (fewL D).length := by have := HRps1002.out.1; omega
          rw [hkn] at hH
          have HTS : Hid (IsSet T (inSp (fewL D))) := Lib.hid ⟨hT.out.1, fun z => by rw [hT.out.2, has_all hH.out hX.out]⟩
          have HSMT := Lib.hid (sub_small hT.out hX.out)
          have HTA : Hid (nums T = Ap) := Lib.hid (just_nums HTS.out HJp.out)
          clear hT hX hH hkn
          obtain ⟨au, nu, cu, rfl, hfu, hru⟩ := hown.form
          have HL3001 := Lib.hid (HL1001.out.below hb)
          clear HL1001
          have HRps3002 := Lib.hid (HRps1002.out.below hb)
          clear HRps1002
          have HRpi3003 := Lib.hid (HRpi1003.out.below hb)
          clear HRpi1003
          have HB3004 := Lib.hid (HB1004.out.trans (hb.mono HB1004.out.size))
          clear HB1004
          obtain ⟨wz, rfl⟩ : ∃ wz : World, wz = wr := ⟨_, rfl⟩
          have HRu3005 := Lib.hid (hru)
          have hs1 := hb.size
          have hown1 := hown.lower (Nat.zero_le _)
          clear hb hown hfu hru
          go_wp2_with fail
          go_loopw [11, 70] (fun v i wr => ∃ (k : Nat) (T2 : List Sp), k ≤ nps ∧ i = .int .i64 k ∧ OwnS wr 0 v T2 ∧ Hid (IsSet T2 (fun z => inSp (fewL D) z ∧ ¬ inSp ((fewL D).take k) z)) ∧ Below wz.heap.size wz wr) (fun _ i _ => nps - (intOf i).toNat)
          case atStart => exact ⟨0, T, Nat.zero_le _, rfl, hown1, Lib.hid ⟨HTS.out.1, fun z => by rw [HTS.out.2]; simp [inSp]⟩, Below.refl _ _⟩
          case round =>
            obtain ⟨k2, T2, hk2, rfl, hown2, hT2, hb⟩ := hrel
            by_cases hlt2 : k2 < nps
            · obtain ⟨b2, off2, rfl, _, hx1, hx2⟩ := (HRps3002.out.below hb).at_ hlt2
              have hlen : k2 < (fewL D).length := by have := HRps3002.out.1; omega
              obtain ⟨z, hz⟩ : ∃ z, (fewL D).getD k2 (0, 0) = z := ⟨_, rfl⟩
              have hzm : z ∈ fewL D := by rw [← hz]; exact getD_memS hlen
              have HTK := Lib.hid (fun u => inSp_take hlen hz u)
              have hzb := fewL_bd D z hzm
              rw [hz] at hx1 hx2
              clear hz hlen hzm
              obtain ⟨z1, z2⟩ := z
              simp only at hx1 hx2 hzb
              obtain ⟨zb1, zb2, zb3, zb4⟩ := hzb
              obtain ⟨T3, hT3⟩ := drop_next hT2.out (z1, z2)
              have HT3 := Lib.hid hT3
              have HT4 : Hid (IsSet T3 (fun z => inSp (fewL D) z ∧ ¬ inSp ((fewL D).take (k2 + 1)) z)) := Lib.hid ⟨hT3.1, fun u => by
                rw [hT3.2]
                show (u ∈ nums T2 ∧ ¬ (z1 ≤ u ∧ u < z2)) ↔ (inSp (fewL D) u ∧ ¬ inSp ((fewL D).take (k2 + 1)) u)
                rw [hT2.out.2, HTK.out]
                constructor
                · rintro ⟨⟨a1, a2⟩, a3⟩; exact ⟨a1, fun h => h.elim a2 a3⟩
                · rintro ⟨a1, a2⟩; exact ⟨⟨a1, fun h => a2 (.inl h)⟩, fun h => a2 (.inr h)⟩⟩
              have HSM2 : Hid (Small T2) := Lib.hid (small_of hT2.out.1 fun z hz => by have := inSp_few D z ((hT2.out.2 z).1 hz).1; omega)
              have HN2 : Hid (Norm T2) := Lib.hid hT2.out.1
              obtain ⟨ax, nx, cx, rfl, hfx, hrx⟩ := hown2.form
              have HRX := Lib.hid (hrx.alloc (.cells #[.int .i64 z1, .int .i64 z2] 35))
              have HFX := Lib.hid hfx
              have hsz := hb.size
              have hb0 := hb.alloc hsz (.cells #[.int .i64 z1, .int .i64 z2] 35)
              have hsz0 := hb0.size
              clear hT3 hT2 hrx hfx hown2 hb
              go_wp2_with fail
              refine (drop_any ax nx cx T2 z1 z2 T3 _ HRX.out HFX.out HSM2.out HN2.out (by omega) (by omega) (by omega) (by omega) HT3.out).mono ?_; rintro e w6 ⟨v6, rfl, hown6, hb6⟩
              have hb7 := hb0.trans (hb6.mono hsz0)
              have hown7 := hown6.lower (Nat.zero_le _)
              clear hb0 hb6 hown6 hx1 hx2
              go_wp2_with fail
              go_roundw
              case rel => exact ⟨k2 + 1, T3, by omega, by go_num, hown7, HT4, hb7⟩
              case measure => simp [intOf]; omega
            · have hnil : T2 = [] := by
                have h1 : ∀ z, z ∉ nums T2 := fun z hz => by
                  have h2 := (hT2.out.2 z).1 hz
                  rw [List.take_of_length_le (by have := HRps3002.out.1; omega)] at h2
                  exact h2.2 h2.1
                have h3 := norm_len hT2.out.1
                rw [List.eq_nil_iff_forall_not_mem.2 h1] at h3
                exact List.eq_nil_of_length_eq_zero (by simpa using h3)
              subst hnil
              obtain ⟨ax, nx, cx, rfl, hfx, hrx⟩ := hown2.form
              have hnx : nx = 0 := hrx.1
              subst hnx
              clear hT2 hrx hfx hown2
              have HL4001 := Lib.hid (HL3001.out.below hb)
              clear HL3001
              have HRps4002 := Lib.hid (HRps3002.out.below hb)
              clear HRps3002
              have HRpi4003 := Lib.hid (HRpi3003.out.below hb)
              clear HRpi3003
              have HRu4004 := Lib.hid (HRu3005.out.below hb)
              clear HRu3005
              have HB4005 := Lib.hid (HB3004.out.trans (hb.mono HB3004.out.size))
              clear HB3004
              clear hb
              go_wp2_with fail
              refine (is_any au nu cu T api npi cpi Ap _ HRu4004.out HSMT.out HTS.out.1 HRpi4003.out HTA.out).mono ?_; rintro e x4001 ⟨rfl, hb4001⟩
              have HL4006 := Lib.hid (HL4001.out.below hb4001)
              clear HL4001
              have HRps4007 := Lib.hid (HRps4002.out.below hb4001)
              clear HRps4002
              have HRpi4008 := Lib.hid (HRpi4003.out.below hb4001)
              clear HRpi4003
              have HRu4009 := Lib.hid (HRu4004.out.below hb4001)
              clear HRu4004
              have HB4010 := Lib.hid (HB4005.out.trans (hb4001.mono HB4005.out.size))
              clear HB4005
              go_wp2_with fail
              go_ret
              exact ⟨rfl, HB4010.out⟩

theorem own : ownKnob Try.prog.godebug = none := by kernel_rfl
theorem laidOut : laidOutB Try.prog = true := by kernel_rfl

set_option maxRecDepth 100000 in
theorem lifted (os : Os) (started : os.Started) (H : Type) (enc : TypeId × Value → H) :
    ReturnsInHanded {} Try.checked os 7 .any (Rows.spanOrderSpec.pre6 enc Try.prog Try.f7 Rows.spanOrderRow.domain false) (Rows.spanOrderSpec.post enc Try.prog Try.f7 false true false false) := by
  refine Base.law_lifted (C := Try.checked) own started (by kernel_rfl) Try.func7 laidOut (by kernel_rfl) rfl Try.underlying4 rfl ?_
    (ChangeSpec.witness6 (enc := enc) (C := Try.checked) false ⟨#[], #[.slice none 0 0, .slice none 0 0], []⟩ 8 (by kernel_rfl) (by kernel_rfl) (by kernel_rfl) (by kernel_rfl)) ?_
  · intro ds h
    match ds, h with
    | [_d0, _d1], _ => exact ⟨rfl, rfl, rfl⟩
  · intro W base args ds before hval0 hA0 hlt hsz
    have hval : ∀ (j : Nat) t v, Try.f7.params[j]? = some t → args[j]? = some v → Value.okWide Try.prog W .any base t v := hval0
    have hA : DataW.TrodAll enc Try.prog W 0 (fun _ => true) true Try.f7.params.toList args.toList ds before := hA0
    clear hval0 hA0
    rw [Try.params7] at hA hval hsz
    obtain ⟨v0, vs0, d0, ds0, p0, q0, hargs, rfl, rfl, h0, r0⟩ := trodAll_cons hA
    obtain ⟨v1, vs1, d1, ds1, p1, q1, rfl, rfl, rfl, h1, r1⟩ := trodAll_cons r0
    obtain ⟨rfl, rfl, rfl⟩ := trodAll_nil r1
    obtain rfl : args = #[v0, v1] := by cases args; simp_all
    obtain ⟨a0, w0⟩ := Base.open_pairs Try.underlying22 Try.underlying35 (by kernel_rfl) rfl rfl rfl rfl Try.underlying3 (by kernel_rfl) (hval 0 22 v0 rfl rfl) h0 (fun x hx => hlt x (by simp [hx]))
    obtain ⟨a1, w1⟩ := Base.open_int_slice Try.underlying24 Try.underlying3 (by kernel_rfl) (by kernel_rfl) (hval 1 24 v1 rfl rfl) h1 (fun x hx => hlt x (by simp [hx])) (Base.sized_at hsz (j := 1) rfl rfl)
    exact walk W v0 a0 w0 v1 a1 w1

theorem over : Rows.spanOrderRow.holds Try.pinned (OpenSpec.ofChange Rows.spanOrderSpec) :=
  OpenClaim.holds_of_wide 7 Try.f7 rfl rfl rfl rfl rfl rfl rfl ⟨rfl, rfl, rfl, rfl, rfl⟩ rfl rfl rfl rfl rfl (by kernel_rfl) Try.func7 (by kernel_rfl)
    (of_decide_eq_true (by kernel_rfl)) (by unfold Func.isWrapper; first | (rw [if_pos (by decide +kernel)]; kernel_rfl) | (rw [if_neg (by decide +kernel)]; exact ⟨rfl, rfl⟩))
    (fun os started H enc _ => lifted os started H enc)

theorem proved : Rows.SpanOrderSaid :=
  over
#print axioms proved
end Go.Proofs.Ytippbgbjldgahaa.spanOrder
