/-
  RingFull is proved: a row that is filled, emptied, and filled again, has what it should, over its end, too; for every input the law returns true.
-/
import Derived.Test.YtbeejmkfldmjjaaBase
import Derived.Test.YtbeejmkfldmjjaaLaw04I
import Derived.Test.YtbeejmkfldmjjaaViewR
import Derived.Laws.BitsLemmas
import Derived.IntWalk
namespace Go.Proofs.Ytbeejmkfldmjjaa.ringFull
open Go.ChangeShapes Go.WideShapes Go.ChangeAt Go.RowKit
set_option linter.unusedVariables false      -- a walk need not use every bound of an argument

open RingI View

theorem and31 (n : Int) : bits .and .i64 n 31 = n % 32 := by
  have h31 : (BitVec.ofInt 64 31).toNat = 2 ^ 5 - 1 := by decide
  have key : (BitVec.ofInt 64 n &&& BitVec.ofInt 64 31).toNat = (n % ((2 ^ 64 : Nat) : Int)).toNat % 2 ^ 5 := by
    rw [BitVec.toNat_and, BitVec.toNat_ofInt, h31, Nat.and_two_pow_sub_one_eq_mod]
  show IntKind.i64.wrap ((BitVec.ofInt 64 n &&& BitVec.ofInt 64 31).toNat : Nat) = n % 32
  rw [key, IntKind.wrap_i64]
  omega
def seqL (p k : Nat) : List Int := (List.range k).map fun i => ((p + i : Nat) : Int)
theorem seq_len (p k : Nat) : (seqL p k).length = k := by simp [seqL]
theorem seq_zero (p : Nat) : seqL p 0 = [] := rfl
theorem seq_put (most p k N : Nat) (hN : N = p + k) (hk : k < most) : putRow most (seqL p k) (N : Int) = seqL p (k + 1) := by
  rw [putRow, if_pos (by rw [seq_len]; exact hk), hN]
  simp [seqL, List.range_succ]
theorem seq_full (most p k : Nat) (v : Int) (hk : ¬ k < most) : putRow most (seqL p k) v = seqL p k := by
  rw [putRow, if_neg (by rw [seq_len]; exact hk)]
theorem seq_cons (p k : Nat) : seqL p (k + 1) = (p : Int) :: seqL (p + 1) k := by
  simp only [seqL, List.range_succ_eq_map, List.map_cons, List.map_map]
  congr 1
  refine List.map_congr_left fun i _ => ?_
  simp only [Function.comp]
  omega

set_option maxRecDepth 100000 in
set_option maxHeartbeats 4000000 in
theorem walk (w : World) (a0 : Int) (w0 : (Lit.int .i64 a0).wf = true) (v1 : Value) (T : List Int) (w1 : Base.IntSlice .i64 8 w v1 T) :
    Calls Try.prog 5 #[.int .i64 a0, v1] w fun e w' => e = .returned (.bool true) ∧ Below w.heap.size w w' := by
  obtain ⟨x1, x2⟩ := bounds_i64 w0
  obtain ⟨a, cap, rfl, hr, hb64, hl64⟩ := rd_ints w1
  obtain ⟨M, hM⟩ : ∃ M, T.length = M := ⟨_, rfl⟩
  rw [hM] at hr hl64 ⊢
  have HT := Lib.hid hr
  clear hr hb64 hM w0 w1
  go_enter Try.func5, Try.ntmps5
  go_wp2_with fail
  refine (awake_any _).mono ?_; rintro e x1 ⟨rfl, hb1⟩
  go_wp2_with fail
  rw [and31]
  obtain ⟨mm, hmm, hm1, hm2⟩ : ∃ mm : Nat, wrap64 (1 + a0 % 32) = (mm : Int) ∧ 1 ≤ mm ∧ mm ≤ 32 := ⟨(1 + a0 % 32).toNat, by unfold wrap64; omega, by omega, by omega⟩
  rw [hmm]
  clear hmm x2
  refine (new_own w x1 w.heap.size mm mm (by omega) hb1 hb1.size).mono ?_; rintro e x2 ⟨R, rfl, _, h2⟩
  go_wp2_with fail
  go_loopw [6, 7, 8] (fun u6 u7 u8 wr => ∃ (i p k N : Nat) (G : Option Nat), i ≤ 40 ∧ Hid (N = p + k) ∧ N ≤ 31 * i ∧ k ≤ mm ∧ u6 = .int .i64 (N : Int) ∧ u7 = .int .i64 (p : Int) ∧ u8 = .int .i64 (i : Int) ∧ Hid (Mine w w.heap.size R mm (seqL p k) G wr)) (fun _ _ u8 _ => 40 - (intOf u8).toNat)
  case atStart => exact ⟨0, 0, 0, 0, none, Nat.zero_le _, Lib.hid rfl, Nat.zero_le _, Nat.zero_le _, rfl, rfl, rfl, Lib.hid h2⟩
  case round =>
    obtain ⟨i, p, k, N, G, hi, hN, hN31, hk, rfl, rfl, rfl, hm⟩ := hrel
    have hb0 := hm.out.1
    by_cases hgo : i < M ∧ i < 40
    · obtain ⟨hg1, hg2⟩ := hgo
      have hd1 : decide (i < M) = true := decide_eq_true hg1
      have hd2 : decide ((i : Int) < 40) = true := decide_eq_true (by omega)
      have hi0 : (0 : Int) ≤ (i : Int) := by omega
      have hin : (i : Int) < (M : Int) := by omega
      obtain ⟨b, off, rfl, _, hc⟩ := (HT.out.below hb0).at_ hg1
      obtain ⟨y, hy⟩ : ∃ y, T.getD i 0 = y := ⟨_, rfl⟩
      rw [hy] at hc
      have HY := Lib.hid hy
      clear hy hb0
      go_wp2_with fail
      rw [and31]
      obtain ⟨c, hcc, hc31⟩ : ∃ c : Nat, y % 32 = (c : Int) ∧ c ≤ 31 := ⟨(y % 32).toNat, by omega, by omega⟩
      rw [hcc]
      clear hcc hc
      go_loopw [6, 35] (fun u6 u35 wr => ∃ (j k' N' : Nat) (G : Option Nat), j ≤ c ∧ Hid (N' = p + k') ∧ N' ≤ 31 * i + j ∧ k' ≤ mm ∧ u6 = .int .i64 (N' : Int) ∧ u35 = .int .i64 (j : Int) ∧ Hid (Mine w w.heap.size R mm (seqL p k') G wr)) (fun _ u35 _ => c - (intOf u35).toNat)
      case atStart => exact ⟨0, k, N, G, Nat.zero_le _, hN, hN31, hk, rfl, rfl, hm⟩
      case round =>
        obtain ⟨j, k', N', G', hj, hN', hN31', hk', rfl, rfl, hm'⟩ := hrel
        by_cases hlt : j < c
        · have hs1 : wrap64 ((N' : Int) - (p : Int)) = (k' : Int) := by have := hN'.out; unfold wrap64; omega
          have hs2 : IntKind.i64.wrap ((N' : Int) - (p : Int)) = (k' : Int) := by have := hN'.out; rw [IntKind.wrap_i64]; omega
          by_cases hf : k' < mm
          · go_wp2_with fail
            refine (put_own (N' : Int) hm'.out).mono ?_; rintro e x3 ⟨rfl, G2, hm3, _, _⟩
            rw [show fullCode mm (seqL p k') = 0 from if_pos (by rw [seq_len]; exact hf)]
            rw [seq_put mm p k' N' hN'.out hf] at hm3
            have hm4 := Lib.hid hm3
            clear hm3
            go_wp2_with fail
            go_roundw
            case rel => exact ⟨j + 1, k' + 1, N' + 1, G2, by omega, Lib.hid (by have := hN'.out; omega), by omega, by omega, by go_num, by go_num, hm4⟩
            case measure => simp [intOf]; omega
          · go_wp2_with fail
            refine (put_own (N' : Int) hm'.out).mono ?_; rintro e x3 ⟨rfl, G2, hm3, _, _⟩
            rw [show fullCode mm (seqL p k') = 7 from if_neg (by rw [seq_len]; exact hf)]
            rw [seq_full mm p k' N' hf] at hm3
            have hm4 := Lib.hid hm3
            clear hm3
            go_wp2_with fail
            go_roundw
            case rel => exact ⟨j + 1, k', N', G2, by omega, hN', by omega, by omega, rfl, by go_num, hm4⟩
            case measure => simp [intOf]; omega
        · obtain ⟨_, _, ez, _, hc⟩ := (HT.out.below hm'.out.1).at_ hg1
          cases ez
          rw [HY.out] at hc
          go_wp2_with fail
          rw [and31]
          obtain ⟨c2, hcc2, hc231⟩ : ∃ c2 : Nat, y / 32 % 32 = (c2 : Int) ∧ c2 ≤ 31 := ⟨(y / 32 % 32).toNat, by omega, by omega⟩
          rw [hcc2]
          clear hcc2 hc
          go_loopw [7, 61] (fun u7 u61 wr => ∃ (j2 p2 k2 : Nat) (G : Option Nat), j2 ≤ c2 ∧ Hid (N' = p2 + k2) ∧ k2 ≤ mm ∧ u7 = .int .i64 (p2 : Int) ∧ u61 = .int .i64 (j2 : Int) ∧ Hid (Mine w w.heap.size R mm (seqL p2 k2) G wr)) (fun _ u61 _ => c2 - (intOf u61).toNat)
          case atStart => exact ⟨0, p, k', G', Nat.zero_le _, hN', hk', rfl, rfl, hm'⟩
          case round =>
            obtain ⟨j2, p2, k2, G3, hj2, hN2, hk2, rfl, rfl, hm2'⟩ := hrel
            by_cases hlt2 : j2 < c2
            · cases k2 with
              | zero =>
                have hpn : ¬ (p2 < N') := by have := hN2.out; omega
                have hpn2 : decide (p2 < N') = false := decide_eq_false hpn
                go_wp2_with fail
                refine (take_own hm2'.out).mono ?_; rintro e x3 ⟨rfl, hm3, _⟩
                rw [show noneCode (seqL p2 0) = 9 from rfl, show enc (headRow (seqL p2 0)) = .int .i64 0 from rfl]
                have hm4 : Hid (Mine w w.heap.size R mm (seqL p2 0) G3 x3) := Lib.hid hm3
                clear hm3
                go_wp2_with fail
                go_roundw
                case rel => exact ⟨j2 + 1, p2, 0, G3, by omega, hN2, by omega, rfl, by go_num, hm4⟩
                case measure => simp [intOf]; omega
              | succ k2 =>
                have hpn : p2 < N' := by have := hN2.out; omega
                have hpn2 : decide (p2 < N') = true := decide_eq_true hpn
                have hp9 : p2 ≤ 2000 := by omega
                go_wp2_with fail
                refine (take_own hm2'.out).mono ?_; rintro e x3 ⟨rfl, hm3, _⟩
                rw [show noneCode (seqL p2 (k2 + 1)) = 0 from by rw [seq_cons]; rfl, show enc (headRow (seqL p2 (k2 + 1))) = .int .i64 (p2 : Int) from by rw [seq_cons]; rfl]
                have hm4 : Hid (Mine w w.heap.size R mm (seqL (p2 + 1) k2) G3 x3) := Lib.hid (by rw [seq_cons] at hm3; exact hm3)
                clear hm3
                go_wp2_with fail
                go_roundw
                case rel => exact ⟨j2 + 1, p2 + 1, k2, G3, by omega, Lib.hid (by have := hN2.out; omega), by omega, by go_num, by go_num, hm4⟩
                case measure => simp [intOf]; omega
            · have hs1 : wrap64 ((N' : Int) - (p2 : Int)) = (k2 : Int) := by have := hN2.out; unfold wrap64; omega
              have hs2 : IntKind.i64.wrap ((N' : Int) - (p2 : Int)) = (k2 : Int) := by have := hN2.out; rw [IntKind.wrap_i64]; omega
              obtain ⟨d, hd⟩ : ∃ d : Nat, (mm : Int) - (k2 : Int) = (d : Int) := ⟨mm - k2, by omega⟩
              have hs3 : wrap64 ((mm : Int) - (k2 : Int)) = (d : Int) := by unfold wrap64; omega
              have hs4 : IntKind.i64.wrap ((mm : Int) - (k2 : Int)) = (d : Int) := by rw [IntKind.wrap_i64]; omega
              have HD9 := Lib.hid hd
              clear hd
              go_wp2_with fail
              refine (len_own hm2'.out).mono ?_; rintro e x3 ⟨rfl, rfl⟩
              rw [seq_len]
              go_wp2_with fail
              refine (room_own hm2'.out).mono ?_; rintro e x3 ⟨rfl, hm3⟩
              rw [seq_len, HD9.out]
              have hm4 := Lib.hid hm3
              clear hm3
              go_wp2_with fail
              go_roundw
              case rel => exact ⟨i + 1, p2, k2, N', G3, by omega, hN2, by omega, by omega, rfl, rfl, by go_num, hm4⟩
              case measure => simp [intOf]; omega
    · have hcase : decide (i < M) = false ∨ (decide (i < M) = true ∧ decide ((i : Int) < 40) = false) := by
        by_cases h1 : i < M
        · exact .inr ⟨decide_eq_true h1, decide_eq_false (by omega)⟩
        · exact .inl (decide_eq_false h1)
      clear hgo hi
      rcases hcase with hd1 | ⟨hd1, hd2⟩
      all_goals
        go_wp2_with fail
        go_ret
        exact ⟨rfl, hm.out.1⟩

theorem own : ownKnob Try.prog.godebug = none := by kernel_rfl
theorem laidOut : laidOutB Try.prog = true := by kernel_rfl

set_option maxRecDepth 100000 in
theorem lifted (os : Os) (started : os.Started) (H : Type) (enc : TypeId × Value → H) :
    ReturnsInHanded {} Try.checked os 5 .any (Rows.ringFullSpec.pre6 enc Try.prog Try.f5 Rows.ringFullRow.domain false) (Rows.ringFullSpec.post enc Try.prog Try.f5 false true false false) := by
  refine Base.law_lifted (C := Try.checked) own started (by kernel_rfl) Try.func5 laidOut (by kernel_rfl) rfl Try.underlying4 rfl ?_
    (ChangeSpec.witness6 (enc := enc) (C := Try.checked) false ⟨#[], #[.int .i64 0, .slice none 0 0], []⟩ 8 (by kernel_rfl) (by kernel_rfl) (by kernel_rfl) (by kernel_rfl)) ?_
  · intro ds h
    match ds, h with
    | [_d0, _d1], _ => exact ⟨rfl, rfl, rfl⟩
  · intro W base args ds before hval0 hA0 hlt hsz
    have hval : ∀ (j : Nat) t v, Try.f5.params[j]? = some t → args[j]? = some v → Value.okWide Try.prog W .any base t v := hval0
    have hA : DataW.TrodAll enc Try.prog W 0 (fun _ => true) true Try.f5.params.toList args.toList ds before := hA0
    clear hval0 hA0
    rw [Try.params5] at hA hval hsz
    obtain ⟨v0, vs0, d0, ds0, p0, q0, hargs, rfl, rfl, h0, r0⟩ := trodAll_cons hA
    obtain ⟨v1, vs1, d1, ds1, p1, q1, rfl, rfl, rfl, h1, r1⟩ := trodAll_cons r0
    obtain ⟨rfl, rfl, rfl⟩ := trodAll_nil r1
    obtain rfl : args = #[v0, v1] := by cases args; simp_all
    obtain ⟨a0, rfl, rfl, rfl, w0⟩ := open_int Try.underlying3 (hval 0 3 v0 rfl rfl) h0
    obtain ⟨a1, w1⟩ := Base.open_int_slice Try.underlying26 Try.underlying3 (by kernel_rfl) (by kernel_rfl) (hval 1 26 v1 rfl rfl) h1 (fun x hx => hlt x (by simp [hx])) (Base.sized_at hsz (j := 1) rfl rfl)
    exact walk W a0 w0 v1 a1 w1

theorem over : Rows.ringFullRow.holds Try.pinned (OpenSpec.ofChange Rows.ringFullSpec) :=
  OpenClaim.holds_of_wide 5 Try.f5 rfl rfl rfl rfl rfl rfl rfl ⟨rfl, rfl, rfl, rfl, rfl⟩ rfl rfl rfl rfl rfl (by kernel_rfl) Try.func5 (by kernel_rfl)
    (of_decide_eq_true (by kernel_rfl)) (by unfold Func.isWrapper; first | (rw [if_pos (by decide +kernel)]; kernel_rfl) | (rw [if_neg (by decide +kernel)]; exact ⟨rfl, rfl⟩))
    (fun os started H enc _ => lifted os started H enc)

theorem proved : Rows.RingFullSaid :=
  over
#print axioms proved
end Go.Proofs.Ytbeejmkfldmjjaa.ringFull
