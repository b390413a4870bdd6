/-
  PipeRoom is proved: as many frames are there as were put and not taken, never more than may be; for every input the law returns true.
-/
import Derived.Test.YtoeoigclleijmaaBase
import Derived.Test.YtoeoigclleijmaaPipe3
import Derived.Test.YtoeoigclleijmaaViewR
import Derived.Laws.BitsLemmas
import Derived.IntWalk
import Derived.Deep.DeepCutAuto
namespace Go.Proofs.Ytoeoigclleijmaa.pipeRoom
open Go.ChangeShapes Go.WideShapes Go.ChangeAt Go.RowKit
set_option linter.unusedVariables false      -- a walk need not use every bound of an argument

open PipeS RingS View TurnP

theorem andK (n : Int) (k m : Nat) (m' : Int) (hm : m = 2 ^ k) (hm' : m' = (m : Int) - 1) (hk : k ≤ 20) (hh : (BitVec.ofInt 64 m').toNat = 2 ^ k - 1) : bits .and .i64 n m' = n % (m : Int) := by
  have key : (BitVec.ofInt 64 n &&& BitVec.ofInt 64 m').toNat = (n % ((2 ^ 64 : Nat) : Int)).toNat % 2 ^ k := by
    rw [BitVec.toNat_and, BitVec.toNat_ofInt, hh, Nat.and_two_pow_sub_one_eq_mod]
  have hp : 2 ^ k ≤ 2 ^ 20 := Nat.pow_le_pow_right (by omega) hk
  have hp0 : 0 < 2 ^ k := Nat.two_pow_pos k
  show IntKind.i64.wrap ((BitVec.ofInt 64 n &&& BitVec.ofInt 64 m').toNat : Nat) = n % (m : Int)
  rw [key, IntKind.wrap_i64, hm]
  have hd : ((2 ^ k : Nat) : Int) ∣ ((2 ^ 64 : Nat) : Int) := by
    exact Int.natCast_dvd_natCast.2 (Nat.pow_dvd_pow 2 (by omega))
  have h1 : (((n % ((2 ^ 64 : Nat) : Int)).toNat % 2 ^ k : Nat) : Int) = n % ((2 ^ k : Nat) : Int) := by
    rw [Int.natCast_emod, Int.toNat_of_nonneg (Int.emod_nonneg _ (by decide)), Int.emod_emod_of_dvd _ hd]
  have h2 : ((n % ((2 ^ 64 : Nat) : Int)).toNat % 2 ^ k) < 2 ^ k := Nat.mod_lt _ hp0
  rw [← h1]
  omega
theorem and31 (n : Int) : bits .and .i64 n 31 = n % 32 := andK n 5 32 31 rfl rfl (by omega) (by decide)
theorem and1 (n : Int) : bits .and .i64 n 1 = n % 2 := andK n 1 2 1 rfl rfl (by omega) (by decide)
theorem sub_wrap (m n : Nat) (h : m ≤ 4096) (hn : n ≤ m) : ∃ d : Nat, (m : Int) - ((n : Nat) : Int) = (d : Int) ∧ wrap64 ((m : Int) - ((n : Nat) : Int)) = (d : Int) ∧ IntKind.i64.wrap ((m : Int) - ((n : Nat) : Int)) = (d : Int) ∧ d + n = m :=
  ⟨m - n, by omega, by unfold wrap64; omega, by rw [IntKind.wrap_i64]; omega, by omega⟩

structure Inv (i n p c h : Nat) (L : List V) : Prop where
  len : L.length = n
  sum : p = c + h + n
  le : p ≤ i
  small : ∀ y ∈ L, y.size ≤ 1000
theorem Inv.put {i n p c h : Nat} {y : V} {L : List V} (hI : Inv i n p c h L) (hs : y.size ≤ 1000) : Inv (i + 1) (n + 1) (p + 1) c h (L ++ [y]) :=
  ⟨by rw [List.length_append, hI.len]; rfl, by have := hI.sum; omega, by have := hI.le; omega, fun z hz => by
    rcases List.mem_append.1 hz with hz | hz
    · exact hI.small z hz
    · rw [List.mem_singleton] at hz; subst hz; exact hs⟩
theorem Inv.keep {i n p c h : Nat} {L : List V} (hI : Inv i n p c h L) : Inv (i + 1) n p c h L := ⟨hI.len, hI.sum, by have := hI.le; omega, hI.small⟩
theorem Inv.take {i n p c h : Nat} {y : V} {L : List V} {b : Bool} (hI : Inv i (n + 1) p c h (y :: L)) : Inv (i + 1) n p (if b then c + 1 else c) (if b then h else h + 1) L :=
  ⟨by have := hI.len; simpa using this, by have := hI.sum; cases b <;> simp <;> omega, by have := hI.le; omega, fun z hz => hI.small z (List.mem_cons_of_mem _ hz)⟩

set_option maxRecDepth 100000 in
set_option maxHeartbeats 4000000 in
theorem walk (w : World) (a0 : Int) (w0 : (Lit.int .i64 a0).wf = true) (v1 : Value) (T : List Int) (w1 : Base.IntSlice .i64 8 w v1 T) :
    Calls Try.prog 6 #[.int .i64 a0, v1] w fun e w' => e = .returned (.bool true) ∧ Below w.heap.size w w' := by
  obtain ⟨x1, x2⟩ := bounds_i64 w0
  obtain ⟨a, cap, rfl, hr, hb64, hl64⟩ := rd_ints w1
  obtain ⟨M, hM⟩ : ∃ M, T.length = M := ⟨_, rfl⟩
  rw [hM] at hr hl64 ⊢
  have HT := Lib.hid hr
  clear hr hb64 hM w0 w1
  go_enter Try.func6, Try.ntmps6
  go_wp2_with fail
  refine (awake_any _).mono ?_; rintro e x1 ⟨rfl, hb1⟩
  go_wp2_with fail
  rw [and31]
  obtain ⟨mm, hmm, hm1, hm2⟩ : ∃ mm : Nat, wrap64 (1 + a0 % 32) = (mm : Int) ∧ 1 ≤ mm ∧ mm ≤ 32 := ⟨(1 + a0 % 32).toNat, by unfold wrap64; omega, by omega, by omega⟩
  rw [hmm]
  clear hmm x2
  refine (pnew_any w x1 w.heap.size mm mm (by omega) hb1 hb1.size).mono ?_; rintro e x2 ⟨B, R, rfl, _, _, h2⟩
  go_wp2_with fail
  go_loopw [6, 7] (fun u6 u7 wr => ∃ (i n p c h : Nat) (L : List V) (G : Option Nat), i ≤ 60 ∧ n ≤ mm ∧ u6 = .int .i64 (n : Int) ∧ u7 = .int .i64 (i : Int) ∧ Hid (PAt w w.heap.size B R mm L G p c h wr) ∧ Hid (Inv i n p c h L)) (fun _ u7 _ => 60 - (intOf u7).toNat)
  case atStart => exact ⟨0, 0, 0, 0, 0, [], none, Nat.zero_le _, Nat.zero_le _, rfl, rfl, Lib.hid h2, Lib.hid ⟨rfl, rfl, Nat.le_refl _, fun y hy => by cases hy⟩⟩
  case round =>
    obtain ⟨i, n, p, c, h, L, G, hi, hnm, rfl, rfl, HM, HI⟩ := hrel
    have hb0 := HM.out.mine.1
    by_cases hgo : i < M ∧ i < 60
    · obtain ⟨hg1, hg2⟩ := hgo
      have hd1 : decide (i < M) = true := decide_eq_true hg1
      have hd2 : decide ((i : Int) < 60) = true := decide_eq_true (by omega)
      have hi0 : (0 : Int) ≤ (i : Int) := by omega
      have hin : (i : Int) < (M : Int) := by omega
      obtain ⟨b, off, rfl, _, hc⟩ := (HT.out.below hb0).at_ hg1
      obtain ⟨y, hy⟩ : ∃ y, T.getD i 0 = y := ⟨_, rfl⟩
      rw [hy] at hc
      obtain ⟨W3, hW3⟩ : ∃ W3, W3 = wr := ⟨_, rfl⟩
      rw [← hW3] at HM hc ⊢
      clear hy hb0 hW3
      go_upto_if 38 with (fail)
      rw [and1]
      go_cut [6] (fun s6 wx => ∃ (n' p' c' h' : Nat) (L' : List V) (G' : Option Nat), n' ≤ mm ∧ s6 = .int .i64 (n' : Int) ∧ Hid (PAt w w.heap.size B R mm L' G' p' c' h' wx) ∧ Hid (Inv (i + 1) n' p' c' h' L'))
      case first => as_aux_lemma =>
        have hcase : y % 2 = 0 ∨ y % 2 = 1 := by omega
        rcases hcase with hy2 | hy2
        · rw [hy2]
          by_cases hf : n < mm
          · have hf2 : (n : Int) < (mm : Int) := by omega
            have hmin : min ((n : Int) + 1) (mm : Int) = ((n + 1 : Nat) : Int) := by omega
            go_wp2_with fail
            refine (pput_any ⟨#[120]⟩ (by have := HI.out.le; omega) HM.out).mono ?_; rintro e W4 ⟨rfl, G4, h4, _, _⟩
            have hlf : L.length < mm := by rw [HI.out.len]; exact hf
            rw [show fullCode mm L = 0 from if_pos hlf]
            rw [show putRow mm L ⟨#[120]⟩ = L ++ [⟨#[120]⟩] from if_pos hlf, if_pos hlf] at h4
            have H4 := Lib.hid h4
            clear h4 hlf
            go_wp2_with fail
            go_meet
            exact ⟨n + 1, p + 1, c, h, _, G4, by omega, by first | rfl | go_num, H4, Lib.hid (HI.out.put (by decide))⟩
          · obtain rfl : n = mm := by omega
            go_wp2_with fail
            refine (pput_any ⟨#[120]⟩ (by have := HI.out.le; omega) HM.out).mono ?_; rintro e W4 ⟨rfl, G4, h4, _, _⟩
            have hlf : ¬ L.length < n := by rw [HI.out.len]; exact hf
            rw [show fullCode n L = 7 from if_neg hlf]
            rw [show putRow n L ⟨#[120]⟩ = L from if_neg hlf, if_neg hlf] at h4
            have H4 := Lib.hid h4
            clear h4 hlf
            go_wp2_with fail
            go_meet
            exact ⟨n, p, c, h, _, G4, by omega, by first | rfl | go_num, H4, Lib.hid HI.out.keep⟩
        · rw [hy2]
          obtain ⟨c2, hcc2⟩ : ∃ c2 : Int, y / 2 % 2 = c2 := ⟨_, rfl⟩
          rcases L with _ | ⟨x, L⟩
          · obtain rfl : n = 0 := by have := HI.out.len; simpa using this.symm
            go_wp2_with fail
            rw [and1, hcc2]
            refine (ptake_none c2 0 0 HM.out).mono ?_; rintro e W4 ⟨rfl, h4, _⟩
            have H4 := Lib.hid h4
            clear h4
            go_wp2_with fail
            go_meet
            exact ⟨0, p, c, h, _, G, by omega, by first | rfl | go_num, H4, Lib.hid HI.out.keep⟩
          · obtain ⟨k, rfl⟩ : ∃ k, n = k + 1 := ⟨L.length, by have := HI.out.len; simpa using this.symm⟩
            have hk1 : ((k + 1 : Nat) : Int) = (k : Int) + 1 := by omega
            have hk0 : (0 : Int) < (k : Int) + 1 := by omega
            have hmx : max ((k : Int) + 1 - 1) 0 = (k : Int) := by omega
            have hmy : max (k : Int) 0 = (k : Int) := by omega
            go_wp2_with fail
            rw [and1, hcc2]
            refine (ptake_any c2 0 0 (HI.out.small x (by simp)) (by decide) (by decide) (by decide) (by decide) (by have h1 := HI.out.le; have h2 := HI.out.sum; omega) (by have h1 := HI.out.le; have h2 := HI.out.sum; omega) HM.out).mono ?_; rintro e W4 ⟨rfl, h4, _⟩
            have H4 := Lib.hid h4
            clear h4
            go_wp2_with fail
            go_meet
            exact ⟨k, p, _, _, _, G, by omega, by first | rfl | go_num, H4, Lib.hid HI.out.take⟩
      case rest => as_aux_lemma =>
        obtain ⟨n', p', c', h', L', G', hn', rfl, HM', HI'⟩ := hcut
        clear HM hc HI
        obtain ⟨c0, _⟩ := HM'.out.cells
        have hs := HI'.out.sum
        have hl := HI'.out.le
        obtain ⟨d1, _, hd4, hd5, hd6⟩ := sub_wrap p' c' (by omega) (by omega)
        obtain ⟨d2, _, hd7, hd8, hd9⟩ := sub_wrap d1 h' (by omega) (by omega)
        obtain ⟨d3, _, hd10, hd11, hd12⟩ := sub_wrap mm n' (by omega) (by omega)
        obtain rfl : d2 = n' := by omega
        have HLN : Hid (L'.length = d2) := Lib.hid HI'.out.len
        have hd13 : wrap64 (d1 : Int) = (d1 : Int) := by unfold wrap64; omega
        clear hs hl hd6 hd9
        go_wp2_with fail
        refine (pcounts_any HM'.out).mono ?_; rintro e W5 ⟨rfl, q5, rfl⟩
        have H5 := Lib.hid (HM'.out.drewN q5)
        clear HM' c0
        generalize wc.drewN q5 = W5 at *
        obtain ⟨c0, _⟩ := H5.out.cells
        go_wp2_with fail
        refine (plen_any H5.out).mono ?_; rintro e W6 ⟨rfl, rfl⟩
        rw [HLN.out]
        go_wp2_with fail
        refine (proom_any H5.out).mono ?_; rintro e W6 ⟨rfl, q6, rfl⟩
        rw [HLN.out]
        have H6 := Lib.hid (H5.out.drewN q6)
        have hdd : ((mm : Int) - (d2 : Int)) = (d3 : Int) := by omega
        rw [hdd]
        clear H5 c0 hdd
        go_wp2_with fail
        go_roundw
        case rel => exact ⟨i + 1, d2, p', c', h', L', G', by omega, by omega, rfl, by go_num, H6, HI'⟩
        case measure => simp [intOf]; omega
    · have hcase : decide (i < M) = false ∨ (decide (i < M) = true ∧ decide ((i : Int) < 60) = false) := by
        by_cases h1 : i < M
        · exact .inr ⟨decide_eq_true h1, decide_eq_false (by omega)⟩
        · exact .inl (decide_eq_false h1)
      clear hgo hi
      rcases hcase with hd1 | ⟨hd1, hd2⟩
      all_goals
        go_wp2_with fail
        go_ret
        exact ⟨rfl, HM.out.mine.1⟩

theorem own : ownKnob Try.prog.godebug = none := by kernel_rfl
theorem laidOut : laidOutB Try.prog = true := by kernel_rfl

set_option maxRecDepth 100000 in
theorem lifted (os : Os) (started : os.Started) (H : Type) (enc : TypeId × Value → H) :
    ReturnsInHanded {} Try.checked os 6 .any (Rows.pipeRoomSpec.pre6 enc Try.prog Try.f6 Rows.pipeRoomRow.domain false) (Rows.pipeRoomSpec.post enc Try.prog Try.f6 false true false false) := by
  refine Base.law_lifted (C := Try.checked) own started (by kernel_rfl) Try.func6 laidOut (by kernel_rfl) rfl Try.underlying4 rfl ?_
    (ChangeSpec.witness6 (enc := enc) (C := Try.checked) false ⟨#[], #[.int .i64 0, .slice none 0 0], []⟩ 8 (by kernel_rfl) (by kernel_rfl) (by kernel_rfl) (by kernel_rfl)) ?_
  · intro ds h
    match ds, h with
    | [_d0, _d1], _ => exact ⟨rfl, rfl, rfl⟩
  · intro W base args ds before hval0 hA0 hlt hsz
    have hval : ∀ (j : Nat) t v, Try.f6.params[j]? = some t → args[j]? = some v → Value.okWide Try.prog W .any base t v := hval0
    have hA : DataW.TrodAll enc Try.prog W 0 (fun _ => true) true Try.f6.params.toList args.toList ds before := hA0
    clear hval0 hA0
    rw [Try.params6] at hA hval hsz
    obtain ⟨v0, vs0, d0, ds0, p0, q0, hargs, rfl, rfl, h0, r0⟩ := trodAll_cons hA
    obtain ⟨v1, vs1, d1, ds1, p1, q1, rfl, rfl, rfl, h1, r1⟩ := trodAll_cons r0
    obtain ⟨rfl, rfl, rfl⟩ := trodAll_nil r1
    obtain rfl : args = #[v0, v1] := by cases args; simp_all
    obtain ⟨a0, rfl, rfl, rfl, w0⟩ := open_int Try.underlying3 (hval 0 3 v0 rfl rfl) h0
    obtain ⟨a1, w1⟩ := Base.open_int_slice Try.underlying51 Try.underlying3 (by kernel_rfl) (by kernel_rfl) (hval 1 51 v1 rfl rfl) h1 (fun x hx => hlt x (by simp [hx])) (Base.sized_at hsz (j := 1) rfl rfl)
    exact walk W a0 w0 v1 a1 w1

theorem over : Rows.pipeRoomRow.holds Try.pinned (OpenSpec.ofChange Rows.pipeRoomSpec) :=
  OpenClaim.holds_of_wide 6 Try.f6 rfl rfl rfl rfl rfl rfl rfl ⟨rfl, rfl, rfl, rfl, rfl⟩ rfl rfl rfl rfl rfl (by kernel_rfl) Try.func6 (by kernel_rfl)
    (of_decide_eq_true (by kernel_rfl)) (by unfold Func.isWrapper; first | (rw [if_pos (by decide +kernel)]; kernel_rfl) | (rw [if_neg (by decide +kernel)]; exact ⟨rfl, rfl⟩))
    (fun os started H enc _ => lifted os started H enc)

theorem proved : Rows.PipeRoomSaid :=
  over
#print axioms proved
end Go.Proofs.Ytoeoigclleijmaa.pipeRoom
