/-
  FrameFlips is proved: a frame's bytes with any bits turned within 32 are told, or the same.
-/
import Derived.Test.YtkjephbfbagckaaDoorLaid
import Derived.Test.YtkjephbfbagckaaDoorCards
import Derived.Test.YtkjephbfbagckaaDoorLaw05
import Derived.Test.YtkjephbfbagckaaDoorFrameTurn
namespace Go.Proofs.YtkjephbfbagckaaDoor.frameFlips
open Go.ChangeShapes Go.WideShapes Go.ChangeAt Go.RowKit
set_option linter.unusedVariables false      -- a walk need not use every bound of an argument

open CrcMath CrcCalls FrameMath FrameCalls Base
theorem open_bits (w : World) (v : Value) (x : Dat) (h : RdV w (.struct [.int .u8, .str, .int .i64, .int .u32]) x v) : ∃ (p : Nat) (a : ByteArray) (at_ mask : Int), v = .agg #[.int .u8 (p : Int), .string a, .int .i64 at_, .int .u32 mask] ∧ p < 256 ∧ -9223372036854775808 ≤ at_ ∧ at_ ≤ 9223372036854775807 ∧ 0 ≤ mask ∧ mask < 4294967296 := by
  obtain ⟨cs, rfl, h⟩ := h
  obtain ⟨l, rfl, h⟩ := rd_struct h
  obtain ⟨d0, r, c0, c, rfl, rfl, h0, h⟩ := rdAll_cons h
  obtain ⟨d1, r, c1, c, rfl, rfl, h1, h⟩ := rdAll_cons h
  obtain ⟨d2, r, c2, c, rfl, rfl, h2, h⟩ := rdAll_cons h
  obtain ⟨d3, r, c3, c, rfl, rfl, h3, h⟩ := rdAll_cons h
  obtain ⟨rfl, rfl⟩ := rdAll_nil h
  obtain ⟨z0, rfl, rfl, w0⟩ := rd_int h0
  obtain ⟨s1, rfl, rfl, w1⟩ := rd_str h1
  obtain ⟨z2, rfl, rfl, w2⟩ := rd_int h2
  obtain ⟨z3, rfl, rfl, w3⟩ := rd_int h3
  have b0 := bounds_u8 w0
  have b2 := bounds_i64 w2
  have b3 := bounds_u32 w3
  exact ⟨z0.toNat, s1, z2, z3, by rw [Int.toNat_of_nonneg b0.1]; rfl, by omega, b2.1, b2.2, b3.1, by omega⟩
theorem same_refl (a : ByteArray) : (a.toList == a.toList) = true := by simp
set_option maxHeartbeats 1000000 in
theorem walk (w : World) (v : Value) (x : Dat) (h0 : RdV w (.struct [.int .u8, .str, .int .i64, .int .u32]) x v) (_hL : laidMetH Tryd.prog Rows.frameFlipsRow.laid w) :
    Calls Tryd.prog 5 #[v] w fun e w' => e = .returned (.bool true) ∧ Below w.heap.size w w' := by
  obtain ⟨p, a, at0, mask, rfl, hp, ha1, ha2, hm1, hm2⟩ := open_bits w v x h0
  clear h0 _hL x
  have hz := zero_run
  obtain ⟨d, hd⟩ : ∃ d, cutL a 200 = d := ⟨_, rfl⟩
  have hds : d.size ≤ 200 := by rw [← hd]; exact (cutL_le a 200).1
  obtain ⟨F, hF⟩ : ∃ F, frameB (UInt8.ofNat p) d = F := ⟨_, rfl⟩
  have hFs : F.size ≤ 300 := by rw [← hF, frameB_size]; have := cellsN_room d.size; omega
  obtain ⟨at_, hat⟩ : ∃ at_, max (-40) (min at0 (8 * (F.size : Int) + 4)) = at_ := ⟨_, rfl⟩
  have hat1 : -1000 ≤ at_ := by omega
  have hat2 : at_ ≤ 100000 := by omega
  obtain ⟨T, hT0⟩ : ∃ T, turnB F mask at_ = T := ⟨_, rfl⟩
  have hTs : T.size ≤ 300 := by rw [← hT0, turnB_size]; exact hFs
  have hTT : turnB T mask at_ = F := by rw [← hT0]; exact turnB_twice F mask at_
  have hP : T.toList ≠ F.toList → parseL T.data.toList = (0, [], 4) := by
    rw [← hT0, ← hF]; exact parse_turned _ _ _ _
  have HF := Lib.hid hF
  have HT0 := Lib.hid hT0
  have HTT := Lib.hid hTT
  have HP := Lib.hid hP
  have HM1 := Lib.hid hm1
  have HM2 := Lib.hid hm2
  have HFS := Lib.hid hFs
  have HTS := Lib.hid hTs
  have hsame := same_refl F
  have hsame2 := same_refl T
  clear hF hT0 hTT hP hTs
  go_enter Tryd.func5, Tryd.ntmps5
  go_wp2_with fail
  refine (awake_any _).mono ?_; rintro e w1 ⟨rfl, hb1⟩
  have hb0 : Below w.heap.size w w1 := ((Below.refl w.heap.size w).alloc (Nat.le_refl _) _).trans (hb1.mono (by simp))
  have hg1 : w1.heap[w.heap.size]? = some (.cells #[.int .u8 (p : Int), .string a, .int .i64 at0, .int .u32 mask] 46 (0, 0)) := (hb1.block _ (by simp)).trans (heap_alloc_new w _)
  have hs0 := hb0.size
  clear hb1
  have k0 : w1.cell? ⟨w.heap.size, 0, none⟩ = some (.int .u8 (p : Int)) := Go.Joins.cell_of_block hg1 0
  have k1 : w1.cell? ⟨w.heap.size, 1, none⟩ = some (.string a) := Go.Joins.cell_of_block hg1 1
  have k2 : w1.cell? ⟨w.heap.size, 2, none⟩ = some (.int .i64 at0) := Go.Joins.cell_of_block hg1 2
  have k3 : w1.cell? ⟨w.heap.size, 3, none⟩ = some (.int .u32 mask) := Go.Joins.cell_of_block hg1 3
  go_wp2_with fail
  go_quiet (fail)
  have hb1 : Below w.heap.size w (w1.drewN nq) := below_drewN hb0 _
  have k1' : (w1.drewN nq).cell? ⟨w.heap.size, 1, none⟩ = some (.string a) := by simpa using k1
  have hs1 := hb1.size
  generalize w1.drewN nq = w1' at *
  clear k0 k1 k2 k3 hg1 hb0 hs0
  go_wp2_with fail
  refine (cut_any _ _ 200 _ rfl).mono ?_; rintro e w' ⟨rfl, rfl⟩
  rw [hd]
  go_wp2_with fail
  refine (make_any _).mono ?_; rintro e w2 ⟨rfl, hb2⟩
  go_wp2_with (refine wpList_store_row rfl 26 _ _ rfl _ table rfl rfl 26 zeros (heap_alloc_last _ _) (by rw [table_size]; exact tableInfo) (by rw [table_size, zeros_size]) table_cells ?_; rw [World.setRow_alloc_new])
  have hT := Lib.hid (tab_new w2 26)
  have hb3 : Below w.heap.size w (w2.alloc (.cells table 26)) := (hb1.trans (hb2.mono hs1)).alloc (Nat.le_trans hs1 hb2.size) _
  have hs3 := hb3.size
  clear hb1 hb2 k1'
  generalize w2.heap.size = B at *
  generalize w2.alloc (.cells table 26) = w3 at *
  refine (bytes_frame B p hp d _ hT.out (by omega)).mono ?_
  rintro e w4 ⟨rfl, hb4⟩
  rw [HF.out]
  have hT4 := Lib.hid (hT.out.below hb4)
  have hb4' := hb3.trans (hb4.mono hs3)
  have hs4 := hb4'.size
  clear hb4 hb3 hs3 hT
  go_wp2_with fail
  refine (flipf_any F at_ mask _ (by have := HFS.out; omega) hat1 hat2 HM1.out HM2.out).mono ?_
  rintro e w5 ⟨rfl, hb5⟩
  rw [HT0.out]
  have hT5 := Lib.hid (hT4.out.below hb5)
  have hb5' := hb4'.trans (hb5.mono hs4)
  have hs5 := hb5'.size
  clear hb5 hb4' hs4 hT4
  go_wp2_with fail
  refine (turnf_any F at_ mask _ (by have := HFS.out; omega) hat1 hat2 HM1.out HM2.out).mono ?_
  rintro e w6 ⟨rfl, hb6⟩
  rw [HT0.out]
  have hT6 := Lib.hid (hT5.out.below hb6)
  have hb6' := hb5'.trans (hb6.mono hs5)
  have hs6 := hb6'.size
  clear hb6 hb5' hs5 hT5
  go_wp2_with fail
  refine (flipf_any T at_ mask _ (by have := HTS.out; omega) hat1 hat2 HM1.out HM2.out).mono ?_
  rintro e w7 ⟨rfl, hb7⟩
  rw [HTT.out]
  have hT7 := Lib.hid (hT6.out.below hb7)
  have hb7' := hb6'.trans (hb7.mono hs6)
  have hs7 := hb7'.size
  clear hb7 hb6' hs6 hT6
  go_wp2_with fail
  by_cases hTF : T.toList = F.toList
  · have hTF2 : T = F := by rw [ByteArray.toList_eq, ByteArray.toList_eq] at hTF; exact ByteArray.ext (Array.ext' hTF)
    refine (parse_backN B p hp d T _ hT7.out (by rw [hTF2]; exact HF.out) (by omega)).mono ?_
    rintro e w8 ⟨rfl, hb8⟩
    have hb8' := hb7'.trans (hb8.mono hs7)
    have hq : (T.toList == F.toList) = true := by rw [hTF]; exact hsame
    clear hb8 hb7' hTF hTF2
    have hdd := same_refl d
    go_wp2_with fail
    all_goals go_ret
    exact ⟨rfl, hb8'.alloc hb8'.size _⟩
  · have hpe := HP.out hTF
    have hpa := parse_any B T w7 hT7.out (by have := HTS.out; omega)
    rw [hpe] at hpa
    refine Calls.mono (show Calls _ _ _ _ fun e w' => e = .returned (.tuple #[.agg #[.int .u8 0, .string ⟨#[]⟩], .int .i64 4]) ∧ Below w7.heap.size w7 w' from hpa) ?_
    rintro e w8 ⟨rfl, hb8⟩
    have hb8' := hb7'.trans (hb8.mono hs7)
    have hq : (T.toList == F.toList) = false := by rw [beq_eq_false_iff_ne]; exact hTF
    clear hb8 hb7' hTF hpe
    go_wp2_with fail
    all_goals go_ret
    exact ⟨rfl, hb8'.alloc hb8'.size _⟩

theorem own : ownKnob Tryd.prog.godebug = none := by kernel_rfl
theorem laidOut : laidOutB Tryd.prog = true := by kernel_rfl

set_option maxRecDepth 100000 in
theorem lifted (os : Os) (started : os.Started) (H : Type) (enc : TypeId × Value → H) :
    ReturnsInHanded {} Tryd.checked os 5 .any (fun w args => (Rows.frameFlipsSpec.pre enc Tryd.prog Tryd.f5 Rows.frameFlipsRow.domain false w args ∧ laidMetH Tryd.prog Rows.frameFlipsRow.laid w) ∧ sizedMet enc Tryd.prog Tryd.f5 (OpenSpec.ofChange Rows.frameFlipsSpec) false w args) (Rows.frameFlipsSpec.post enc Tryd.prog Tryd.f5 false true false false) := by
  refine Base.law_laid (C := Tryd.checked) own started (by kernel_rfl) Tryd.func5 laidOut (by kernel_rfl) rfl Tryd.underlying4 rfl ?_
    (Base.laid_witness #[.agg #[.int .u8 0, .string ⟨#[]⟩, .int .i64 0, .int .u32 0]] (World.shaped_of_ZipB (by kernel_rfl) (by kernel_rfl)) (by kernel_rfl) (by kernel_rfl) (by kernel_rfl) (by rw [MakeChecks.laidMetH_plain _ _ _ (by kernel_rfl)]; exact laidMet_laidAll _ (by kernel_rfl) (by kernel_rfl))) ?_
  · intro ds h
    match ds, h with
    | [_d0], _ => exact ⟨rfl, rfl, rfl⟩
  · intro W base args ds before hval0 hA0 hlt hsz hL
    have hval : ∀ (j : Nat) t v, Tryd.f5.params[j]? = some t → args[j]? = some v → Value.okWide Tryd.prog W .any base t v := hval0
    have hA : DataW.TrodAll enc Tryd.prog W 0 (fun _ => true) true Tryd.f5.params.toList args.toList ds before := hA0
    clear hval0 hA0
    rw [Tryd.params5] at hA hval hsz
    obtain ⟨v0, vs0, d0, ds0, p0, q0, hargs, rfl, rfl, h0, r0⟩ := trodAll_cons hA
    obtain ⟨rfl, rfl, rfl⟩ := trodAll_nil r0
    obtain rfl : args = #[v0] := by cases args; simp_all
    obtain ⟨x0, w0⟩ := Base.open_shape (s := (.struct [(.int .u8), .str, (.int .i64), (.int .u32)])) (by kernel_rfl) (hval 0 46 v0 rfl rfl) h0 (fun x hx => hlt x (by simp [hx])) hsz (j := 0) rfl rfl
    exact walk W v0 x0 w0 hL

theorem over : Rows.frameFlipsRow.holds Tryd.pinned (OpenSpec.ofChange Rows.frameFlipsSpec) :=
  OpenClaim.holds_of_wide 5 Tryd.f5 rfl rfl rfl rfl rfl rfl rfl ⟨rfl, rfl, rfl, rfl, rfl⟩ rfl rfl rfl rfl rfl (by kernel_rfl) Tryd.func5 (by kernel_rfl)
    (of_decide_eq_true (by kernel_rfl)) (by unfold Func.isWrapper; first | (rw [if_pos (by decide +kernel)]; kernel_rfl) | (rw [if_neg (by decide +kernel)]; exact ⟨rfl, rfl⟩))
    (fun os started H enc _ => lifted os started H enc)

theorem proved : Rows.FrameFlipsCardSaid :=
  Claim7.holds_tied_plain_at .later [] [.data, .pinned] true Rows.frameFlipsCard.stood.harness false over (fun _ h => by cases h) (by kernel_rfl) (fun _ h => by cases h) frameFlips_row_tie rfl ⟨rfl, rfl⟩ (by kernel_rfl) rfl
    (fun f fn hf hfn => by
      obtain rfl : f = 5 := Option.some.inj ((show Tryd.prog.funcNamed Rows.frameFlipsRow.func = some 5 by kernel_rfl).symm.trans hf) |>.symm
      obtain rfl : fn = Tryd.f5 := (Option.some.inj (Tryd.func5.symm.trans hfn)).symm
      exact ⟨by kernel_rfl, fun j t ht => by
        rw [Tryd.params5] at ht
        have hm : t ∈ [46] := by simpa using Array.mem_of_getElem? ht
        have hall : ([46].all fun u => !Tryd.prog.wantsStandIn u) = true := by kernel_rfl
        exact (show Tryd.prog.wantsStandIn t = false by simpa using List.all_eq_true.1 hall t hm)⟩)
    (by kernel_rfl)
#print axioms proved
end Go.Proofs.YtkjephbfbagckaaDoor.frameFlips
