/-
  WireNone is proved: what is no whole number of cells is no unit, nor a cell of noughts; for every input the law returns true.
-/
import Derived.Test.YthigcaakkjfghaaDoorLaid
import Derived.Test.YthigcaakkjfghaaDoorCards
import Derived.Test.YthigcaakkjfghaaDoorWire3
import Derived.Laws.BitsLemmas
import Derived.Laws.BytesArg
namespace Go.Proofs.YthigcaakkjfghaaDoor.wireNone
open Go.ChangeShapes Go.WideShapes Go.ChangeAt Go.RowKit
set_option linter.unusedVariables false      -- a walk need not use every bound of an argument

open CrcMath CrcCalls FrameMath Wire
theorem and3 (n : Int) : bits .and .i64 n 3 = n % 4 := by
  have h31 : (BitVec.ofInt 64 3).toNat = 2 ^ 2 - 1 := by decide
  have key : (BitVec.ofInt 64 n &&& BitVec.ofInt 64 3).toNat = (n % ((2 ^ 64 : Nat) : Int)).toNat % 2 ^ 2 := by
    rw [BitVec.toNat_and, BitVec.toNat_ofInt, h31, Nat.and_two_pow_sub_one_eq_mod]
  show IntKind.i64.wrap ((BitVec.ofInt 64 n &&& BitVec.ofInt 64 3).toNat : Nat) = n % 4
  rw [key, IntKind.wrap_i64]
  omega
theorem zero_conv (M : Nat) (w : World) : (convert 56 9 (.slice (some ⟨w.heap.size, 0, none⟩) M M)).run Tryd.prog (w.alloc (.cells (Go.Lib.byteCells (List.replicate M 0)).toArray 5)) = .ok (.string (strOfNums (List.replicate M 0))) (w.alloc (.cells (Go.Lib.byteCells (List.replicate M 0)).toArray 5)) := by
  refine run_convert_bytes_arg _ _ _ Tryd.underlying56 Tryd.underlying5 _ _ _ _ (List.replicate M 0) (by simp) ?_ _ Tryd.underlying9
  intro i hi
  rw [Nat.zero_add, World.cell?_alloc_at _ _ _ _ rfl]
  simp [Go.Lib.byteCells, List.getD, hi]
theorem zero_size (M : Nat) : (strOfNums (List.replicate M 0)).size = M := by
  rw [Pdu.str_size, List.length_replicate]
set_option maxRecDepth 10000000 in
theorem zero_fits (j : Nat) (h : j < 4) : fits (strOfNums (List.replicate (48 * (1 + j)) 0)).data.toList = false := by
  match j, h with
  | 0, _ => decide +kernel
  | 1, _ => decide +kernel
  | 2, _ => decide +kernel
  | 3, _ => decide +kernel
theorem code5 (s : ByteArray) (h : s.size = 0 ∨ s.size % 48 ≠ 0) : codeW s = 5 := by
  have e0 : s.data.toList = [] ↔ s.size = 0 := by rw [← FrameCalls.size_list, List.length_eq_zero_iff]
  have : parseL s.data.toList = (0, [], 5) := by
    unfold parseL
    rw [if_pos (by rw [e0, FrameCalls.size_list]; exact h)]
  unfold codeW; rw [this]; rfl
theorem code4 (s : ByteArray) (h0 : s.size ≠ 0) (h : s.size % 48 = 0) (hf : fits s.data.toList = false) : codeW s = 4 := by
  have e0 : s.data.toList = [] ↔ s.size = 0 := by rw [← FrameCalls.size_list, List.length_eq_zero_iff]
  have : parseL s.data.toList = (0, [], 4) := by
    unfold parseL
    rw [if_neg (by rw [e0, FrameCalls.size_list]; omega), if_pos hf]
  unfold codeW; rw [this]; rfl
theorem add_x (C : ByteArray) (h : C.size ≤ 100000) (w : World) : (Op.stringOp .add C ⟨#[120]⟩).run Tryd.prog w = .ok (.string (C ++ ⟨#[120]⟩)) w := by
  rw [run_string_add_sum _ _ _ (by show C.size + 1 ≤ _; omega)]
theorem size_x (C : ByteArray) : (C ++ ⟨#[120]⟩).size = C.size + 1 := by rw [ByteArray.size_append]; rfl
/-- opening what is wrong -/
theorem open_wrong (s : ByteArray) (hs : s.size ≤ 100000) (c : Int) (hc : codeW s = c) (h0 : c ≠ 0) (B : Nat) (w : World) (hT : Tab w B) (hF : Pdu.Forms w) :
    Calls Tryd.prog 16 #[.pointer (some ⟨B, 0, none⟩), .string s] w fun e w' => e = .returned (.tuple #[.agg Pdu.zeroC, .int .i64 c]) ∧ Below w.heap.size w w' :=
  (open_any B s w hT hF hs).mono fun e w' ⟨hb, h⟩ => by
    rcases h with ⟨_, rfl⟩ | ⟨h, _⟩
    · exact ⟨by rw [hc]; rfl, hb⟩
    · exact absurd (hc.symm.trans h) h0
set_option maxRecDepth 100000 in
set_option maxHeartbeats 4000000 in
theorem walk (w : World) (a0 : ByteArray) (w0 : a0.size ≤ 140737488351232) (a1 : Int) (w1 : (Lit.int .i64 a1).wf = true) (hL : laidMetH Tryd.prog Rows.wireNoneRow.laid w) :
    Calls Tryd.prog 7 #[.string a0, .int .i64 a1] w fun e w' => e = .returned (.bool true) ∧ Below w.heap.size w w' := by
  have HF := Lib.hid (Pdu.forms_laid (by kernel_rfl) hL (by simp [Rows.wireNoneRow]))
  obtain ⟨C, hC⟩ : ∃ C, cutL a0 300 = C := ⟨_, rfl⟩
  have hcs : C.size ≤ 300 := by rw [← hC]; exact (cutL_le a0 300).1
  have HC := Lib.hid hC
  obtain ⟨j, hj⟩ : ∃ j : Nat, bits .and .i64 a1 3 = (j : Int) := ⟨(a1 % 4).toNat, by rw [and3]; omega⟩
  have hj4 : j < 4 := by have := and3 a1; omega
  have hj3 : (j : Int) ≤ 3 := by omega
  obtain ⟨M, hM0⟩ : ∃ M, 48 * (1 + j) = M := ⟨_, rfl⟩
  have hM : 48 * (1 + (j : Int)) = (M : Int) := by omega
  have HM4 : Hid (M ≤ 200 ∧ M % 48 = 0 ∧ M ≠ 0) := Lib.hid (by omega)
  have hmk := FrameCalls.made_run M (by omega)
  have hcv := zero_conv M
  have HZF : Hid (fits (strOfNums (List.replicate M 0)).data.toList = false) := Lib.hid (by rw [← hM0]; exact zero_fits j hj4)
  have HZS : Hid ((strOfNums (List.replicate M 0)).size = M) := Lib.hid (zero_size M)
  generalize strOfNums (List.replicate M 0) = Z at *
  have HZ4 : Hid (codeW Z = 4) := Lib.hid (code4 Z (by rw [HZS.out]; exact HM4.out.2.2) (by rw [HZS.out]; exact HM4.out.2.1) HZF.out)
  have HZsnd : Hid ((decide (Z.size % 48 = 0) && fits Z.data.toList) = false) := Lib.hid (by rw [HZF.out]; simp)
  have hzs : Z.size ≤ 200 := by rw [HZS.out]; exact HM4.out.1
  clear hC hL w0 w1 hj4 hM0
  obtain ⟨S, hS⟩ : ∃ S : ByteArray, S = if C.size % 48 = 0 then C ++ ⟨#[120]⟩ else C := ⟨_, rfl⟩
  have HS := Lib.hid hS
  have HS48 : Hid (S.size % 48 ≠ 0 ∧ S.size ≤ 301) := Lib.hid (by
    rw [hS]; split
    · rw [size_x]; omega
    · omega)
  have HS5 : Hid (codeW S = 5) := Lib.hid (code5 S (.inr HS48.out.1))
  have HSsnd : Hid ((decide (S.size % 48 = 0) && fits S.data.toList) = false) := Lib.hid (by rw [decide_eq_false HS48.out.1]; rfl)
  have HE5 : Hid (codeW ⟨#[]⟩ = 5) := Lib.hid (code5 _ (.inl rfl))
  clear hS
  go_enter Tryd.func7, Tryd.ntmps7
  go_wp2_with fail
  refine (Wire.awake_any _ HF.out).mono ?_; rintro e W1 ⟨rfl, hb1⟩
  have HB1 := Lib.hid hb1
  have HF1 := Lib.hid (HF.out.below hb1 (Nat.le_refl _))
  clear hb1
  go_wp2_with fail
  refine (cut_any _ _ 300 _ rfl).mono ?_; rintro e w' ⟨rfl, rfl⟩
  rw [HC.out]
  go_wp2_with fail
  refine (new_any _).mono ?_; rintro e W2 ⟨B, rfl, hT, hb2⟩
  have HT2 := Lib.hid hT
  have HF2 := Lib.hid (HF1.out.below hb2 (Nat.le_refl _))
  have HB2 := Lib.hid (HB1.out.trans (hb2.mono HB1.out.size))
  clear hT hb2 HB1 HF1
  go_upto_if 21 with (fail)
  go_cut [0] (fun s0 wx => s0 = .string S ∧ wx = W2)
  case first =>
    by_cases h48 : C.size % 48 = 0
    · have hb : ((C.size : Int) % 48 == 0) = true := by rw [beq_iff_eq]; omega
      have HSV : Hid (S = C ++ ⟨#[120]⟩) := Lib.hid (by rw [HS.out, if_pos h48])
      have hadd := add_x C (by omega)
      clear h48
      go_wp2_with fail
      go_meet
      exact ⟨by rw [HSV.out], rfl⟩
    · have hb : ((C.size : Int) % 48 == 0) = false := by rw [beq_eq_false_iff_ne]; omega
      have HSV : Hid (S = C) := Lib.hid (by rw [HS.out, if_neg h48])
      clear h48
      go_wp2_with fail
      go_meet
      exact ⟨by rw [HSV.out], rfl⟩
  case rest =>
    obtain ⟨rfl, rfl⟩ := hcut
    clear hcs
    go_upto_region 8 with (first
      | ((have _s := t1); (refine wpList_store_row rfl 33 _ _ rfl W3.heap.size Pdu.zeroC rfl rfl 33 #[.int .i64 0, .int .i64 0, .int .u32 0, .int .u32 0, .int .u32 0, .slice none 0 0, .bool false, .string ⟨#[]⟩] (heap_alloc_new W3 _) Pdu.info_pdu rfl (by simp [Value.oneCell']) ?_); rw [World.setRow_alloc_new])
      | (go_at_call 16
         refine (open_wrong S (by have := HS48.out; omega) 5 HS5.out (by decide) B _ HT2.out HF2.out).mono ?_
         rintro e W3 ⟨rfl, hb3⟩
         have t1 : True := trivial))
    have HT4 := Lib.hid ((HT2.out.below hb3).alloc (.cells Pdu.zeroC 33))
    have HF4 := Lib.hid ((HF2.out.below hb3 (Nat.le_refl _)).alloc (.cells Pdu.zeroC 33))
    have HB4 : Hid (Below w.heap.size w (W3.alloc (.cells Pdu.zeroC 33))) := Lib.hid ((HB2.out.trans (hb3.mono HB2.out.size)).alloc (Nat.le_trans HB2.out.size hb3.size) _)
    clear hb3 t1 HT2 HF2 HB2
    generalize W3.alloc (.cells Pdu.zeroC 33) = W4 at *
    generalize W3.heap.size = g3 at *
    go_upto_region 9 with (fail)
    have hZc : Below W4.heap.size W4 (W4.alloc (.cells (Go.Lib.byteCells (List.replicate M 0)).toArray 5)) := (Below.refl _ _).alloc (Nat.le_refl _) _
    have HT5 := Lib.hid (HT4.out.below hZc)
    have HF5 := Lib.hid (HF4.out.below hZc (Nat.le_refl _))
    have HB5 := Lib.hid (HB4.out.trans (hZc.mono HB4.out.size))
    clear hZc HT4 HF4 HB4 hmk hcv
    generalize W4.alloc (.cells (Go.Lib.byteCells (List.replicate M 0)).toArray 5) = W5 at *
    generalize W4.heap.size = g4 at *
    go_upto_region 10 with (first
      | ((have _s := t1); (refine wpList_store_row rfl 33 _ _ rfl W6.heap.size Pdu.zeroC rfl rfl 33 #[.int .i64 0, .int .i64 0, .int .u32 0, .int .u32 0, .int .u32 0, .slice none 0 0, .bool false, .string ⟨#[]⟩] (heap_alloc_new W6 _) Pdu.info_pdu rfl (by simp [Value.oneCell']) ?_); rw [World.setRow_alloc_new])
      | (go_at_call 16
         refine (open_wrong Z (by omega) 4 HZ4.out (by decide) B _ HT5.out HF5.out).mono ?_
         rintro e W6 ⟨rfl, hb6⟩
         have t1 : True := trivial))
    have HT7 := Lib.hid ((HT5.out.below hb6).alloc (.cells Pdu.zeroC 33))
    have HF7 := Lib.hid ((HF5.out.below hb6 (Nat.le_refl _)).alloc (.cells Pdu.zeroC 33))
    have HB7 : Hid (Below w.heap.size w (W6.alloc (.cells Pdu.zeroC 33))) := Lib.hid ((HB5.out.trans (hb6.mono HB5.out.size)).alloc (Nat.le_trans HB5.out.size hb6.size) _)
    have q0 : (W6.alloc (.cells Pdu.zeroC 33)).cell? ⟨W6.heap.size, 0, none⟩ = some (.int .i64 0) := Go.Joins.cell_of_block (heap_alloc_new W6 _) 0
    have HL7 : Hid (W6.heap.size < (W6.alloc (.cells Pdu.zeroC 33)).heap.size) := Lib.hid (by simp)
    clear hb6 t1 HT5 HF5 HB5
    generalize W6.alloc (.cells Pdu.zeroC 33) = W7 at *
    generalize W6.heap.size = g6 at *
    have HQ0 := Lib.hid q0
    clear q0
    go_upto_region 11 with (first
      | ((have _s := t1); (refine wpList_store_row rfl 33 _ _ rfl W8.heap.size Pdu.zeroC rfl rfl 33 #[.int .i64 0, .int .i64 0, .int .u32 0, .int .u32 0, .int .u32 0, .slice none 0 0, .bool false, .string ⟨#[]⟩] (heap_alloc_new W8 _) Pdu.info_pdu rfl (by simp [Value.oneCell']) ?_); rw [World.setRow_alloc_new])
      | (go_at_call 16
         refine (open_wrong ⟨#[]⟩ (by decide) 5 HE5.out (by decide) B _ HT7.out HF7.out).mono ?_
         rintro e W8 ⟨rfl, hb8⟩
         have t1 : True := trivial))
    have HT9 := Lib.hid ((HT7.out.below hb8).alloc (.cells Pdu.zeroC 33))
    have HB9 : Hid (Below w.heap.size w (W8.alloc (.cells Pdu.zeroC 33))) := Lib.hid ((HB7.out.trans (hb8.mono HB7.out.size)).alloc (Nat.le_trans HB7.out.size hb8.size) _)
    have HQ9 : Hid ((W8.alloc (.cells Pdu.zeroC 33)).cell? ⟨g6, 0, none⟩ = some (.int .i64 0) ∧ g6 < (W8.alloc (.cells Pdu.zeroC 33)).heap.size) := Lib.hid ⟨(World.cell?_alloc_some _ _ _ (by rw [(hb8.cell (p := ⟨g6, 0, none⟩) HL7.out), HQ0.out]; rfl)).trans ((hb8.cell (p := ⟨g6, 0, none⟩) HL7.out).trans HQ0.out), by have := HL7.out; have := hb8.size; simp; omega⟩
    clear hb8 t1 HT7 HF7 HB7 HQ0 HL7
    generalize W8.alloc (.cells Pdu.zeroC 33) = W9 at *
    generalize W8.heap.size = g8 at *
    go_wp2_with (first
      | ((have _s := t2); go_at_call 18
         refine (sound_any B Z _ (HT9.out.below h10) (by omega)).mono ?_
         rintro e W11 ⟨rfl, h11⟩
         rw [HZsnd.out])
      | (go_at_call 18
         refine (sound_any B S _ HT9.out (by have := HS48.out; omega)).mono ?_
         rintro e W10 ⟨rfl, h10⟩
         rw [HSsnd.out]
         (have q0 : W10.cell? ⟨g6, 0, none⟩ = some (.int .i64 0) := (h10.cell (p := ⟨g6, 0, none⟩) HQ9.out.2).trans HQ9.out.1)
         have t2 : True := trivial))
    go_ret
    exact ⟨rfl, HB9.out.trans ((h10.trans (h11.mono h10.size)).mono HB9.out.size)⟩

theorem own : ownKnob Tryd.prog.godebug = none := by kernel_rfl
theorem laidOut : laidOutB Tryd.prog = true := by kernel_rfl

set_option maxRecDepth 100000 in
theorem lifted (os : Os) (started : os.Started) (H : Type) (enc : TypeId × Value → H) :
    ReturnsInHanded {} Tryd.checked os 7 .any (fun w args => (Rows.wireNoneSpec.pre enc Tryd.prog Tryd.f7 Rows.wireNoneRow.domain false w args ∧ laidMetH Tryd.prog Rows.wireNoneRow.laid w) ∧ sizedMet enc Tryd.prog Tryd.f7 (OpenSpec.ofChange Rows.wireNoneSpec) false w args) (Rows.wireNoneSpec.post enc Tryd.prog Tryd.f7 false true false false) := by
  refine Base.law_laid (C := Tryd.checked) own started (by kernel_rfl) Tryd.func7 laidOut (by kernel_rfl) rfl Tryd.underlying4 rfl ?_
    (Base.laid_witness #[.string ⟨#[]⟩, .int .i64 0] (World.shaped_of_ZipB (by kernel_rfl) (by kernel_rfl)) (by kernel_rfl) (by kernel_rfl) (by kernel_rfl) (by rw [MakeChecks.laidMetH_plain _ _ _ (by kernel_rfl)]; exact laidMet_laidAll _ (by kernel_rfl) (by kernel_rfl))) ?_
  · intro ds h
    match ds, h with
    | [_d0, _d1], _ => exact ⟨rfl, rfl, rfl⟩
  · intro W base args ds before hval0 hA0 hlt hsz hL
    have hval : ∀ (j : Nat) t v, Tryd.f7.params[j]? = some t → args[j]? = some v → Value.okWide Tryd.prog W .any base t v := hval0
    have hA : DataW.TrodAll enc Tryd.prog W 0 (fun _ => true) true Tryd.f7.params.toList args.toList ds before := hA0
    clear hval0 hA0
    rw [Tryd.params7] at hA hval hsz
    obtain ⟨v0, vs0, d0, ds0, p0, q0, hargs, rfl, rfl, h0, r0⟩ := trodAll_cons hA
    obtain ⟨v1, vs1, d1, ds1, p1, q1, rfl, rfl, rfl, h1, r1⟩ := trodAll_cons r0
    obtain ⟨rfl, rfl, rfl⟩ := trodAll_nil r1
    obtain rfl : args = #[v0, v1] := by cases args; simp_all
    obtain ⟨a0, rfl, rfl, rfl, _⟩ := Go.ChangeMaps.open_string Tryd.underlying9 (hval 0 9 v0 rfl rfl) h0
    have w0 : a0.size ≤ 140737488351232 := by have := sized_string hsz (j := 0) rfl rfl; simpa [reachBytes] using this
    obtain ⟨a1, rfl, rfl, rfl, w1⟩ := open_int Tryd.underlying3 (hval 1 3 v1 rfl rfl) h1
    exact walk W a0 w0 a1 w1 hL

theorem over : Rows.wireNoneRow.holds Tryd.pinned (OpenSpec.ofChange Rows.wireNoneSpec) :=
  OpenClaim.holds_of_wide 7 Tryd.f7 rfl rfl rfl rfl rfl rfl rfl ⟨rfl, rfl, rfl, rfl, rfl⟩ rfl rfl rfl rfl rfl (by kernel_rfl) Tryd.func7 (by kernel_rfl)
    (of_decide_eq_true (by kernel_rfl)) (by unfold Func.isWrapper; first | (rw [if_pos (by decide +kernel)]; kernel_rfl) | (rw [if_neg (by decide +kernel)]; exact ⟨rfl, rfl⟩))
    (fun os started H enc _ => lifted os started H enc)

theorem proved : Rows.WireNoneCardSaid :=
  Claim7.holds_tied_plain_at .later [] [.data, .data, .pinned] true Rows.wireNoneCard.stood.harness false over (fun _ h => by cases h) (by kernel_rfl) (fun _ h => by cases h) wireNone_row_tie rfl ⟨rfl, rfl⟩ (by kernel_rfl) rfl
    (fun f fn hf hfn => by
      obtain rfl : f = 7 := Option.some.inj ((show Tryd.prog.funcNamed Rows.wireNoneRow.func = some 7 by kernel_rfl).symm.trans hf) |>.symm
      obtain rfl : fn = Tryd.f7 := (Option.some.inj (Tryd.func7.symm.trans hfn)).symm
      exact ⟨by kernel_rfl, fun j t ht => by
        rw [Tryd.params7] at ht
        have hm : t ∈ [9, 3] := by simpa using Array.mem_of_getElem? ht
        have hall : ([9, 3].all fun u => !Tryd.prog.wantsStandIn u) = true := by kernel_rfl
        exact (show Tryd.prog.wantsStandIn t = false by simpa using List.all_eq_true.1 hall t hm)⟩)
    (by kernel_rfl)
#print axioms proved
end Go.Proofs.YthigcaakkjfghaaDoor.wireNone
