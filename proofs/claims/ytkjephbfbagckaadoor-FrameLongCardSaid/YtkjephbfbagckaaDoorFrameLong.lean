/-
  FrameLong is proved: the longest data go, longer ones are told; of how many cells it is, is told.
-/
import Derived.Test.YtkjephbfbagckaaDoorLaid
import Derived.Test.YtkjephbfbagckaaDoorCards
import Derived.Test.YtkjephbfbagckaaDoorLaw05
namespace Go.Proofs.YtkjephbfbagckaaDoor.frameLong
open Go.ChangeShapes Go.WideShapes Go.ChangeAt Go.RowKit
set_option linter.unusedVariables false      -- a walk need not use every bound of an argument

open CrcMath CrcCalls FrameMath FrameCalls
def zerosB (n : Nat) : ByteArray := ⟨(List.replicate n (0 : UInt8)).toArray⟩
theorem zerosB_size (n : Nat) : (zerosB n).size = n := by
  show (List.replicate n (0 : UInt8)).length = n
  simp
theorem conv_zeros (n g : Nat) (W : World) (hg : g = W.heap.size) :
    (convert 49 9 (.slice (some ⟨g, 0, none⟩) n n)).run Tryd.prog (W.alloc (.cells (Lib.byteCells (List.replicate n 0)).toArray 5)) = .ok (.string (zerosB n)) (W.alloc (.cells (Lib.byteCells (List.replicate n 0)).toArray 5)) := by
  have h := run_convert_bytes_back (P := Tryd.prog) (W.alloc (.cells (Lib.byteCells (List.replicate n 0)).toArray 5)) 49 9 5 ⟨g, 0, none⟩ n (List.replicate n 0) Tryd.underlying49 Tryd.underlying5 Tryd.underlying9 (fun j hj => by
    rw [add_plain, Nat.zero_add, World.cell?_alloc_at _ _ _ _ hg]; simp [Lib.byteCells] at hj ⊢; simp [hj])
  simpa [zerosB] using h
theorem sizes (n c : Nat) (hc : cellsN n = c) : ∃ m : Nat, 48 * c = m ∧ (48 * (c : Int)) = (m : Int) ∧ (n : Int) + 8 ≤ (m : Int) ∧ (m : Int) < (n : Int) + 56 := by
  have := cellsN_room n
  rw [hc] at this
  exact ⟨48 * c, rfl, by omega, by omega, by omega⟩
set_option maxHeartbeats 1000000 in
theorem walk (w : World) (a0 : Int) (w0 : (Lit.int .i64 a0).wf = true) (_hL : laidMetH Tryd.prog Rows.frameLongRow.laid w) :
    Calls Tryd.prog 6 #[.int .i64 a0] w fun e w' => e = .returned (.bool true) ∧ Below w.heap.size w w' := by
  obtain ⟨n1, n2⟩ := bounds_i64 w0
  obtain ⟨n, hn, hn1⟩ : ∃ n : Nat, max 0 (min a0 65540) = (n : Int) ∧ n ≤ 65540 := ⟨(max 0 (min a0 65540)).toNat, by omega, by omega⟩
  have hz := zero_run
  have hmk := made_run n (by omega)
  go_enter Tryd.func6, Tryd.ntmps6
  go_wp2_with fail
  refine (awake_any _).mono ?_; rintro e w1 ⟨rfl, hb1⟩
  go_wp2_with fail
  refine (make_any _).mono ?_; rintro e w2 ⟨rfl, hb2⟩
  go_wp2_with (refine wpList_store_row rfl 26 _ _ rfl _ table rfl rfl 26 zeros (heap_alloc_last _ _) (by rw [table_size]; exact tableInfo) (by rw [table_size, zeros_size]) table_cells ?_; rw [World.setRow_alloc_new])
  have hcv := conv_zeros n (w2.heap.size + 1) (w2.alloc (.cells table 26)) (by simp)
  have hds := zerosB_size n
  obtain ⟨d, hd⟩ : ∃ d, zerosB n = d := ⟨_, rfl⟩
  rw [hd] at hcv hds
  rw [hcv]
  go_wp2_with fail
  have hT := Lib.hid ((tab_new w2 26).alloc (.cells (Lib.byteCells (List.replicate n 0)).toArray 5))
  have hb3 : Below w.heap.size w ((w2.alloc (.cells table 26)).alloc (.cells (Lib.byteCells (List.replicate n 0)).toArray 5)) := ((hb1.trans (hb2.mono hb1.size)).alloc (Nat.le_trans hb1.size hb2.size) _).alloc (by have := hb1.size; have := hb2.size; simp; omega) _
  have hs3 := hb3.size
  clear hb1 hb2 hcv hmk
  generalize w2.heap.size = B at *
  generalize ((w2.alloc (.cells table 26)).alloc (.cells (Lib.byteCells (List.replicate n 0)).toArray 5)) = w3 at *
  by_cases hbig : n ≤ 65535
  · obtain ⟨F, hF⟩ : ∃ F, frameB 0 d = F := ⟨_, rfl⟩
    obtain ⟨c, hc⟩ : ∃ c, cellsN n = c := ⟨_, rfl⟩
    obtain ⟨m, hm1, hm2, hm3, hm4⟩ := sizes n c hc
    have hcI : cellsI (n : Int) = (c : Int) := by rw [cellsI_nat, hc]
    have hFs : F.size = m := by rw [← hF, frameB_size, hds, hc, hm1]
    have HF := Lib.hid hF
    have HCI := Lib.hid hcI
    have HDS := Lib.hid (show d.size ≤ 65535 by omega)
    have hc5 : (c : Int) ≤ 3000 := by omega
    clear hF hcI hm1 hc
    refine (bytes_frame B 0 (by decide) d _ hT.out HDS.out).mono ?_
    rintro e w4 ⟨rfl, hb4⟩
    rw [show frameB (UInt8.ofNat 0) d = F from HF.out]
    have hT4 := Lib.hid (hT.out.below hb4)
    have hb4' := hb3.trans (hb4.mono hs3)
    have hs4 := hb4'.size
    clear hb4 hb3 hs3 hT
    go_wp2_with fail
    refine (parse_back B 0 d F _ hT4.out HF.out HDS.out).mono ?_
    rintro e w5 ⟨rfl, hb5⟩
    have hb5' := hb4'.trans (hb5.mono hs4)
    clear hb4' hs4 hb5
    go_wp2_with fail
    refine (cells_any (n : Int) _ (by omega) (by omega)).mono ?_
    rintro e w' ⟨rfl, rfl⟩
    rw [HCI.out]
    go_wp2_with fail
    go_ret
    exact ⟨congrArg (fun x => Ending.returned (.bool x)) (decide_eq_true (by omega)), hb5'.alloc hb5'.size _⟩
  · refine (bytes_big B 0 d _ (by omega) (by omega)).mono ?_
    rintro e w4 ⟨rfl, hb4⟩
    go_wp2_with fail
    go_ret
    exact ⟨rfl, hb3.trans (hb4.mono hs3)⟩

theorem own : ownKnob Tryd.prog.godebug = none := by kernel_rfl
theorem laidOut : laidOutB Tryd.prog = true := by kernel_rfl

set_option maxRecDepth 100000 in
theorem lifted (os : Os) (started : os.Started) (H : Type) (enc : TypeId × Value → H) :
    ReturnsInHanded {} Tryd.checked os 6 .any (fun w args => (Rows.frameLongSpec.pre enc Tryd.prog Tryd.f6 Rows.frameLongRow.domain false w args ∧ laidMetH Tryd.prog Rows.frameLongRow.laid w) ∧ sizedMet enc Tryd.prog Tryd.f6 (OpenSpec.ofChange Rows.frameLongSpec) false w args) (Rows.frameLongSpec.post enc Tryd.prog Tryd.f6 false true false false) := by
  refine Base.law_laid (C := Tryd.checked) own started (by kernel_rfl) Tryd.func6 laidOut (by kernel_rfl) rfl Tryd.underlying4 rfl ?_
    (Base.laid_witness #[.int .i64 0] (World.shaped_of_ZipB (by kernel_rfl) (by kernel_rfl)) (by kernel_rfl) (by kernel_rfl) (by kernel_rfl) (by rw [MakeChecks.laidMetH_plain _ _ _ (by kernel_rfl)]; exact laidMet_laidAll _ (by kernel_rfl) (by kernel_rfl))) ?_
  · intro ds h
    match ds, h with
    | [_d0], _ => exact ⟨rfl, rfl, rfl⟩
  · intro W base args ds before hval0 hA0 hlt hsz hL
    have hval : ∀ (j : Nat) t v, Tryd.f6.params[j]? = some t → args[j]? = some v → Value.okWide Tryd.prog W .any base t v := hval0
    have hA : DataW.TrodAll enc Tryd.prog W 0 (fun _ => true) true Tryd.f6.params.toList args.toList ds before := hA0
    clear hval0 hA0
    rw [Tryd.params6] at hA hval hsz
    obtain ⟨v0, vs0, d0, ds0, p0, q0, hargs, rfl, rfl, h0, r0⟩ := trodAll_cons hA
    obtain ⟨rfl, rfl, rfl⟩ := trodAll_nil r0
    obtain rfl : args = #[v0] := by cases args; simp_all
    obtain ⟨a0, rfl, rfl, rfl, w0⟩ := open_int Tryd.underlying3 (hval 0 3 v0 rfl rfl) h0
    exact walk W a0 w0 hL

theorem over : Rows.frameLongRow.holds Tryd.pinned (OpenSpec.ofChange Rows.frameLongSpec) :=
  OpenClaim.holds_of_wide 6 Tryd.f6 rfl rfl rfl rfl rfl rfl rfl ⟨rfl, rfl, rfl, rfl, rfl⟩ rfl rfl rfl rfl rfl (by kernel_rfl) Tryd.func6 (by kernel_rfl)
    (of_decide_eq_true (by kernel_rfl)) (by unfold Func.isWrapper; first | (rw [if_pos (by decide +kernel)]; kernel_rfl) | (rw [if_neg (by decide +kernel)]; exact ⟨rfl, rfl⟩))
    (fun os started H enc _ => lifted os started H enc)

theorem proved : Rows.FrameLongCardSaid :=
  Claim7.holds_tied_plain_at .later [] [.data, .pinned] true Rows.frameLongCard.stood.harness false over (fun _ h => by cases h) (by kernel_rfl) (fun _ h => by cases h) frameLong_row_tie rfl ⟨rfl, rfl⟩ (by kernel_rfl) rfl
    (fun f fn hf hfn => by
      obtain rfl : f = 6 := Option.some.inj ((show Tryd.prog.funcNamed Rows.frameLongRow.func = some 6 by kernel_rfl).symm.trans hf) |>.symm
      obtain rfl : fn = Tryd.f6 := (Option.some.inj (Tryd.func6.symm.trans hfn)).symm
      exact ⟨by kernel_rfl, fun j t ht => by
        rw [Tryd.params6] at ht
        have hm : t ∈ [3] := by simpa using Array.mem_of_getElem? ht
        have hall : ([3].all fun u => !Tryd.prog.wantsStandIn u) = true := by kernel_rfl
        exact (show Tryd.prog.wantsStandIn t = false by simpa using List.all_eq_true.1 hall t hm)⟩)
    (by kernel_rfl)
#print axioms proved
end Go.Proofs.YtkjephbfbagckaaDoor.frameLong
