/-
  CrcBursts is proved: any bits turned within 32 are told, over the seam, too.
-/
import Derived.Test.YtfcdhfdjnfolkaaBase
import Derived.Test.YtfcdhfdjnfolkaaCrcTurn
import Derived.IntWalk
namespace Go.Proofs.Ytfcdhfdjnfolkaa.crcBursts
open Go.ChangeShapes Go.WideShapes Go.ChangeAt Go.RowKit
set_option linter.unusedVariables false      -- a walk need not use every bound of an argument

open CrcMath CrcCalls
theorem same_list (a b : ByteArray) : (a.toList == b.toList) = decide (a.data.toList = b.data.toList) := by
  rw [Bool.eq_iff_iff, beq_iff_eq, decide_eq_true_iff, ByteArray.toList_eq, ByteArray.toList_eq]

theorem at_int (a1 : Int) (m : Nat) (h4 : 4 ≤ m) (h104 : m ≤ 104) : ∃ k : Nat, (wrap64 (a1.tmod (8 * (m : Int)) + 8 * (m : Int))).tmod (8 * (m : Int)) = (k : Int) ∧ k < 8 * m := by
  have hb : -(8 * (m : Int)) < a1.tmod (8 * (m : Int)) ∧ a1.tmod (8 * (m : Int)) < 8 * (m : Int) := by
    have h1 := Int.tmod_lt_of_pos a1 (show (0 : Int) < 8 * (m : Int) by omega)
    have h2 := Int.lt_tmod_of_pos a1 (show (0 : Int) < 8 * (m : Int) by omega)
    exact ⟨h2, h1⟩
  obtain ⟨hb1, hb2⟩ := hb
  generalize a1.tmod (8 * (m : Int)) = x at *
  rw [IntWalk.wrap64_in _ (by omega), Int.tmod_eq_emod_of_nonneg (by omega)]
  have h3 := Int.emod_nonneg (x + 8 * (m : Int)) (show (8 * (m : Int)) ≠ 0 by omega)
  have h4' := Int.emod_lt_of_pos (x + 8 * (m : Int)) (show (0 : Int) < 8 * (m : Int) by omega)
  exact ⟨((x + 8 * (m : Int)) % (8 * (m : Int))).toNat, by omega, by omega⟩

set_option maxHeartbeats 1000000 in
theorem walk (w : World) (a0 : ByteArray) (w0 : a0.size ≤ 140737488351232) (a1 : Int) (w1 : (Lit.int .i64 a1).wf = true) (a2 : Int) (w2 : (Lit.int .u32 a2).wf = true) :
    Calls Try.prog 6 #[.string a0, .int .i64 a1, .int .u32 a2] w fun e w' => e = .returned (.bool true) ∧ Below w.heap.size w w' := by
  obtain ⟨n1, n2⟩ := bounds_i64 w1
  obtain ⟨c, hc⟩ : ∃ c, cutL a0 100 = c := ⟨_, rfl⟩
  have hcs : c.size ≤ 100 := by rw [← hc]; exact (cutL_le a0 100).1
  have hz := zero_run
  obtain ⟨d, hd⟩ : ∃ d, sealB c = d := ⟨_, rfl⟩
  have hds : d.size ≤ 104 := by rw [← hd, sealB_size]; omega
  have hds4 : 4 ≤ d.size := by rw [← hd, sealB_size]; omega
  have hdl : d.data.toList = seal_ c.data.toList := by rw [← hd, sealB_list]
  have HDL := Lib.hid hdl
  have HD := Lib.hid hd
  clear hdl hd
  go_enter Try.func6, Try.ntmps6
  go_wp2_with fail
  refine (awake_any _).mono ?_; rintro e w1 ⟨rfl, hb1⟩
  go_wp2_with fail
  refine (cut_any _ _ 100 _ rfl).mono ?_; rintro e w' ⟨rfl, rfl⟩
  rw [hc]
  go_wp2_with fail
  refine (make_any _).mono ?_; rintro e w2 ⟨rfl, hb2⟩
  go_wp2_with (refine wpList_store_row rfl 26 _ _ rfl _ table rfl rfl 26 zeros (heap_alloc_last _ _) (by rw [table_size]; exact tableInfo) (by rw [table_size, zeros_size]) table_cells ?_; rw [World.setRow_alloc_new])
  have hT := Lib.hid (tab_new w2 26)
  have hb3 : Below w.heap.size w (w2.alloc (.cells table 26)) := (hb1.trans (hb2.mono hb1.size)).alloc (Nat.le_trans hb1.size hb2.size) _
  have hs3 := hb3.size
  clear hb1 hb2
  generalize w2.heap.size = B at *
  generalize w2.alloc (.cells table 26) = w3 at *
  refine (seal_any B c _ (by exact hT.out) (by omega)).mono ?_
  rintro e w4 ⟨rfl, hb4⟩
  rw [HD.out]
  go_wp2_with fail
  obtain ⟨at_, hat, hat2⟩ := at_int a1 d.size hds4 hds
  rw [hat]
  refine (turn_any d at_ a2 _ (by omega) (by omega)).mono ?_
  rintro e w5 ⟨t, rfl, htz, hbits, hb5⟩
  have HB := Lib.hid hbits
  clear hbits hat
  have htz' : t.size ≤ 104 := by omega
  have HZ := Lib.hid htz
  clear htz
  go_wp2_with fail
  refine (fits_any B t _ (by exact (hT.out.below hb4).below hb5) (by omega)).mono ?_
  rintro e w6 ⟨rfl, hb6⟩
  have hburst : fits t.data.toList = (t.toList == d.toList) := by
    have hl1 : t.data.toList.length = t.size := rfl
    have hl2 : d.data.toList.length = d.size := rfl
    rw [same_list, HDL.out]
    refine burst c.data.toList t.data.toList at_ (by rw [← HDL.out, hl1, hl2, HZ.out]) (fun k hk hout => ?_)
    rw [← HDL.out]
    exact HB.out k (by rw [hl1, HZ.out] at hk; exact hk) hout
  rw [hburst]
  go_wp2_with fail
  go_ret
  have s4 := hb4.size
  have s5 := hb5.size
  exact ⟨rfl, hb3.trans ((hb4.mono hs3).trans ((hb5.mono (by omega)).trans (hb6.mono (by omega))))⟩

theorem own : ownKnob Try.prog.godebug = none := by kernel_rfl
theorem laidOut : laidOutB Try.prog = true := by kernel_rfl

set_option maxRecDepth 100000 in
theorem lifted (os : Os) (started : os.Started) (H : Type) (enc : TypeId × Value → H) :
    ReturnsInHanded {} Try.checked os 6 .any (Rows.crcBurstsSpec.pre6 enc Try.prog Try.f6 Rows.crcBurstsRow.domain false) (Rows.crcBurstsSpec.post enc Try.prog Try.f6 false true false false) := by
  refine Base.law_lifted (C := Try.checked) own started (by kernel_rfl) Try.func6 laidOut (by kernel_rfl) rfl Try.underlying4 rfl ?_
    (ChangeSpec.witness6 (enc := enc) (C := Try.checked) false ⟨#[], #[.string ⟨#[]⟩, .int .i64 0, .int .u32 0], []⟩ 8 (by kernel_rfl) (by kernel_rfl) (by kernel_rfl) (by kernel_rfl)) ?_
  · intro ds h
    match ds, h with
    | [_d0, _d1, _d2], _ => exact ⟨rfl, rfl, rfl⟩
  · intro W base args ds before hval0 hA0 hlt hsz
    have hval : ∀ (j : Nat) t v, Try.f6.params[j]? = some t → args[j]? = some v → Value.okWide Try.prog W .any base t v := hval0
    have hA : DataW.TrodAll enc Try.prog W 0 (fun _ => true) true Try.f6.params.toList args.toList ds before := hA0
    clear hval0 hA0
    rw [Try.params6] at hA hval hsz
    obtain ⟨v0, vs0, d0, ds0, p0, q0, hargs, rfl, rfl, h0, r0⟩ := trodAll_cons hA
    obtain ⟨v1, vs1, d1, ds1, p1, q1, rfl, rfl, rfl, h1, r1⟩ := trodAll_cons r0
    obtain ⟨v2, vs2, d2, ds2, p2, q2, rfl, rfl, rfl, h2, r2⟩ := trodAll_cons r1
    obtain ⟨rfl, rfl, rfl⟩ := trodAll_nil r2
    obtain rfl : args = #[v0, v1, v2] := by cases args; simp_all
    obtain ⟨a0, rfl, rfl, rfl, _⟩ := Go.ChangeMaps.open_string Try.underlying9 (hval 0 9 v0 rfl rfl) h0
    have w0 : a0.size ≤ 140737488351232 := by have := sized_string hsz (j := 0) rfl rfl; simpa [reachBytes] using this
    obtain ⟨a1, rfl, rfl, rfl, w1⟩ := open_int Try.underlying3 (hval 1 3 v1 rfl rfl) h1
    obtain ⟨a2, rfl, rfl, rfl, w2⟩ := open_int Try.underlying24 (hval 2 24 v2 rfl rfl) h2
    exact walk W a0 w0 a1 w1 a2 w2

theorem over : Rows.crcBurstsRow.holds Try.pinned (OpenSpec.ofChange Rows.crcBurstsSpec) :=
  OpenClaim.holds_of_wide 6 Try.f6 rfl rfl rfl rfl rfl rfl rfl ⟨rfl, rfl, rfl, rfl, rfl⟩ rfl rfl rfl rfl rfl (by kernel_rfl) Try.func6 (by kernel_rfl)
    (of_decide_eq_true (by kernel_rfl)) (by unfold Func.isWrapper; first | (rw [if_pos (by decide +kernel)]; kernel_rfl) | (rw [if_neg (by decide +kernel)]; exact ⟨rfl, rfl⟩))
    (fun os started H enc _ => lifted os started H enc)

theorem proved : Rows.CrcBurstsSaid :=
  over
#print axioms proved
end Go.Proofs.Ytfcdhfdjnfolkaa.crcBursts
