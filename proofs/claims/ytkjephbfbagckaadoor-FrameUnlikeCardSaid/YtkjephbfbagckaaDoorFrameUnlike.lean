/-
  FrameUnlike is proved: unlike frames have unlike bytes.
-/
import Derived.Test.YtkjephbfbagckaaDoorLaid
import Derived.Test.YtkjephbfbagckaaDoorCards
import Derived.Test.YtkjephbfbagckaaDoorLaw05
namespace Go.Proofs.YtkjephbfbagckaaDoor.frameUnlike
open Go.ChangeShapes Go.WideShapes Go.ChangeAt Go.RowKit
set_option linter.unusedVariables false      -- a walk need not use every bound of an argument

open CrcMath CrcCalls FrameMath FrameCalls Base
theorem open_pair (w : World) (v : Value) (x : Dat) (h : RdV w (.struct [.int .u8, .int .u8, .str, .str]) x v) : ∃ (p q : Nat) (a b : ByteArray), v = .agg #[.int .u8 (p : Int), .int .u8 (q : Int), .string a, .string b] ∧ p < 256 ∧ q < 256 ∧ a.size ≤ 140737488351232 ∧ b.size ≤ 140737488351232 := by
  obtain ⟨cs, rfl, h⟩ := h
  obtain ⟨l, rfl, h⟩ := rd_struct h
  obtain ⟨d0, r, c0, c, rfl, rfl, h0, h⟩ := rdAll_cons h
  obtain ⟨d1, r, c1, c, rfl, rfl, h1, h⟩ := rdAll_cons h
  obtain ⟨d2, r, c2, c, rfl, rfl, h2, h⟩ := rdAll_cons h
  obtain ⟨d3, r, c3, c, rfl, rfl, h3, h⟩ := rdAll_cons h
  obtain ⟨rfl, rfl⟩ := rdAll_nil h
  obtain ⟨z0, rfl, rfl, w0⟩ := rd_int h0
  obtain ⟨z1, rfl, rfl, w1⟩ := rd_int h1
  obtain ⟨s2, rfl, rfl, w2⟩ := rd_str h2
  obtain ⟨s3, rfl, rfl, w3⟩ := rd_str h3
  have b0 := bounds_u8 w0
  have b1 := bounds_u8 w1
  exact ⟨z0.toNat, z1.toNat, s2, s3, by rw [Int.toNat_of_nonneg b0.1, Int.toNat_of_nonneg b1.1]; rfl, by omega, by omega, w2, w3⟩
theorem frames_eq (p q : Nat) (hp : p < 256) (hq : q < 256) (a b : ByteArray) (ha : a.size ≤ 65535) (hb : b.size ≤ 65535) :
    ((frameB (UInt8.ofNat p) a).toList == (frameB (UInt8.ofNat q) b).toList) = ((p : Int) == (q : Int) && (a.toList == b.toList)) := by
  rw [Bool.eq_iff_iff, beq_iff_eq, Bool.and_eq_true, beq_iff_eq, beq_iff_eq, ByteArray.toList_eq, ByteArray.toList_eq, ByteArray.toList_eq, ByteArray.toList_eq, frame_list, frame_list, frameL_inj _ _ _ _ ha hb]
  constructor
  · rintro ⟨h1, h2⟩
    have := congrArg UInt8.toNat h1
    rw [UInt8.toNat_ofNat', UInt8.toNat_ofNat'] at this
    exact ⟨by omega, h2⟩
  · rintro ⟨h1, h2⟩
    have : p = q := by omega
    exact ⟨by rw [this], h2⟩
set_option maxHeartbeats 1000000 in
theorem walk (w : World) (v : Value) (x : Dat) (h0 : RdV w (.struct [.int .u8, .int .u8, .str, .str]) x v) (_hL : laidMetH Tryd.prog Rows.frameUnlikeRow.laid w) :
    Calls Tryd.prog 7 #[v] w fun e w' => e = .returned (.bool true) ∧ Below w.heap.size w w' := by
  obtain ⟨p, q, a, b, rfl, hp, hq, _, _⟩ := open_pair w v x h0
  clear h0 _hL x
  have hz := zero_run
  obtain ⟨c, hc⟩ : ∃ c, cutL a 120 = c := ⟨_, rfl⟩
  obtain ⟨d, hd⟩ : ∃ d, cutL b 120 = d := ⟨_, rfl⟩
  have hcs : c.size ≤ 120 := by rw [← hc]; exact (cutL_le a 120).1
  have hds : d.size ≤ 120 := by rw [← hd]; exact (cutL_le b 120).1
  have hE := frames_eq p q hp hq c d (by omega) (by omega)
  obtain ⟨F, hF⟩ : ∃ F, frameB (UInt8.ofNat p) c = F := ⟨_, rfl⟩
  obtain ⟨G, hG⟩ : ∃ G, frameB (UInt8.ofNat q) d = G := ⟨_, rfl⟩
  rw [hF, hG] at hE
  have HE := Lib.hid hE
  have HF := Lib.hid hF
  have HG := Lib.hid hG
  clear hE hF hG
  go_enter Tryd.func7, Tryd.ntmps7
  go_wp2_with fail
  refine (awake_any _).mono ?_; rintro e w1 ⟨rfl, hb1⟩
  have hb0 : Below w.heap.size w w1 := ((Below.refl w.heap.size w).alloc (Nat.le_refl _) _).trans (hb1.mono (by simp))
  have hg1 : w1.heap[w.heap.size]? = some (.cells #[.int .u8 (p : Int), .int .u8 (q : Int), .string a, .string b] 52 (0, 0)) := (hb1.block _ (by simp)).trans (heap_alloc_new w _)
  have hs0 := hb0.size
  clear hb1
  go_wp2_with fail
  refine (make_any _).mono ?_; rintro e w2 ⟨rfl, hb2⟩
  have hl1 : w.heap.size < w1.heap.size := by rcases Array.getElem?_eq_some_iff.1 hg1 with ⟨h, _⟩; exact h
  go_wp2_with (refine wpList_store_row rfl 26 _ _ rfl _ table rfl rfl 26 zeros (heap_alloc_last _ _) (by rw [table_size]; exact tableInfo) (by rw [table_size, zeros_size]) table_cells ?_; rw [World.setRow_alloc_new])
  have hT := Lib.hid (tab_new w2 26)
  have hb3 : Below w.heap.size w (w2.alloc (.cells table 26)) := (hb0.trans (hb2.mono hs0)).alloc (Nat.le_trans hs0 hb2.size) _
  have hs3 := hb3.size
  have hg3 := heap_alloc_lt (.cells table 26) ((hb2.block _ hl1).trans hg1)
  clear hb0 hb2 hg1 hl1
  generalize w2.heap.size = B at *
  generalize w2.alloc (.cells table 26) = w3 at *
  have k0 : w3.cell? ⟨w.heap.size, 0, none⟩ = some (.int .u8 (p : Int)) := Go.Joins.cell_of_block hg3 0
  have k1 : w3.cell? ⟨w.heap.size, 1, none⟩ = some (.int .u8 (q : Int)) := Go.Joins.cell_of_block hg3 1
  have k2 : w3.cell? ⟨w.heap.size, 2, none⟩ = some (.string a) := Go.Joins.cell_of_block hg3 2
  have k3 : w3.cell? ⟨w.heap.size, 3, none⟩ = some (.string b) := Go.Joins.cell_of_block hg3 3
  go_wp2_with fail
  go_region_held3 (fun w' => w'.cell? ⟨w.heap.size, 0, none⟩ = some (.int .u8 (p : Int)) ∧ w'.cell? ⟨w.heap.size, 1, none⟩ = some (.int .u8 (q : Int)) ∧ w'.cell? ⟨w.heap.size, 2, none⟩ = some (.string a) ∧ w'.cell? ⟨w.heap.size, 3, none⟩ = some (.string b) ∧ ∃ n, w' = w3.drewN n)
    (first | (with_reducible assumption) | exact ⟨k0, k1, k2, k3, 1, rfl⟩)
    (first
      | (go_at_call 10
         refine (cut_any _ _ 120 _ rfl).mono ?_
         rintro e w' ⟨rfl, rfl⟩))
  have hT3 : Hid (Tab w3.drew B) := Lib.hid (hT.out.drewN 1)
  have hb3' : Below w.heap.size w w3.drew := hb3.drew
  have hs3' := hb3'.size
  clear k0 k1 k2 k3 hT hb3 hs3 hg3 hc hd
  generalize w3.drew = w4 at *
  go_wp2_with fail
  refine (bytes_frame B p hp c _ (by exact hT3.out) (by omega)).mono ?_
  rintro e w5 ⟨rfl, hb5⟩
  rw [HF.out]
  have hT5 := Lib.hid (Tab.below (w := w4) (by exact hT3.out) hb5)
  have hb5' := hb3'.trans (hb5.mono hs3')
  have hs5 := hb5'.size
  clear hb3' hs3' hb5 hT3
  go_wp2_with fail
  refine (bytes_frame B q hq d _ hT5.out (by omega)).mono ?_
  rintro e w6 ⟨rfl, hb6⟩
  rw [HG.out]
  have hb6' := hb5'.trans (hb6.mono hs5)
  clear hb5' hs5 hb6
  have hE := HE.out
  go_wp2_with fail
  all_goals go_ret
  · exact ⟨rfl, hb6'⟩
  · have hne : ((p : Int) == (q : Int)) = false := by rw [beq_eq_false_iff_ne]; first | assumption | omega | simp_all
    exact ⟨congrArg (fun x => Ending.returned (.bool x)) (by rw [hne]; rfl), hb6'⟩

theorem own : ownKnob Tryd.prog.godebug = none := by kernel_rfl
theorem laidOut : laidOutB Tryd.prog = true := by kernel_rfl

set_option maxRecDepth 100000 in
theorem lifted (os : Os) (started : os.Started) (H : Type) (enc : TypeId × Value → H) :
    ReturnsInHanded {} Tryd.checked os 7 .any (fun w args => (Rows.frameUnlikeSpec.pre enc Tryd.prog Tryd.f7 Rows.frameUnlikeRow.domain false w args ∧ laidMetH Tryd.prog Rows.frameUnlikeRow.laid w) ∧ sizedMet enc Tryd.prog Tryd.f7 (OpenSpec.ofChange Rows.frameUnlikeSpec) false w args) (Rows.frameUnlikeSpec.post enc Tryd.prog Tryd.f7 false true false false) := by
  refine Base.law_laid (C := Tryd.checked) own started (by kernel_rfl) Tryd.func7 laidOut (by kernel_rfl) rfl Tryd.underlying4 rfl ?_
    (Base.laid_witness #[.agg #[.int .u8 0, .int .u8 0, .string ⟨#[]⟩, .string ⟨#[]⟩]] (World.shaped_of_ZipB (by kernel_rfl) (by kernel_rfl)) (by kernel_rfl) (by kernel_rfl) (by kernel_rfl) (by rw [MakeChecks.laidMetH_plain _ _ _ (by kernel_rfl)]; exact laidMet_laidAll _ (by kernel_rfl) (by kernel_rfl))) ?_
  · intro ds h
    match ds, h with
    | [_d0], _ => exact ⟨rfl, rfl, rfl⟩
  · intro W base args ds before hval0 hA0 hlt hsz hL
    have hval : ∀ (j : Nat) t v, Tryd.f7.params[j]? = some t → args[j]? = some v → Value.okWide Tryd.prog W .any base t v := hval0
    have hA : DataW.TrodAll enc Tryd.prog W 0 (fun _ => true) true Tryd.f7.params.toList args.toList ds before := hA0
    clear hval0 hA0
    rw [Tryd.params7] at hA hval hsz
    obtain ⟨v0, vs0, d0, ds0, p0, q0, hargs, rfl, rfl, h0, r0⟩ := trodAll_cons hA
    obtain ⟨rfl, rfl, rfl⟩ := trodAll_nil r0
    obtain rfl : args = #[v0] := by cases args; simp_all
    obtain ⟨x0, w0⟩ := Base.open_shape (s := (.struct [(.int .u8), (.int .u8), .str, .str])) (by kernel_rfl) (hval 0 52 v0 rfl rfl) h0 (fun x hx => hlt x (by simp [hx])) hsz (j := 0) rfl rfl
    exact walk W v0 x0 w0 hL

theorem over : Rows.frameUnlikeRow.holds Tryd.pinned (OpenSpec.ofChange Rows.frameUnlikeSpec) :=
  OpenClaim.holds_of_wide 7 Tryd.f7 rfl rfl rfl rfl rfl rfl rfl ⟨rfl, rfl, rfl, rfl, rfl⟩ rfl rfl rfl rfl rfl (by kernel_rfl) Tryd.func7 (by kernel_rfl)
    (of_decide_eq_true (by kernel_rfl)) (by unfold Func.isWrapper; first | (rw [if_pos (by decide +kernel)]; kernel_rfl) | (rw [if_neg (by decide +kernel)]; exact ⟨rfl, rfl⟩))
    (fun os started H enc _ => lifted os started H enc)

theorem proved : Rows.FrameUnlikeCardSaid :=
  Claim7.holds_tied_plain_at .later [] [.data, .pinned] true Rows.frameUnlikeCard.stood.harness false over (fun _ h => by cases h) (by kernel_rfl) (fun _ h => by cases h) frameUnlike_row_tie rfl ⟨rfl, rfl⟩ (by kernel_rfl) rfl
    (fun f fn hf hfn => by
      obtain rfl : f = 7 := Option.some.inj ((show Tryd.prog.funcNamed Rows.frameUnlikeRow.func = some 7 by kernel_rfl).symm.trans hf) |>.symm
      obtain rfl : fn = Tryd.f7 := (Option.some.inj (Tryd.func7.symm.trans hfn)).symm
      exact ⟨by kernel_rfl, fun j t ht => by
        rw [Tryd.params7] at ht
        have hm : t ∈ [52] := by simpa using Array.mem_of_getElem? ht
        have hall : ([52].all fun u => !Tryd.prog.wantsStandIn u) = true := by kernel_rfl
        exact (show Tryd.prog.wantsStandIn t = false by simpa using List.all_eq_true.1 hall t hm)⟩)
    (by kernel_rfl)
#print axioms proved
end Go.Proofs.YtkjephbfbagckaaDoor.frameUnlike
