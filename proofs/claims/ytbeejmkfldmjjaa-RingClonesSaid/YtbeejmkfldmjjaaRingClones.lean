/-
  RingClones is proved: one just like a row goes its own way, and so does the row; for every input the law returns true.
-/
import Derived.Test.YtbeejmkfldmjjaaBase
import Derived.Test.YtbeejmkfldmjjaaLaw04Play
import Derived.Test.YtbeejmkfldmjjaaRefSame
import Derived.Test.YtbeejmkfldmjjaaBaseThree
import Derived.Laws.BitsLemmas
namespace Go.Proofs.Ytbeejmkfldmjjaa.ringClones
open Go.ChangeShapes Go.WideShapes Go.ChangeAt Go.RowKit
set_option linter.unusedVariables false      -- a walk need not use every bound of an argument

open RingI View

theorem and15 (n : Int) : bits .and .i64 n 15 = n % 16 := by
  have h15 : (BitVec.ofInt 64 15).toNat = 2 ^ 4 - 1 := by decide
  have key : (BitVec.ofInt 64 n &&& BitVec.ofInt 64 15).toNat = (n % ((2 ^ 64 : Nat) : Int)).toNat % 2 ^ 4 := by
    rw [BitVec.toNat_and, BitVec.toNat_ofInt, h15, Nat.and_two_pow_sub_one_eq_mod]
  show IntKind.i64.wrap ((BitVec.ofInt 64 n &&& BitVec.ofInt 64 15).toNat : Nat) = n % 16
  rw [key, IntKind.wrap_i64]
  omega
theorem boxed4 (w : World) (a b c d : Value) : (w.alloc (.cells #[a, b, c, d] 52)).cell? ⟨w.heap.size, 0, none⟩ = some a ∧ (w.alloc (.cells #[a, b, c, d] 52)).cell? ⟨w.heap.size, 1, none⟩ = some b ∧
    (w.alloc (.cells #[a, b, c, d] 52)).cell? ⟨w.heap.size, 2, none⟩ = some c ∧ (w.alloc (.cells #[a, b, c, d] 52)).cell? ⟨w.heap.size, 3, none⟩ = some d := by
  have h := heap_alloc_new w (.cells #[a, b, c, d] 52)
  refine ⟨?_, ?_, ?_, ?_⟩ <;> rw [cell_of_row _ _ _ _ _ (0, 0) h] <;> rfl

set_option maxRecDepth 100000 in
set_option maxHeartbeats 4000000 in
theorem walk (w : World) (m : Int) (vb vc ve : Value) (B C E : List (Int × Int)) (w0 : (Lit.int .i64 m).wf = true) (pb : Base.Pairs w vb B) (pc : Base.Pairs w vc C) (pe : Base.Pairs w ve E) :
    Calls Try.prog 6 #[.agg #[.int .i64 m, vb, vc, ve]] w fun e w' => e = .returned (.bool true) ∧ Below w.heap.size w w' := by
  obtain ⟨ab, nb, cb, rfl, hnb, hrb⟩ := rd_acts pb
  obtain ⟨ac, nc, cc, rfl, hnc, hrc⟩ := rd_acts pc
  obtain ⟨ae, ne, ce, rfl, hne, hre⟩ := rd_acts pe
  have HB := Lib.hid hrb
  have HC := Lib.hid hrc
  have HE := Lib.hid hre
  have HNB := Lib.hid hnb
  have HNC := Lib.hid hnc
  have HNE := Lib.hid hne
  have hbx := boxed4 w (.int .i64 m) (.slice ab nb cb) (.slice ac nc cc) (.slice ae ne ce)
  have hba := (Below.refl w.heap.size w).alloc (Nat.le_refl _) (.cells #[.int .i64 m, .slice ab nb cb, .slice ac nc cc, .slice ae ne ce] 52)
  have hsz : w.heap.size < (w.alloc (.cells #[.int .i64 m, .slice ab nb cb, .slice ac nc cc, .slice ae ne ce] 52)).heap.size := by simp
  have HBX := Lib.hid hbx
  have HBA := Lib.hid hba
  clear w0 pb pc pe hrb hrc hre hnb hnc hne hbx hba
  go_enter Try.func6, Try.ntmps6
  go_wp2_with fail
  refine (awake_any _).mono ?_; rintro e x1 ⟨rfl, hb1⟩
  have hB : Below w.heap.size w x1 := HBA.out.trans (hb1.mono (by omega))
  obtain ⟨k0, k1, k2, k3⟩ := HBX.out
  replace k0 := (cell_below hb1 hsz).trans k0
  replace k1 := (cell_below hb1 hsz).trans k1
  replace k2 := (cell_below hb1 hsz).trans k2
  replace k3 := (cell_below hb1 hsz).trans k3
  clear hb1 hsz
  go_wp2_with fail
  go_quiet (fail)
  go_wp2_with fail
  rw [and15]
  obtain ⟨mm, hmm, hm1, hm2⟩ : ∃ mm : Nat, wrap64 (1 + m % 16) = (mm : Int) ∧ 1 ≤ mm ∧ mm ≤ 16 := ⟨(1 + m % 16).toNat, by unfold wrap64; omega, by omega, by omega⟩
  rw [hmm]
  clear hmm k0 k1 k2 k3
  refine (new_own w (x1.drewN nq) w.heap.size mm mm (by omega) (below_drewN hB _) hB.size).mono ?_; rintro e x2 ⟨R, rfl, _, h2⟩
  clear hB
  have H2 := Lib.hid h2
  clear h2
  go_wp2_with fail
  refine (play_any ab nb cb B H2.out HB.out rfl HNB.out).mono ?_; rintro e x3 ⟨⟨vv, rfl⟩, G3, h3, _, _⟩
  obtain ⟨L1, hL1⟩ : ∃ L1, acts mm [] (B.take 30) = L1 := ⟨_, rfl⟩
  rw [hL1] at h3
  have H3 := Lib.hid h3
  clear H2 h3 hL1
  go_wp2_with fail
  refine (clone_own H3.out).mono ?_; rintro e x4 ⟨P, gp, rfl, _, _, _, hp4, hr4, ha4, hb4⟩
  have HP4 := Lib.hid hp4
  have HR4 := Lib.hid hr4
  have HA4 := Lib.hid ha4
  clear H3 hp4 hr4 ha4 hb4
  go_wp2_with fail
  refine (clone_own HR4.out).mono ?_; rintro e x5 ⟨Q, gq, rfl, hQ5, hgq5, _, hq5, hr5, ha5, hb5⟩
  have HQ5 := Lib.hid hq5
  have HR5 := Lib.hid hr5
  have HP5 := Lib.hid (HP4.out.below hb5)
  have HPQ : Hid (Apart P (some gp) Q (some gq)) := Lib.hid ⟨by have := HP4.out.lt.1; omega, fun e => by have := HP4.out.lt.2 Q e; omega, fun e => by have := HP4.out.lt.1; injection e with e; omega, .inr fun e => by have := HP4.out.lt.2 gq e; omega⟩
  have HRQ := Lib.hid ha5
  have HRP := HA4
  clear HP4 HR4 HA4 hq5 hr5 ha5 hb5 hQ5 hgq5
  go_wp2_with fail
  refine (play_any ac nc cc C HR5.out HC.out rfl HNC.out).mono ?_; rintro e x6 ⟨⟨vv2, rfl⟩, G6, hr6, ho6, hG6⟩
  obtain ⟨L2, hL2⟩ : ∃ L2, acts mm L1 (C.take 30) = L2 := ⟨_, rfl⟩
  have HL2 := Lib.hid hL2
  rw [hL2] at hr6
  have HR6 := Lib.hid hr6
  have HP6 := Lib.hid (HP5.out.apart ho6 HRP.out.symm hr6.1)
  have HQ6 := Lib.hid (HQ5.out.apart ho6 HRQ.out.symm hr6.1)
  have HRP6 := Lib.hid (HRP.out.new HP5.out.lt.1 HP5.out.lt.2 hG6)
  have HRQ6 := Lib.hid (HRQ.out.new HQ5.out.lt.1 HQ5.out.lt.2 hG6)
  clear HR5 HP5 HQ5 HRP HRQ hr6 ho6 hG6 hL2
  go_wp2_with fail
  refine (play_any ae ne ce E HQ6.out HE.out rfl HNE.out).mono ?_; rintro e x7 ⟨⟨vv3, rfl⟩, G7, hq7, ho7, hG7⟩
  have HQ7 := Lib.hid hq7
  have HR7 := Lib.hid (HR6.out.apart ho7 HRQ6.out hq7.1)
  have HP7 := Lib.hid (HP6.out.apart ho7 HPQ.out hq7.1)
  have HPQ7 := Lib.hid (HPQ.out.symm.new HP6.out.lt.1 HP6.out.lt.2 hG7)
  clear HR6 HP6 HQ6 HPQ HRQ6 hq7 ho7 hG7
  go_wp2_with fail
  refine (play_any ac nc cc C HP7.out HC.out rfl HNC.out).mono ?_; rintro e x8 ⟨⟨vv4, rfl⟩, G8, hp8, ho8, hG8⟩
  rw [HL2.out] at hp8
  have HP8 := Lib.hid hp8
  have HR8 := Lib.hid (HR7.out.apart ho8 HRP6.out hp8.1)
  have HQ8 := Lib.hid (HQ7.out.apart ho8 HPQ7.out hp8.1)
  clear HR7 HP7 HQ7 HPQ7 HRP6 hp8 ho8 hG8
  go_wp2_with fail
  refine (all_any R mm L2 _ _ HR8.out.2.2.2.1).mono ?_; rintro e x9 ⟨ga, rfl, hga, hca, hb9⟩
  have HR9 := Lib.hid (HR8.out.below hb9)
  have HP9 := Lib.hid (HP8.out.below hb9)
  have HQ9 := Lib.hid (HQ8.out.below hb9)
  have HA9 := Lib.hid (rdI_row hca)
  clear HR8 HP8 HQ8 hca hb9 hga
  go_wp2_with fail
  refine (all_any P mm L2 _ _ HP9.out.2.2.2.1).mono ?_; rintro e x10 ⟨gb, rfl, hgb, hcb, hb10⟩
  have HR10 := Lib.hid (HR9.out.below hb10)
  have HP10 := Lib.hid (HP9.out.below hb10)
  have HQ10 := Lib.hid (HQ9.out.below hb10)
  have HA10 := Lib.hid (HA9.out.below hb10)
  have HB10 := Lib.hid (rdI_row hcb)
  clear HR9 HP9 HQ9 HA9 hcb hb10 hgb
  have hlen : L2.length ≤ 1000000 := by have := HR10.out.facts; omega
  go_wp2_with fail
  refine (Ref.rsame_any _ _ _ L2 _ _ _ L2 _ HA10.out HB10.out hlen hlen).mono ?_; rintro e x11 ⟨rfl, hb11⟩
  have HR11 := Lib.hid (HR10.out.below hb11)
  have HP11 := Lib.hid (HP10.out.below hb11)
  have HQ11 := Lib.hid (HQ10.out.below hb11)
  clear HR10 HP10 HQ10 HA10 HB10 hb11
  rw [decide_eq_true rfl]
  go_wp2_with fail
  refine (room_any R mm L2 _ _ HR11.out.2.2.2.1).mono ?_; rintro e x12 ⟨rfl, q12, rfl⟩
  go_wp2_with fail
  refine (room_any P mm L2 _ _ (HP11.out.drewN _).2.2.2.1).mono ?_; rintro e x13 ⟨rfl, q13, rfl⟩
  go_wp2_with fail
  refine (most_any Q mm _ _ _ (HQ11.out.drewN _).2.2.2.1).mono ?_; rintro e x14 ⟨rfl, rfl⟩
  go_wp2_with fail
  refine (most_any R mm _ _ _ (HR11.out.drewN _).2.2.2.1).mono ?_; rintro e x15 ⟨rfl, rfl⟩
  go_wp2_with fail
  go_ret
  exact ⟨rfl, (HR11.out.drewN _).1⟩

theorem own : ownKnob Try.prog.godebug = none := by kernel_rfl
theorem laidOut : laidOutB Try.prog = true := by kernel_rfl

set_option maxRecDepth 100000 in
theorem lifted (os : Os) (started : os.Started) (H : Type) (enc : TypeId × Value → H) :
    ReturnsInHanded {} Try.checked os 6 .any (Rows.ringClonesSpec.pre6 enc Try.prog Try.f6 Rows.ringClonesRow.domain false) (Rows.ringClonesSpec.post enc Try.prog Try.f6 false true false false) := by
  refine Base.law_lifted (C := Try.checked) own started (by kernel_rfl) Try.func6 laidOut (by kernel_rfl) rfl Try.underlying4 rfl ?_
    (ChangeSpec.witness6 (enc := enc) (C := Try.checked) false ⟨#[], #[.agg #[.int .i64 0, .slice none 0 0, .slice none 0 0, .slice none 0 0]], []⟩ 8 (by kernel_rfl) (by kernel_rfl) (by kernel_rfl) (by kernel_rfl)) ?_
  · intro ds h
    match ds, h with
    | [_d0], _ => exact ⟨rfl, rfl, rfl⟩
  · intro W base args ds before hval0 hA0 hlt hsz
    have hval : ∀ (j : Nat) t v, Try.f6.params[j]? = some t → args[j]? = some v → Value.okWide Try.prog W .any base t v := hval0
    have hA : DataW.TrodAll enc Try.prog W 0 (fun _ => true) true Try.f6.params.toList args.toList ds before := hA0
    clear hval0 hA0
    rw [Try.params6] at hA hval hsz
    obtain ⟨v0, vs0, d0, ds0, p0, q0, hargs, rfl, rfl, h0, r0⟩ := trodAll_cons hA
    obtain ⟨rfl, rfl, rfl⟩ := trodAll_nil r0
    obtain rfl : args = #[v0] := by cases args; simp_all
    obtain ⟨a0, b0, c0, e0, B0, C0, E0, rfl, w0, pb0, pc0, pe0⟩ := Base.open_three Try.underlying52 (by kernel_rfl) (by kernel_rfl) rfl rfl rfl rfl Try.underlying22 Try.underlying28 (by kernel_rfl) rfl rfl rfl rfl Try.underlying3 (by kernel_rfl) (hval 0 52 v0 rfl rfl) h0 (fun x hx => hlt x (by simp [hx]))
    exact walk W a0 b0 c0 e0 B0 C0 E0 w0 pb0 pc0 pe0

theorem over : Rows.ringClonesRow.holds Try.pinned (OpenSpec.ofChange Rows.ringClonesSpec) :=
  OpenClaim.holds_of_wide 6 Try.f6 rfl rfl rfl rfl rfl rfl rfl ⟨rfl, rfl, rfl, rfl, rfl⟩ rfl rfl rfl rfl rfl (by kernel_rfl) Try.func6 (by kernel_rfl)
    (of_decide_eq_true (by kernel_rfl)) (by unfold Func.isWrapper; first | (rw [if_pos (by decide +kernel)]; kernel_rfl) | (rw [if_neg (by decide +kernel)]; exact ⟨rfl, rfl⟩))
    (fun os started H enc _ => lifted os started H enc)

theorem proved : Rows.RingClonesSaid :=
  over
#print axioms proved
end Go.Proofs.Ytbeejmkfldmjjaa.ringClones
