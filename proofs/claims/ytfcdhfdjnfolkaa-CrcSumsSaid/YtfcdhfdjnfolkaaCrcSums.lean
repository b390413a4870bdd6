/-
  CrcSums is proved: sums are the document's, in whatever parts the bytes come.
-/
import Derived.Test.YtfcdhfdjnfolkaaBase
import Derived.Test.YtfcdhfdjnfolkaaCrcAwake
import Derived.Deep.DeepCutAuto
namespace Go.Proofs.Ytfcdhfdjnfolkaa.crcSums
open Go.ChangeShapes Go.WideShapes Go.ChangeAt Go.RowKit
set_option linter.unusedVariables false      -- a walk need not use every bound of an argument

open CrcMath CrcCalls
/-- a text in three parts -/
def three (p t : ByteArray) (i : Nat) : ByteArray := if i = 0 then p else if i = 1 then ⟨#[]⟩ else t
theorem cat_three (c : ByteArray) (k : Nat) (hk : k ≤ c.size) (p t : ByteArray) (hp : c.extract 0 k = p) (ht : c.extract k c.size = t) : cat (three p t) 3 = c.data.toList := by
  have hl : c.data.toList.length = c.size := rfl
  have e : cat (three p t) 3 = p.data.toList ++ t.data.toList := by simp [cat, List.range_succ, three]
  rw [e, ← hp, ← ht, ByteArray.data_extract, ByteArray.data_extract, Array.toList_extract, Array.toList_extract, List.extract_eq_take_drop, List.extract_eq_take_drop]
  rw [List.take_of_length_le (l := List.drop k c.data.toList) (by rw [List.length_drop]; omega)]
  simp
theorem three_size (p t : ByteArray) (hp : p.size ≤ 140737488351232) (ht : t.size ≤ 140737488351232) : ∀ i, i < 3 → (three p t i).size ≤ 140737488351232 := by
  intro i _
  unfold three
  split
  · exact hp
  · split
    · decide
    · exact ht
theorem three_cells (W : World) (n : Nat) (hn : n = W.heap.size) (p t : ByteArray) (i : Nat) (hi : i < 3) :
    (W.alloc (.cells #[.string p, .string ⟨#[]⟩, .string t] 9)).cell? ⟨n, 0 + i, none⟩ = some (.string (three p t i)) := by
  have h3 : i = 0 ∨ i = 1 ∨ i = 2 := by omega
  rw [World.cell?_alloc_at _ _ _ _ hn, Nat.zero_add]
  rcases h3 with rfl | rfl | rfl <;> rfl

set_option maxHeartbeats 2000000 in
theorem walk (w : World) (a0 : ByteArray) (w0 : a0.size ≤ 140737488351232) (a1 : Int) (w1 : (Lit.int .i64 a1).wf = true) :
    Calls Try.prog 3 #[.string a0, .int .i64 a1] w fun e w' => e = .returned (.bool true) ∧ Below w.heap.size w w' := by
  obtain ⟨n1, n2⟩ := bounds_i64 w1
  obtain ⟨c, hc⟩ : ∃ c, cutL a0 100 = c := ⟨_, rfl⟩
  have hcs : c.size ≤ 100 := by rw [← hc]; exact (cutL_le a0 100).1
  have hz := zero_run
  go_enter Try.func3, Try.ntmps3
  go_wp2_with fail
  refine (awake_any _).mono ?_; rintro e w1 ⟨rfl, hb1⟩
  go_wp2_with fail
  refine (cut_any _ _ 100 _ rfl).mono ?_; rintro e w' ⟨rfl, rfl⟩
  rw [hc]
  go_upto_region 4 with (fail)
  go_cut [5] (fun s5 wx => ∃ k : Nat, s5 = .int .i64 k ∧ k ≤ c.size ∧ wx = w1)
  case first =>
    go_wp2_with fail
    all_goals go_meet
    all_goals first
      | exact ⟨c.size, rfl, Nat.le_refl _, rfl⟩
      | exact ⟨0, rfl, Nat.zero_le _, rfl⟩
      | exact ⟨a1.toNat, by rw [show ((a1.toNat : Nat) : Int) = a1 from by omega], by omega, rfl⟩
  case rest =>
    obtain ⟨k, rfl, hk, rfl⟩ := hcut
    have hk1 : (0 : Int) ≤ (k : Int) := by omega
    have hk2 : (k : Int) ≤ (c.size : Int) := by omega
    obtain ⟨p, hp⟩ : ∃ p, c.extract 0 k = p := ⟨_, rfl⟩
    obtain ⟨t, ht⟩ : ∃ t, c.extract k c.size = t := ⟨_, rfl⟩
    have hpz : p.size ≤ 100 := by rw [← hp, ByteArray.size_extract]; omega
    have htz : t.size ≤ 100 := by rw [← ht, ByteArray.size_extract]; omega
    have HC := Lib.hid (cat_three c k hk p t hp ht)
    have hadd : ∀ w, (Op.stringOp .add c (wordB (sum c.data.toList))).run Try.prog w = .ok (.string (sealB c)) w := fun w => by
      rw [run_string_add_sum _ _ _ (by rw [wordB_size]; omega), sealB_eq]
    go_wp2_with fail
    refine (make_any _).mono ?_; rintro e w2 ⟨rfl, hb2⟩
    go_wp2_with (refine wpList_store_row rfl 26 _ _ rfl _ table rfl rfl 26 zeros (heap_alloc_last _ _) (by rw [table_size]; exact tableInfo) (by rw [table_size, zeros_size]) table_cells ?_; rw [World.setRow_alloc_new])
    have hT := Lib.hid (tab_new w2 26)
    have hb3 : Below w.heap.size w (w2.alloc (.cells table 26)) := (hb1.trans (hb2.mono hb1.size)).alloc (Nat.le_trans hb1.size hb2.size) _
    have hs3 := hb3.size
    clear hb1 hb2
    generalize w2.heap.size = B at *
    generalize w2.alloc (.cells table 26) = w3 at *
    go_region_held3 (fun w' => Below w3.heap.size w3 w')
      (first
        | (with_reducible assumption)
        | (with_reducible exact (Below.refl _ _).drew)
        | (with_reducible exact below_drewN ((Below.refl _ _).alloc (Nat.le_refl _) _) _)
        | (with_reducible exact ((Below.refl _ _).alloc (Nat.le_refl _) _).drew)
        | (with_reducible exact (below_drewN ((Below.refl _ _).alloc (Nat.le_refl _) _) _).alloc (by simp) _)
        | (with_reducible exact below_drewN ((below_drewN ((Below.refl _ _).alloc (Nat.le_refl _) _) _).alloc (by simp) _) _)
        | (with_reducible exact below_drewN (((Below.refl _ _).alloc (Nat.le_refl _) _).alloc (by simp) _) _))
      (first
        | (go_at_call_of 12 (Value.slice (some ⟨w3.heap.size, 0, none⟩) 1 1)
           refine (sum_any B w3.heap.size 0 1 _ (fun _ => c) _ (by omega) (by exact (hT.out.alloc _).drewN 1) (by intro i hi; rw [show 0 + i = 0 from by omega]; simp) (fun _ _ => by omega)).mono ?_
           rintro e w' ⟨rfl, q, rfl⟩
           rw [cat_one])
        | (go_at_call 13
           refine (rsum_any c _ (by omega)).mono ?_
           rintro e w' ⟨rfl, rfl⟩)
        | (go_at_call 14
           refine (seal_any B c _ (by exact (((hT.out.alloc _).drewN _).alloc _).drewN _) (by omega)).mono ?_
           rintro e w6 ⟨rfl, hb6⟩
           have hb6' : Below w3.heap.size w3 w6 := (below_drewN ((below_drewN ((Below.refl _ _).alloc (Nat.le_refl _) _) _).alloc (by simp) _) _).trans (hb6.mono (by simp; omega))
           clear hb6)
        | (go_at_call 15
           refine (four_any _ (sum c.data.toList) _ rfl).mono ?_
           rintro e w7 ⟨rfl, hb7⟩
           have hb7' : Below w3.heap.size w3 w7 := hb6'.trans (hb7.mono hb6'.size)
           clear hb7)
        | (go_at_call 12
           refine (sum_any B (w3.heap.size + 1) 0 3 _ (three p t) _ (by omega) (by exact ((hT.out.alloc _).drewN _).alloc _) (by intro i hi; exact three_cells _ _ (by simp) _ _ _ hi) (three_size p t (by omega) (by omega))).mono ?_
           rintro e w' ⟨rfl, q2, rfl⟩
           rw [HC.out]))
    go_wp2_with fail
    go_ret
    exact ⟨rfl, hb3.trans (hb7'.mono hs3)⟩

theorem own : ownKnob Try.prog.godebug = none := by kernel_rfl
theorem laidOut : laidOutB Try.prog = true := by kernel_rfl

set_option maxRecDepth 100000 in
theorem lifted (os : Os) (started : os.Started) (H : Type) (enc : TypeId × Value → H) :
    ReturnsInHanded {} Try.checked os 3 .any (Rows.crcSumsSpec.pre6 enc Try.prog Try.f3 Rows.crcSumsRow.domain false) (Rows.crcSumsSpec.post enc Try.prog Try.f3 false true false false) := by
  refine Base.law_lifted (C := Try.checked) own started (by kernel_rfl) Try.func3 laidOut (by kernel_rfl) rfl Try.underlying4 rfl ?_
    (ChangeSpec.witness6 (enc := enc) (C := Try.checked) false ⟨#[], #[.string ⟨#[]⟩, .int .i64 0], []⟩ 8 (by kernel_rfl) (by kernel_rfl) (by kernel_rfl) (by kernel_rfl)) ?_
  · intro ds h
    match ds, h with
    | [_d0, _d1], _ => exact ⟨rfl, rfl, rfl⟩
  · intro W base args ds before hval0 hA0 hlt hsz
    have hval : ∀ (j : Nat) t v, Try.f3.params[j]? = some t → args[j]? = some v → Value.okWide Try.prog W .any base t v := hval0
    have hA : DataW.TrodAll enc Try.prog W 0 (fun _ => true) true Try.f3.params.toList args.toList ds before := hA0
    clear hval0 hA0
    rw [Try.params3] at hA hval hsz
    obtain ⟨v0, vs0, d0, ds0, p0, q0, hargs, rfl, rfl, h0, r0⟩ := trodAll_cons hA
    obtain ⟨v1, vs1, d1, ds1, p1, q1, rfl, rfl, rfl, h1, r1⟩ := trodAll_cons r0
    obtain ⟨rfl, rfl, rfl⟩ := trodAll_nil r1
    obtain rfl : args = #[v0, v1] := by cases args; simp_all
    obtain ⟨a0, rfl, rfl, rfl, _⟩ := Go.ChangeMaps.open_string Try.underlying9 (hval 0 9 v0 rfl rfl) h0
    have w0 : a0.size ≤ 140737488351232 := by have := sized_string hsz (j := 0) rfl rfl; simpa [reachBytes] using this
    obtain ⟨a1, rfl, rfl, rfl, w1⟩ := open_int Try.underlying3 (hval 1 3 v1 rfl rfl) h1
    exact walk W a0 w0 a1 w1

theorem over : Rows.crcSumsRow.holds Try.pinned (OpenSpec.ofChange Rows.crcSumsSpec) :=
  OpenClaim.holds_of_wide 3 Try.f3 rfl rfl rfl rfl rfl rfl rfl ⟨rfl, rfl, rfl, rfl, rfl⟩ rfl rfl rfl rfl rfl (by kernel_rfl) Try.func3 (by kernel_rfl)
    (of_decide_eq_true (by kernel_rfl)) (by unfold Func.isWrapper; first | (rw [if_pos (by decide +kernel)]; kernel_rfl) | (rw [if_neg (by decide +kernel)]; exact ⟨rfl, rfl⟩))
    (fun os started H enc _ => lifted os started H enc)

theorem proved : Rows.CrcSumsSaid :=
  over
#print axioms proved
end Go.Proofs.Ytfcdhfdjnfolkaa.crcSums
