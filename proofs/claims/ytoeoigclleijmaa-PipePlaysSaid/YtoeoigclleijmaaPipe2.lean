/-
  A pipe's Put and Take.
-/
import Derived.Test.YtoeoigclleijmaaPipe1
import Derived.Test.YtoeoigclleijmaaTurnP
import Derived.Deep.DeepCutAuto
namespace Go.Proofs.Ytoeoigclleijmaa.PipeS
open Go.RowKit RingS TurnP

def outK (s : ByteArray) (k at_ mask : Int) : ByteArray := if k = 1 then ⟨#[]⟩ else if k = 2 then turnB s mask at_ else s
def sameK (s : ByteArray) (k at_ mask : Int) : Bool := decide (k ≠ 1) && decide (outK s k at_ mask = s)

theorem ne_toList {a b : ByteArray} (h : a ≠ b) : (a.toList == b.toList) = false := by
  rw [beq_eq_false_iff_ne]
  intro e
  rw [ByteArray.toList_eq, ByteArray.toList_eq] at e
  exact h (ByteArray.ext (Array.ext' e))
theorem pturn_any (s : ByteArray) (k at_ mask : Int) (x : World) (hs : s.size ≤ 1000) (hat1 : -1000 ≤ at_) (hat : at_ ≤ 100000) (hm1 : 0 ≤ mask) (hm2 : mask < 4294967296) (hk : k ≠ 1) :
    Calls Try.prog 21 #[.agg #[.int .i64 k, .int .i64 at_, .int .u32 mask], .string s] x fun e x' => e = .returned (.string (outK s k at_ mask)) ∧ Below x.heap.size x x' := by
  unfold outK
  rw [if_neg hk]
  by_cases h2 : k = 2
  · subst h2
    rw [if_pos rfl]
    go_enter Try.func21, Try.ntmps21
    go_wp2_with fail
    refine (flipf_any s at_ mask _ hs hat1 hat hm1 hm2).mono ?_; rintro e x1 ⟨rfl, hb⟩
    go_wp2_with fail
    go_ret
    exact ⟨rfl, ((Below.refl _ _).alloc (Nat.le_refl _) _).trans (hb.mono (by simp))⟩
  · rw [if_neg h2]
    have h3 : (k != 2) = true := by simpa using h2
    go_enter Try.func21, Try.ntmps21
    go_wp2_with fail
    go_ret
    exact ⟨rfl, (Below.refl _ _).alloc (Nat.le_refl _) _⟩

theorem pput_any {w x : World} {base B R most : Nat} {L : List V} {G : Option Nat} {p c h : Nat} (s : ByteArray) (hp : p ≤ 1000000) (H : PAt w base B R most L G p c h x) :
    Calls Try.prog 15 #[.pointer (some ⟨B, 0, none⟩), .string s] x fun e x' => e = .returned (.int .i64 (fullCode most L)) ∧ ∃ G', PAt w base B R most (putRow most L s) G' (if L.length < most then p + 1 else p) c h x' ∧ POnly x x' B R G ∧ (G' = G ∨ ∃ g, G' = some g ∧ x.heap.size ≤ g) := by
  obtain ⟨h0, h1, h2, h3, hz⟩ := H.cells
  have H0 := Lib.hid H
  have hw : IntKind.i64.wrap ((p : Int) + 1) = (p : Int) + 1 := by rw [IntKind.wrap_i64]; omega
  clear H
  obtain ⟨fc, hfc⟩ : ∃ fc, fullCode most L = fc := ⟨_, rfl⟩
  obtain ⟨p', hp'⟩ : ∃ p', (if L.length < most then p + 1 else p) = p' := ⟨_, rfl⟩
  rw [hfc, hp']
  have HF : Hid ((fc = 0 ∧ p' = p + 1) ∨ (fc = 7 ∧ p' = p)) := Lib.hid (by
    rw [← hfc, ← hp']; unfold fullCode
    split
    · exact .inl ⟨rfl, rfl⟩
    · exact .inr ⟨rfl, rfl⟩)
  clear hp'
  have HFC := Lib.hid hfc
  clear hfc
  go_enter Try.func15, Try.ntmps15
  go_wp2_with fail
  refine (put_own s H0.out.mine).mono ?_; rintro e x1 ⟨rfl, G1, hm1, ho1, hG1⟩
  rw [HFC.out]
  have H1 := Lib.hid (H0.out.row ho1 hm1 (.inr hG1))
  have HO1 : Hid (POnly x x1 B R G) := Lib.hid (POnly.of_only ho1)
  clear h0 h1 h2 h3 hz hm1 ho1
  obtain ⟨h0, h1, h2, h3, hz⟩ := H1.out.cells
  have hz1 := hz 1
  clear hz
  rcases HF.out with ⟨rfl, rfl⟩ | ⟨rfl, rfl⟩
  · go_wp2_with fail
    go_ret
    exact ⟨rfl, G1, H1.out.set 1 _ _ _ _ rfl, HO1.out.setCell _ _, hG1⟩
  · go_wp2_with fail
    go_ret
    exact ⟨rfl, G1, H1.out, HO1.out, hG1⟩

theorem ptake_none {w x : World} {base B R most : Nat} {G : Option Nat} {p c h : Nat} (k at_ mask : Int) (H : PAt w base B R most [] G p c h x) :
    Calls Try.prog 11 #[.pointer (some ⟨B, 0, none⟩), .agg #[.int .i64 k, .int .i64 at_, .int .u32 mask]] x fun e x' => e = .returned (.tuple #[.string ⟨#[]⟩, .bool false, .bool false]) ∧ PAt w base B R most [] G p c h x' ∧ POnly x x' B R G := by
  obtain ⟨h0, h1, h2, h3, hz⟩ := H.cells
  have hlt := H.lt
  have H0 := Lib.hid H
  clear H hz
  go_enter Try.func11, Try.ntmps11
  go_wp2_with fail
  have hb1 : Below x.heap.size x (x.alloc (.cells #[.int .i64 k, .int .i64 at_, .int .u32 mask] 29)) := (Below.refl _ _).alloc (Nat.le_refl _) _
  refine (take_own (H0.out.below hb1).mine).mono ?_; rintro e x1 ⟨rfl, hm1, ho1⟩
  have H1 := Lib.hid ((H0.out.below hb1).row ho1 hm1 (.inr (.inl rfl)))
  have HO1 : Hid (POnly x x1 B R G) := Lib.hid ⟨ho1.os.trans hb1.os, ho1.tape.trans hb1.tape, ho1.output.trans hb1.output, Nat.le_trans hb1.size ho1.size, fun j hj _ h2 h3 => (ho1.block j (Nat.lt_of_lt_of_le hj hb1.size) h2 h3).trans (hb1.block j hj)⟩
  rw [show noneCode ([] : List V) = 9 from rfl, show enc (headRow ([] : List V)) = .string ⟨#[]⟩ from rfl]
  clear hm1 ho1 hb1
  go_wp2_with fail
  go_ret3
  exact ⟨rfl, H1.out, HO1.out⟩

set_option maxHeartbeats 2000000 in
theorem ptake_any {w x : World} {base B R most : Nat} {y : ByteArray} {L : List V} {G : Option Nat} {p c h : Nat} (k at_ mask : Int) (hs : y.size ≤ 1000) (hat1 : -1000 ≤ at_) (hat : at_ ≤ 100000) (hm1 : 0 ≤ mask) (hm2 : mask < 4294967296) (hc : c ≤ 1000000) (hh : h ≤ 1000000) (H : PAt w base B R most (y :: L) G p c h x) :
    Calls Try.prog 11 #[.pointer (some ⟨B, 0, none⟩), .agg #[.int .i64 k, .int .i64 at_, .int .u32 mask]] x fun e x' => e = .returned (.tuple #[.string (outK y k at_ mask), .bool true, .bool (decide (k ≠ 1))]) ∧ PAt w base B R most L G p (if sameK y k at_ mask then c + 1 else c) (if sameK y k at_ mask then h else h + 1) x' ∧ POnly x x' B R G := by
  obtain ⟨h0, h1, h2, h3, hz⟩ := H.cells
  have hlt := H.lt
  have H0 := Lib.hid H
  have hwc : IntKind.i64.wrap ((c : Int) + 1) = (c : Int) + 1 := by rw [IntKind.wrap_i64]; omega
  have hwh : IntKind.i64.wrap ((h : Int) + 1) = (h : Int) + 1 := by rw [IntKind.wrap_i64]; omega
  have hlm := hs
  have HY := Lib.hid (And.intro hs (And.intro hat1 (And.intro hat (And.intro hm1 hm2))))
  clear H hz hs hlm hat1 hat hm1 hm2
  obtain ⟨v, hv⟩ : ∃ v, outK y k at_ mask = v := ⟨_, rfl⟩
  obtain ⟨dk, hdk⟩ : ∃ dk, decide (k ≠ 1) = dk := ⟨_, rfl⟩
  obtain ⟨c', hc'⟩ : ∃ c', (if sameK y k at_ mask then c + 1 else c) = c' := ⟨_, rfl⟩
  obtain ⟨h', hh'⟩ : ∃ h', (if sameK y k at_ mask then h else h + 1) = h' := ⟨_, rfl⟩
  rw [hv, hdk, hc', hh']
  have HF : Hid ((k = 1 ∧ v = ⟨#[]⟩ ∧ dk = false ∧ c' = c ∧ h' = h + 1) ∨ (k ≠ 1 ∧ outK y k at_ mask = v ∧ dk = true ∧ ((v = y ∧ c' = c + 1 ∧ h' = h) ∨ (v ≠ y ∧ c' = c ∧ h' = h + 1)))) := Lib.hid (by
    have hsm : sameK y k at_ mask = (decide (k ≠ 1) && decide (v = y)) := by unfold sameK; rw [hv]
    rw [hsm] at hc' hh'
    by_cases hk : k = 1
    · left
      subst hk
      exact ⟨rfl, hv.symm, hdk.symm, hc'.symm, hh'.symm⟩
    · right
      have hd1 : decide (k ≠ 1) = true := decide_eq_true hk
      rw [hd1] at hc' hh' hdk
      refine ⟨hk, hv, hdk.symm, ?_⟩
      by_cases hy : v = y
      · rw [decide_eq_true hy] at hc' hh'
        exact .inl ⟨hy, hc'.symm, hh'.symm⟩
      · rw [decide_eq_false hy] at hc' hh'
        exact .inr ⟨hy, hc'.symm, hh'.symm⟩)
  clear hv hdk hc' hh'
  go_enter Try.func11, Try.ntmps11
  go_wp2_with fail
  have hb1 : Below x.heap.size x (x.alloc (.cells #[.int .i64 k, .int .i64 at_, .int .u32 mask] 29)) := (Below.refl _ _).alloc (Nat.le_refl _) _
  have HK := Lib.hid (heap_alloc_new x (.cells #[.int .i64 k, .int .i64 at_, .int .u32 mask] 29))
  have HS : Hid (x.heap.size < (x.alloc (.cells #[.int .i64 k, .int .i64 at_, .int .u32 mask] 29)).heap.size) := Lib.hid (by simp)
  clear h0 h1 h2 h3
  generalize x.alloc (.cells #[.int .i64 k, .int .i64 at_, .int .u32 mask] 29) = x0 at *
  have H0' := Lib.hid (H0.out.below hb1)
  refine (take_own H0'.out.mine).mono ?_; rintro e x1 ⟨rfl, hm1, ho1⟩
  have H1 := Lib.hid (H0'.out.row ho1 hm1 (.inr (.inl rfl)))
  have HO1 : Hid (POnly x x1 B R G) := Lib.hid ⟨ho1.os.trans hb1.os, ho1.tape.trans hb1.tape, ho1.output.trans hb1.output, Nat.le_trans hb1.size ho1.size, fun j hj _ h2 h3 => (ho1.block j (Nat.lt_of_lt_of_le hj hb1.size) h2 h3).trans (hb1.block j hj)⟩
  rw [show noneCode (y :: L) = 0 from rfl, show enc (headRow (y :: L)) = .string y from rfl]
  have HK1 : Hid (x1.heap[x.heap.size]? = some (.cells #[.int .i64 k, .int .i64 at_, .int .u32 mask] 29 (0, 0))) := Lib.hid ((ho1.block _ HS.out (by have := H0.out.mine.2.2.2.1.facts.2.2.1; omega) (fun e => by have := H0.out.mine.2.2.2.1.facts.2.2.2 _ e; omega)).trans HK.out)
  change Hid (PAt w base B R most L G p c h x1) at H1
  clear hm1 ho1 hb1 H0 H0' HK HS hlt
  obtain ⟨h0, h1, h2, h3, hz⟩ := H1.out.cells
  have hz2 := hz 2
  have hz3 := hz 3
  have kk0 : x1.cell? ⟨x.heap.size, 0, none⟩ = some (.int .i64 k) := by rw [cell_of_row x1 _ 0 _ _ (0, 0) HK1.out]; rfl
  have kk1 : x1.cell? ⟨x.heap.size, 1, none⟩ = some (.int .i64 at_) := by rw [cell_of_row x1 _ 1 _ _ (0, 0) HK1.out]; rfl
  have kk2 : x1.cell? ⟨x.heap.size, 2, none⟩ = some (.int .u32 mask) := by rw [cell_of_row x1 _ 2 _ _ (0, 0) HK1.out]; rfl
  clear hz
  rcases HF.out with ⟨rfl, rfl, rfl, rfl, rfl⟩ | ⟨hk, hv, rfl, hcase⟩
  · go_wp2_with fail
    go_ret3
    exact ⟨rfl, H1.out.set 3 _ _ _ _ rfl, HO1.out.setCell _ _⟩
  · have hk2 : (k == 1) = false := by simpa using hk
    have HKN := Lib.hid hk
    have HV := Lib.hid hv
    have HC := Lib.hid hcase
    clear hv hk hcase HF
    go_wp2_with fail
    refine (pturn_any y k at_ mask x1 HY.out.1 HY.out.2.1 HY.out.2.2.1 HY.out.2.2.2.1 HY.out.2.2.2.2 HKN.out).mono ?_; rintro e x2 ⟨rfl, hb2⟩
    rw [HV.out]
    have H2 := Lib.hid (H1.out.below hb2)
    have HO2 := Lib.hid (HO1.out.then_below hb2)
    clear h0 h1 h2 h3 hz2 hz3 kk0 kk1 kk2 hb2 H1 HO1
    obtain ⟨h0, h1, h2, h3, hz⟩ := H2.out.cells
    have hz2 := hz 2
    have hz3 := hz 3
    clear hz
    rcases HC.out with ⟨rfl, rfl, rfl⟩ | ⟨hvy, rfl, rfl⟩
    · go_wp2_with fail
      go_ret3
      exact ⟨rfl, H2.out.set 2 _ _ _ _ rfl, HO2.out.setCell _ _⟩
    · have hvd : (v.toList == y.toList) = false := ne_toList hvy
      go_wp2_with fail
      go_ret3
      exact ⟨rfl, H2.out.set 3 _ _ _ _ rfl, HO2.out.setCell _ _⟩
end Go.Proofs.Ytoeoigclleijmaa.PipeS
