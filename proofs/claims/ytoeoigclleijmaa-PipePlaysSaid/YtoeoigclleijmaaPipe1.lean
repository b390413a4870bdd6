/-
  A pipe that a call made itself: what its memory holds, and its calls.
-/
import Derived.Test.YtoeoigclleijmaaRowKit
import Derived.Test.YtoeoigclleijmaaRing7S
import Derived.Test.YtoeoigclleijmaaViewT
namespace Go.Proofs.Ytoeoigclleijmaa.PipeS
open Go.RowKit RingS

def rowP (R p c h : Nat) : Array Value := #[.pointer (some ⟨R, 0, none⟩), .int .i64 (p : Int), .int .i64 (c : Int), .int .i64 (h : Int)]
/-- a pipe that was made since w, and nothing of what was there in w is otherwise -/
structure PAt (w : World) (base B R most : Nat) (L : List V) (G : Option Nat) (p c h : Nat) (x : World) : Prop where
  mine : Mine w base R most L G x
  blk : x.heap[B]? = some (.cells (rowP R p c h) 41 (0, 0))
  new : base ≤ B
  ne : B ≠ R
  neG : G ≠ some B
/-- all is as it was, but for a pipe's three blocks, and what is new -/
structure POnly (x x' : World) (B R : Nat) (G : Option Nat) : Prop where
  os : x'.os = x.os
  tape : x'.tape = x.tape
  output : x'.output = x.output
  size : x.heap.size ≤ x'.heap.size
  block : ∀ k, k < x.heap.size → k ≠ B → k ≠ R → G ≠ some k → x'.heap[k]? = x.heap[k]?
section
variable {w x x' : World} {base B R most : Nat} {L L' : List V} {G G' : Option Nat} {p c h : Nat}
theorem PAt.lt (H : PAt w base B R most L G p c h x) : B < x.heap.size := (Array.getElem?_eq_some_iff.1 H.blk).1
theorem PAt.below (H : PAt w base B R most L G p c h x) (hb : Below x.heap.size x x') : PAt w base B R most L G p c h x' :=
  ⟨H.mine.below hb, (hb.block B H.lt).trans H.blk, H.new, H.ne, H.neG⟩
theorem PAt.drewN (H : PAt w base B R most L G p c h x) (q : Nat) : PAt w base B R most L G p c h (x.drewN q) := H.below (below_drewN (Below.refl _ _) q)
theorem PAt.cells (H : PAt w base B R most L G p c h x) : x.cell? ⟨B, 0, none⟩ = some (.pointer (some ⟨R, 0, none⟩)) ∧ x.cell? ⟨B, 1, none⟩ = some (.int .i64 (p : Int)) ∧ x.cell? ⟨B, 2, none⟩ = some (.int .i64 (c : Int)) ∧
    x.cell? ⟨B, 3, none⟩ = some (.int .i64 (h : Int)) ∧ ∀ o, x.frozen? ⟨B, o, none⟩ = false := by
  have h1 := H.blk
  refine ⟨?_, ?_, ?_, ?_, fun o => frozen_of_row x B o _ _ h1⟩
  · rw [cell_of_row x B 0 _ _ (0, 0) h1]; rfl
  · rw [cell_of_row x B 1 _ _ (0, 0) h1]; rfl
  · rw [cell_of_row x B 2 _ _ (0, 0) h1]; rfl
  · rw [cell_of_row x B 3 _ _ (0, 0) h1]; rfl
theorem PAt.facts (H : PAt w base B R most L G p c h x) : L.length ≤ most ∧ most ≤ 4096 := H.mine.facts
/-- a call of its row -/
theorem PAt.row (H : PAt w base B R most L G p c h x) (ho : Only x x' R G) (hm : Mine w base R most L' G' x') (hG : G' = none ∨ G' = G ∨ ∃ g, G' = some g ∧ x.heap.size ≤ g) : PAt w base B R most L' G' p c h x' :=
  ⟨hm, (ho.block B H.lt H.ne H.neG).trans H.blk, H.new, H.ne, fun e => by
    have hl := H.lt
    rcases hG with hG | hG | ⟨g, hG, hg⟩
    · rw [hG] at e; cases e
    · rw [hG] at e; exact H.neG e
    · rw [hG] at e; injection e with e; omega⟩
theorem POnly.of_only (ho : Only x x' R G) : POnly x x' B R G := ⟨ho.os, ho.tape, ho.output, ho.size, fun k hk _ h1 h2 => ho.block k hk h1 h2⟩
theorem POnly.of_below (hb : Below x.heap.size x x') : POnly x x' B R G := ⟨hb.os, hb.tape, hb.output, hb.size, fun k hk _ _ _ => hb.block k hk⟩
theorem POnly.setCell (ho : POnly x x' B R G) (o : Nat) (u : Value) : POnly x (x'.setCell ⟨B, o, none⟩ u) B R G :=
  ⟨ho.os, ho.tape, ho.output, by simpa using ho.size, fun k hk h1 h2 h3 => (heap_setCell_other _ _ _ _ h1).trans (ho.block k hk h1 h2 h3)⟩
theorem POnly.then_below {x'' : World} (ho : POnly x x' B R G) (hb : Below x'.heap.size x' x'') : POnly x x'' B R G :=
  ⟨hb.os.trans ho.os, hb.tape.trans ho.tape, hb.output.trans ho.output, Nat.le_trans ho.size hb.size, fun k hk h1 h2 h3 => (hb.block k (Nat.lt_of_lt_of_le hk ho.size)).trans (ho.block k hk h1 h2 h3)⟩
/-- one of its three numbers -/
theorem PAt.set (H : PAt w base B R most L G p c h x) (o : Nat) (u : Value) (p' c' h' : Nat) (hrow : (rowP R p c h).setIfInBounds o u = rowP R p' c' h') : PAt w base B R most L G p' c' h' (x.setCell ⟨B, o, none⟩ u) := by
  have hbB : B ≠ R := H.ne
  refine ⟨⟨?_, ?_, H.mine.2.2.1, ?_, H.mine.2.2.2.2⟩, ?_, H.new, H.ne, H.neG⟩
  · exact H.mine.1.setCell H.new _
  · simpa using H.mine.2.1
  · obtain ⟨P, n, first, cur, hr⟩ := H.mine.2.2.2.1
    refine ⟨P, n, first, cur, hr.keep fun k hk => ?_⟩
    rcases hk with rfl | hk
    · exact heap_setCell_other _ _ _ _ (fun e => hbB e.symm)
    · exact heap_setCell_other _ _ _ _ (fun e => H.neG (by rw [hk, e]))
  · rw [heap_setCell_same _ _ _ _ _ _ H.blk, hrow]
end

theorem pnew_end {w wr W1 : World} {base R mm : Nat} (hR : wr.heap.size ≤ R) (h : Mine w base R mm [] none W1) : ∃ B R', Ending.returned (.pointer (some ⟨W1.heap.size, 0, none⟩)) = Ending.returned (.pointer (some ⟨B, 0, none⟩)) ∧ wr.heap.size ≤ B ∧ wr.heap.size ≤ R' ∧ PAt w base B R' mm [] none 0 0 0 (W1.alloc (.cells (rowP R 0 0 0) 41)) := by
  have hl := h.2.2.2.1.facts.2.2.1
  refine ⟨_, R, rfl, by omega, hR, h.below ((Below.refl _ _).alloc (Nat.le_refl _) _), heap_alloc_new _ _, h.2.1, by omega, by simp⟩
theorem pnew_any (w wr : World) (base : Nat) (m : Int) (most : Nat) (hm : (min (max m 1) 256).toNat = most) (hb : Below base w wr) (hs : base ≤ wr.heap.size) :
    Calls Try.prog 8 #[.int .i64 m] wr fun e w' => ∃ B R, e = .returned (.pointer (some ⟨B, 0, none⟩)) ∧ wr.heap.size ≤ B ∧ wr.heap.size ≤ R ∧ PAt w base B R most [] none 0 0 0 w' := by
  obtain ⟨mm, hmm, h1, h2⟩ : ∃ mm : Nat, min (max m 1) 256 = (mm : Int) ∧ 1 ≤ mm ∧ mm ≤ 256 := ⟨(min (max m 1) 256).toNat, by omega, by omega, by omega⟩
  have HM := Lib.hid hmm
  obtain rfl : mm = most := by omega
  clear hmm hm
  have HB := Lib.hid hb
  clear hb
  go_enter Try.func8, Try.ntmps8
  go_wp2_with fail
  all_goals
    refine (new_own w wr base _ mm (by have := HM.out; omega) HB.out hs).mono ?_; rintro e W1 ⟨R, rfl, hR, hm1⟩
    go_wp2_with fail
    go_ret
    exact pnew_end hR hm1

theorem pcounts_any {w x : World} {base B R most : Nat} {L : List V} {G : Option Nat} {p c h : Nat} (H : PAt w base B R most L G p c h x) :
    Calls Try.prog 17 #[.pointer (some ⟨B, 0, none⟩)] x fun e x' => e = .returned (.tuple #[.int .i64 (p : Int), .int .i64 (c : Int), .int .i64 (h : Int)]) ∧ ∃ q, x' = x.drewN q := by
  obtain ⟨h0, h1, h2, h3, _⟩ := H.cells
  clear H
  go_enter Try.func17, Try.ntmps17
  go_wp2_with fail
  go_quiet (fail)
  go_wp2_with fail
  go_ret3
  exact ⟨rfl, _, rfl⟩

theorem pclone_any {w x : World} {base B R most : Nat} {L : List V} {G : Option Nat} {p c h : Nat} (H : PAt w base B R most L G p c h x) :
    Calls Try.prog 13 #[.pointer (some ⟨B, 0, none⟩)] x fun e x' => ∃ B2 R2 G2, e = .returned (.pointer (some ⟨B2, 0, none⟩)) ∧ PAt x x.heap.size B2 R2 most L G2 p c h x' ∧ PAt w base B R most L G p c h x' := by
  obtain ⟨h0, h1, h2, h3, hz⟩ := H.cells
  have hlt := H.lt
  have HL := Lib.hid hlt
  have H0 := Lib.hid H
  clear H hz
  go_enter Try.func13, Try.ntmps13
  go_wp2_with fail
  change Calls Try.prog _ _ (x.alloc (.cells (rowP R p c h) 41)) _
  have hb1 : Below x.heap.size x (x.alloc (.cells (rowP R p c h) 41)) := (Below.refl _ _).alloc (Nat.le_refl _) _
  have hk1 := Lib.hid (heap_alloc_new x (.cells (rowP R p c h) 41))
  have hs1 : (x.alloc (.cells (rowP R p c h) 41)).heap.size = x.heap.size + 1 := by simp
  have HS1 := Lib.hid hs1
  clear hs1 h0 h1 h2 h3
  generalize x.alloc (.cells (rowP R p c h) 41) = x1 at *
  have H1 := Lib.hid (H0.out.below hb1)
  refine (rowclone_any R most L G x1 H1.out.mine.2.2.2.1).mono ?_; rintro e x2 ⟨R2, g2, rfl, hR2, hg2, hne, hr2, hb2⟩
  have HB2 := Lib.hid (hb1.trans (hb2.mono (by rw [HS1.out]; omega)))
  have HK2 : Hid (x2.heap[x.heap.size]? = some (.cells (rowP R p c h) 41 (0, 0))) := Lib.hid ((hb2.block _ (by rw [HS1.out]; omega)).trans hk1.out)
  have z0 := frozen_of_row x2 x.heap.size 0 _ _ HK2.out
  have c0 : x2.cell? ⟨x.heap.size, 0, none⟩ = some (.pointer (some ⟨R, 0, none⟩)) := by rw [cell_of_row x2 _ 0 _ _ (0, 0) HK2.out]; rfl
  go_wp2_with fail
  go_ret
  have hs1 := HS1.out
  refine ⟨x.heap.size, R2, some g2, rfl, ⟨⟨HB2.out.setCell (Nat.le_refl _) _, by have := hb2.size; simp; omega, by omega, ?_, fun g hg => by injection hg with hg; omega⟩, ?_, Nat.le_refl _, by omega, fun e => by injection e with e; omega⟩, H0.out.below (HB2.out.setCell (Nat.le_refl _) _)⟩
  · obtain ⟨P, n, first, cur, hr⟩ := hr2
    refine ⟨P, n, first, cur, hr.keep fun k hk => heap_setCell_other _ _ _ _ (show k ≠ x.heap.size from ?_)⟩
    rcases hk with rfl | hk
    · omega
    · injection hk with hk; omega
  · rw [heap_setCell_same _ _ _ _ _ _ HK2.out]; rfl
end Go.Proofs.Ytoeoigclleijmaa.PipeS
