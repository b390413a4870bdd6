/-
  A row in which at most so many may stand: what its memory holds, and the calls that change nothing.
-/
import Derived.Test.YtoeoigclleijmaaBase
import Derived.WalkLawsBesides
import Derived.Lib.Hide
import Derived.Laws.OwnMore
import Derived.Deep.Draws
import Derived.OwnWalk
import Derived.BigQuiet
import Derived.Deep.QuietTactic
namespace Go.Proofs.Ytoeoigclleijmaa.RingS
open Go.RowKit

abbrev V := ByteArray
def enc (x : V) : Value := .string x
def zero : V := ⟨#[]⟩
theorem enc_one (x : V) : (enc x).oneCell' = true := rfl
theorem elemInfo : (Try.prog.info? 9).map (fun i => (i.zero, i.size, i.bytes)) = some (some (enc zero), 1, 16) := by kernel_rfl
theorem below_drewN {B : Nat} {a w : World} (h : Below B a w) (n : Nat) : Below B a (w.drewN n) := h.trans ⟨rfl, rfl, rfl, Nat.le_refl _, fun _ _ => rfl⟩

def Places (w : World) (P : Option Addr) (n : Nat) (G : Option Nat) (cur : List Value) : Prop :=
  cur.length = n ∧ ((P = none ∧ G = none ∧ n = 0) ∨ ∃ g, P = some ⟨g, 0, none⟩ ∧ G = some g ∧ w.heap[g]? = some (.cells cur.toArray 9 (0, 0)))
def Hold (cur : List Value) (n first : Nat) (L : List V) : Prop := ∀ i, i < L.length → cur[(first + i) % n]? = some (enc (L.getD i zero))
structure RingAt (w : World) (R most : Nat) (L : List V) (G : Option Nat) (P : Option Addr) (n first : Nat) (cur : List Value) : Prop where
  blk : w.heap[R]? = some (.cells #[.int .i64 (most : Int), .slice P n n, .int .i64 (first : Int), .int .i64 (L.length : Int)] 61 (0, 0))
  pl : Places w P n G cur
  len : L.length ≤ n
  cap : n ≤ most
  top : most ≤ 4096
  fst : first < n ∨ (n = 0 ∧ first = 0)
  hold : Hold cur n first L
def Ring (w : World) (R most : Nat) (L : List V) (G : Option Nat) : Prop := ∃ P n first cur, RingAt w R most L G P n first cur

/-- all is as it was, but for a row's two blocks, and what is new -/
structure Only (w w' : World) (R : Nat) (G : Option Nat) : Prop where
  os : w'.os = w.os
  tape : w'.tape = w.tape
  output : w'.output = w.output
  size : w.heap.size ≤ w'.heap.size
  block : ∀ k, k < w.heap.size → k ≠ R → G ≠ some k → w'.heap[k]? = w.heap[k]?
theorem Only.of_below {w w' : World} {R : Nat} {G : Option Nat} (h : Below w.heap.size w w') : Only w w' R G := ⟨h.os, h.tape, h.output, h.size, fun k hk _ _ => h.block k hk⟩
theorem Only.below {w0 w w' : World} {base R : Nat} {G : Option Nat} (h : Only w w' R G) (hb : Below base w0 w) (hs : base ≤ w.heap.size) (hR : base ≤ R) (hG : ∀ g, G = some g → base ≤ g) : Below base w0 w' :=
  hb.trans ⟨h.os, h.tape, h.output, h.size, fun k hk => h.block k (by omega) (by omega) (fun e => by have := hG k e; omega)⟩
/-- two steps; the second one may also touch what the first one made -/
theorem Only.trans {w w' w'' : World} {R : Nat} {G G' : Option Nat} (h : Only w w' R G) (k : Only w' w'' R G') (hG : G' = G ∨ ∃ g, G' = some g ∧ w.heap.size ≤ g) : Only w w'' R G :=
  ⟨k.os.trans h.os, k.tape.trans h.tape, k.output.trans h.output, Nat.le_trans h.size k.size, fun j hj h1 h2 =>
    (k.block j (Nat.lt_of_lt_of_le hj h.size) h1 (fun e => by
      rcases hG with hG | ⟨g, hG, hg⟩
      · exact h2 (by rw [← hG, e])
      · rw [hG] at e
        injection e with e
        omega)).trans (h.block j hj h1 h2)⟩

section
variable {w w' : World} {R most n first : Nat} {L : List V} {G : Option Nat} {P : Option Addr} {cur : List Value}
theorem RingAt.lt (h : RingAt w R most L G P n first cur) : R < w.heap.size := (Array.getElem?_eq_some_iff.1 h.blk).1
theorem RingAt.ltG (h : RingAt w R most L G P n first cur) : ∀ g, G = some g → g < w.heap.size := by
  intro g hg
  rcases h.pl.2 with ⟨_, h1, _⟩ | ⟨g', _, h1, h2⟩
  · rw [h1] at hg; cases hg
  · rw [h1] at hg
    injection hg with hg
    subst hg
    exact (Array.getElem?_eq_some_iff.1 h2).1
theorem RingAt.ne (h : RingAt w R most L G P n first cur) : G ≠ some R := by
  intro hg
  rcases h.pl.2 with ⟨_, h1, _⟩ | ⟨g', _, h1, h2⟩
  · rw [h1] at hg; cases hg
  · rw [h1] at hg
    injection hg with hg
    subst hg
    have h3 := h.blk
    rw [h2] at h3
    injection h3 with h3
    injection h3 with _ h4
    exact absurd h4 (by decide)
theorem RingAt.keep (h : RingAt w R most L G P n first cur) (hk : ∀ k, k = R ∨ G = some k → w'.heap[k]? = w.heap[k]?) : RingAt w' R most L G P n first cur := by
  refine ⟨(hk R (.inl rfl)).trans h.blk, ⟨h.pl.1, ?_⟩, h.len, h.cap, h.top, h.fst, h.hold⟩
  rcases h.pl.2 with h1 | ⟨g, h1, h2, h3⟩
  · exact .inl h1
  · exact .inr ⟨g, h1, h2, (hk g (.inr h2)).trans h3⟩
theorem RingAt.below (h : RingAt w R most L G P n first cur) (hb : Below w.heap.size w w') : RingAt w' R most L G P n first cur :=
  h.keep fun k hk => hb.block k (by
    rcases hk with rfl | hk
    · exact h.lt
    · exact h.ltG k hk)
theorem RingAt.cells (h : RingAt w R most L G P n first cur) : w.cell? ⟨R, 0, none⟩ = some (.int .i64 (most : Int)) ∧ w.cell? ⟨R, 1, none⟩ = some (.slice P n n) ∧ w.cell? ⟨R, 2, none⟩ = some (.int .i64 (first : Int)) ∧
    w.cell? ⟨R, 3, none⟩ = some (.int .i64 (L.length : Int)) ∧ ∀ o, w.frozen? ⟨R, o, none⟩ = false := by
  have h1 := h.blk
  refine ⟨?_, ?_, ?_, ?_, fun o => frozen_of_row w R o _ _ h1⟩
  · rw [cell_of_row w R 0 _ _ (0, 0) h1]; rfl
  · rw [cell_of_row w R 1 _ _ (0, 0) h1]; rfl
  · rw [cell_of_row w R 2 _ _ (0, 0) h1]; rfl
  · rw [cell_of_row w R 3 _ _ (0, 0) h1]; rfl
theorem Ring.below (h : Ring w R most L G) (hb : Below w.heap.size w w') : Ring w' R most L G := by
  obtain ⟨P, n, first, cur, h⟩ := h
  exact ⟨P, n, first, cur, h.below hb⟩
theorem Ring.only {R2 : Nat} {G2 : Option Nat} (h : Ring w R most L G) (ho : Only w w' R2 G2) (h1 : R ≠ R2) (h2 : G2 ≠ some R) (h3 : G ≠ some R2) (h4 : G = none ∨ G ≠ G2) : Ring w' R most L G := by
  obtain ⟨P, n, first, cur, h⟩ := h
  refine ⟨P, n, first, cur, h.keep fun k hk => ?_⟩
  rcases hk with rfl | hk
  · exact ho.block k h.lt h1 h2
  · refine ho.block k (h.ltG k hk) (fun e => h3 (by rw [hk, e])) (fun e => ?_)
    rcases h4 with h4 | h4
    · rw [h4] at hk; cases hk
    · exact h4 (by rw [hk, e])
theorem Ring.facts (h : Ring w R most L G) : L.length ≤ most ∧ most ≤ 4096 ∧ R < w.heap.size ∧ ∀ g, G = some g → g < w.heap.size := by
  obtain ⟨P, n, first, cur, h⟩ := h
  exact ⟨Nat.le_trans h.len h.cap, h.top, h.lt, h.ltG⟩
end

/-! ### the calls that change nothing -/
theorem new_any (m : Int) (w : World) :
    Calls Try.prog 19 #[.int .i64 m] w fun e w' => e = .returned (.pointer (some ⟨w.heap.size, 0, none⟩)) ∧ Ring w' w.heap.size (min (max m 0) 4096).toNat [] none ∧ Below w.heap.size w w' := by
  go_enter Try.func19, Try.ntmps19
  go_wp2_with fail
  all_goals go_ret
  all_goals refine ⟨rfl, ⟨none, 0, 0, [], ?_, ⟨rfl, .inl ⟨rfl, rfl, rfl⟩⟩, Nat.le_refl _, Nat.zero_le _, by omega, .inr ⟨rfl, rfl⟩, fun i hi => absurd hi (Nat.not_lt_zero _)⟩, (Below.refl _ w).alloc (Nat.le_refl _) _⟩
  all_goals first
    | (rw [show ((min (max m 0) 4096).toNat : Int) = min (max m 0) 4096 from by omega]; exact heap_alloc_new w _)
    | (rw [show ((min (max m 0) 4096).toNat : Int) = 0 from by omega]; exact heap_alloc_new w _)
    | (rw [show ((min (max m 0) 4096).toNat : Int) = m from by omega]; exact heap_alloc_new w _)
    | (rw [show ((min (max m 0) 4096).toNat : Int) = 4096 from by omega]; exact heap_alloc_new w _)
    | (rw [show ((min (max m 0) 4096).toNat : Int) = min m 4096 from by omega]; exact heap_alloc_new w _)
    | (rw [show ((min (max m 0) 4096).toNat : Int) = max m 0 from by omega]; exact heap_alloc_new w _)

theorem rlen_any (R most : Nat) (L : List V) (G : Option Nat) (w : World) (h : Ring w R most L G) :
    Calls Try.prog 14 #[.pointer (some ⟨R, 0, none⟩)] w fun e w' => e = .returned (.int .i64 (L.length : Int)) ∧ w = w' := by
  obtain ⟨P, n, first, cur, h⟩ := h
  obtain ⟨h0, h1, h2, h3, _⟩ := h.cells
  clear h
  go_enter Try.func14, Try.ntmps14
  go_wp2_with fail
  go_ret
  exact ⟨rfl, rfl⟩

theorem room_any (R most : Nat) (L : List V) (G : Option Nat) (w : World) (h : Ring w R most L G) :
    Calls Try.prog 18 #[.pointer (some ⟨R, 0, none⟩)] w fun e w' => e = .returned (.int .i64 ((most : Int) - (L.length : Int))) ∧ ∃ q, w' = w.drewN q := by
  obtain ⟨P, n, first, cur, h⟩ := h
  obtain ⟨h0, h1, h2, h3, _⟩ := h.cells
  have hl := Nat.le_trans h.len h.cap
  have ht := h.top
  have hw : IntKind.i64.wrap ((most : Int) - (L.length : Int)) = (most : Int) - (L.length : Int) := by rw [IntKind.wrap_i64]; omega
  clear h
  go_enter Try.func18, Try.ntmps18
  go_wp2_with fail
  go_quiet (fail)
  go_wp2_with fail
  go_ret
  exact ⟨rfl, _, rfl⟩

theorem place_any (R most : Nat) (L : List V) (G : Option Nat) (P : Option Addr) (n first : Nat) (cur : List Value) (i : Nat) (w : World) (h : RingAt w R most L G P n first cur) (hn : 0 < n) (hi : i ≤ 4096) :
    Calls Try.prog 25 #[.pointer (some ⟨R, 0, none⟩), .int .i64 (i : Int)] w fun e w' => e = .returned (.int .i64 (((first + i) % n : Nat) : Int)) ∧ ∃ q, w' = w.drewN q := by
  obtain ⟨h0, h1, h2, h3, _⟩ := h.cells
  have hf : first < n := by rcases h.fst with h | h <;> omega
  have hc := h.cap
  have ht := h.top
  obtain ⟨m, hm⟩ : ∃ m, (first + i) % n = m := ⟨_, rfl⟩
  have hw : IntKind.i64.wrap ((first : Int) + (i : Int)) = (first : Int) + (i : Int) := by rw [IntKind.wrap_i64]; omega
  have he : ((first : Int) + (i : Int)) % (n : Int) = (m : Int) := by rw [← hm, Int.natCast_emod, Int.natCast_add]
  have hq : ((first : Int) + (i : Int)).tmod (n : Int) = (m : Int) := by rw [Int.tmod_eq_emod_of_nonneg (by omega)]; exact he
  have hn0 : ((n : Int) == 0) = false := by simp; omega
  have hn1 : ¬ ((n : Int) = 0) := by omega
  have hn2 : n ≠ 0 := by omega
  rw [hm]
  clear h hm
  go_enter Try.func25, Try.ntmps25
  go_wp2_with fail
  go_quiet (fail)
  go_wp2_with fail
  go_ret
  exact ⟨rfl, _, rfl⟩
end Go.Proofs.Ytoeoigclleijmaa.RingS
