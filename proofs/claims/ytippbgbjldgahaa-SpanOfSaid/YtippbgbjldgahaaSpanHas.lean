/-
  Is a number one of a set.
-/
import Derived.Test.YtippbgbjldgahaaSpanList
namespace Go.Proofs.Ytippbgbjldgahaa.SpanCalls
open Go.RowKit SpanMath View

def inB (x1 x2 z : Int) : Bool := decide (x1 ≤ z ∧ z < x2)
theorem inB_iff (x : Sp) (z : Int) : inB x.1 x.2 z = true ↔ x.1 ≤ z ∧ z < x.2 := by simp [inB]

theorem in_any (x1 x2 z : Int) (B : Nat) (w : World) (hB : B < w.heap.size) (hc : w.cell? ⟨B, 0, none⟩ = some (.int .i64 z)) :
    Calls Try.prog 31 #[.agg #[.int .i64 x1, .int .i64 x2], .pointer (some ⟨B, 0, none⟩)] w fun e w' => e = .returned (.bool (inB x1 x2 z)) ∧ Below w.heap.size w w' := by
  have hne : B ≠ w.heap.size := by omega
  by_cases h1 : x1 ≤ z
  · by_cases h2 : z < x2
    · have hd1 : decide (x1 ≤ z) = true := decide_eq_true h1
      have hd2 : decide (z < x2) = true := decide_eq_true h2
      go_enter Try.func31, Try.ntmps31
      go_wp2_with fail
      go_ret
      exact ⟨congrArg (fun b => Ending.returned (.bool b)) (by simp [inB, h1, h2]), (Below.refl _ w).alloc (Nat.le_refl _) _⟩
    · have hd1 : decide (x1 ≤ z) = true := decide_eq_true h1
      have hd2 : decide (z < x2) = false := decide_eq_false h2
      go_enter Try.func31, Try.ntmps31
      go_wp2_with fail
      go_ret
      exact ⟨congrArg (fun b => Ending.returned (.bool b)) (by simp [inB, h2]), (Below.refl _ w).alloc (Nat.le_refl _) _⟩
  · have hd1 : decide (x1 ≤ z) = false := decide_eq_false h1
    go_enter Try.func31, Try.ntmps31
    go_wp2_with fail
    go_ret
    exact ⟨congrArg (fun b => Ending.returned (.bool b)) (by simp [inB]; omega), (Below.refl _ w).alloc (Nat.le_refl _) _⟩

def IdxOk (r : Int) (S : List Sp) (z : Int) : Prop := (0 ≤ r ↔ z ∈ nums S) ∧ -1 ≤ r ∧ r ≤ 100000

theorem idx_any (a : Option Addr) (n cap : Nat) (S : List Sp) (z : Int) (B : Nat) (w : World) (h : RdS w a n S) (hn : n ≤ 100000) (hB : B < w.heap.size) (hz : w.cell? ⟨B, 0, none⟩ = some (.int .i64 z)) :
    Calls Try.prog 37 #[.slice a n cap, .func (.func 31) #[] #[.pointer (some ⟨B, 0, none⟩)]] w fun e w' => ∃ r, e = .returned (.int .i64 r) ∧ IdxOk r S z ∧ Below w.heap.size w w' := by
  have HL := Lib.hid h
  have HZ := Lib.hid hz
  clear h hz
  go_enter Try.func37, Try.ntmps37
  go_wp2_with fail
  go_loopw [8] (fun i wr => ∃ k : Nat, k ≤ n ∧ i = .int .i64 k ∧ Hid (z ∉ nums (S.take k)) ∧ Below w.heap.size w wr) (fun i _ => n - (intOf i).toNat)
  case atStart => exact ⟨0, Nat.zero_le _, rfl, by simp [Hid, nums], Below.refl _ _⟩
  case round =>
    obtain ⟨k, hk, rfl, hno, hb⟩ := hrel
    by_cases hlt : k < n
    · obtain ⟨b, off, rfl, _, hc1, hc2⟩ := (HL.out.below hb).at_ hlt
      have hl : k < S.length := by have := HL.out.1; omega
      have ht := nums_take S k hl
      have hzr : wr.cell? ⟨B, 0, none⟩ = some (.int .i64 z) := (cell_below hb hB).trans HZ.out
      have hBr : B < wr.heap.size := Nat.lt_of_lt_of_le hB hb.size
      obtain ⟨y, hy⟩ : ∃ y, S.getD k (0, 0) = y := ⟨_, rfl⟩
      have hmem : y ∈ S := by rw [← hy]; simp [List.getD, hl]
      rw [hy] at hc1 hc2 ht
      have HT := Lib.hid ht
      have HM := Lib.hid hmem
      clear hy ht hmem
      obtain ⟨y1, y2⟩ := y
      simp only at hc1 hc2
      cases hq : inB y1 y2 z with
      | true =>
        have HQ := Lib.hid hq
        go_wp2_with fail
        refine (in_any y1 y2 z B _ hBr hzr).mono ?_; rintro e w' ⟨rfl, hb'⟩
        rw [hq]
        clear hq
        go_wp2_with fail
        go_ret
        refine ⟨_, rfl, ⟨⟨fun _ => mem_nums.2 ⟨_, HM.out, (inB_iff (y1, y2) z).1 HQ.out⟩, fun _ => by omega⟩, by omega, by omega⟩, hb.trans (hb'.mono hb.size)⟩
      | false =>
        have HQ := Lib.hid hq
        go_wp2_with fail
        refine (in_any y1 y2 z B _ hBr hzr).mono ?_; rintro e w' ⟨rfl, hb'⟩
        rw [hq]
        clear hq
        go_wp2_with fail
        go_roundw
        case rel =>
          refine ⟨k + 1, by omega, by go_num, Lib.hid ?_, hb.trans (hb'.mono hb.size)⟩
          rw [HT.out, List.mem_append]
          rintro (h | h)
          · exact hno.out h
          · rw [mem_run, ← inB_iff, HQ.out] at h
            cases h
        case measure => simp [intOf]; omega
    · have HN : Hid (z ∉ nums S) := Lib.hid (by
        have := hno.out
        rwa [List.take_of_length_le (by have := HL.out.1; omega)] at this)
      clear hno
      go_wp2_with fail
      go_ret
      exact ⟨_, rfl, ⟨⟨fun h => by omega, fun h => absurd h HN.out⟩, by omega, by omega⟩, hb⟩

theorem contains_any (a : Option Addr) (n cap : Nat) (S : List Sp) (z : Int) (B : Nat) (w : World) (h : RdS w a n S) (hn : n ≤ 100000) (hB : B < w.heap.size) (hz : w.cell? ⟨B, 0, none⟩ = some (.int .i64 z)) :
    Calls Try.prog 30 #[.slice a n cap, .func (.func 31) #[] #[.pointer (some ⟨B, 0, none⟩)]] w fun e w' => e = .returned (.bool (decide (z ∈ nums S))) ∧ Below w.heap.size w w' := by
  have HL := Lib.hid h
  have HZ := Lib.hid hz
  clear h hz
  go_enter Try.func30, Try.ntmps30
  go_wp2_with fail
  refine (idx_any a n cap S z B _ HL.out hn hB HZ.out).mono ?_; rintro e w' ⟨r, rfl, hr, hb⟩
  obtain ⟨hr1, hr2, hr3⟩ := hr
  have HR := Lib.hid hr1
  clear hr1
  go_wp2_with fail
  go_ret
  refine ⟨congrArg (fun b => Ending.returned (.bool b)) ?_, hb⟩
  rw [decide_eq_decide]
  exact HR.out

theorem has_any (a : Option Addr) (n cap : Nat) (S : List Sp) (z : Int) (w : World) (h : RdS w a n S) (hn : n ≤ 100000) :
    Calls Try.prog 12 #[.slice a n cap, .int .i64 z] w fun e w' => e = .returned (.bool (decide (z ∈ nums S))) ∧ Below w.heap.size w w' := by
  have HL := Lib.hid h
  clear h
  go_enter Try.func12, Try.ntmps12
  go_wp2_with fail
  refine (contains_any a n cap S z w.heap.size _ (HL.out.alloc _) hn (by simp) (by simp)).mono ?_; rintro e w' ⟨rfl, hb⟩
  have hb' := ((Below.refl _ w).alloc (Nat.le_refl _) _).trans (hb.mono (by simp))
  go_wp2_with fail
  go_ret
  exact ⟨rfl, hb'⟩

end Go.Proofs.Ytippbgbjldgahaa.SpanCalls
