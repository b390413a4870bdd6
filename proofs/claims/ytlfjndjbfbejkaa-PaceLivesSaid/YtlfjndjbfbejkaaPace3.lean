/-
  The pace: its config, a new one, a copy.
-/
import Derived.Test.YtlfjndjbfbejkaaPace2
namespace Go.Proofs.Ytlfjndjbfbejkaa.Pace
open Go.RowKit View Bank

def aggK (k0 k1 k2 k3 k4 : Nat) : Value := .agg #[.int .i64 (k0 : Int), .int .i64 (k1 : Int), .int .i64 (k2 : Int), .int .i64 (k3 : Int), .int .i64 (k4 : Int)]
def Good (K : List Nat) : Prop := K.length = 5 ∧ (∀ i, i < 5 → 1 ≤ K.getD i 0 ∧ K.getD i 0 ≤ 1048576) ∧ K.getD 1 0 < K.getD 3 0 ∧ K.getD 2 0 < K.getD 3 0
theorem five_desc : Try.prog.underlying 45 = some (.array 5 3) := by kernel_rfl
theorem five_info : (Try.prog.info? 45).map (·.size) = some 5 := by kernel_rfl
section
variable (k0 k1 k2 k3 k4 : Nat) (w : World)
set_option maxRecDepth 100000 in
set_option maxHeartbeats 2000000 in
theorem ticks_any :
    Calls Try.prog 27 #[aggK k0 k1 k2 k3 k4] w fun e w' => e = .returned (aggK k0 k1 k2 k3 k4) ∧ Below w.heap.size w w' := by
  unfold aggK
  go_enter Try.func27, Try.ntmps27
  go_wp2_with fail
  refine bodyPost_ret (results_cell_row rfl _ _ (w.heap.size + 1) 45 _ (0, 0) _ rfl (heap_alloc2_new w _ _) five_desc rfl five_info) rfl ⟨rfl, ?_⟩
  exact ((Below.refl _ _).alloc (Nat.le_refl _) _).alloc (by simp) _
set_option maxRecDepth 100000 in
set_option maxHeartbeats 4000000 in
theorem check_any (hK : Good [k0, k1, k2, k3, k4]) :
    Calls Try.prog 26 #[aggK k0 k1 k2 k3 k4] w fun e w' => e = .returned (.int .i64 0) ∧ Below w.heap.size w w' := by
  obtain ⟨_, hbd, h13, h23⟩ := hK
  have HB := Lib.hid hbd
  simp only [List.getD_cons_zero, List.getD_cons_succ] at h13 h23
  clear hbd
  have hd13 : decide (k3 ≤ k1) = false := decide_eq_false (by omega)
  have hd23 : decide (k3 ≤ k2) = false := decide_eq_false (by omega)
  have HT := Lib.hid (ticks_any k0 k1 k2 k3 k4)
  have HX := Lib.hid (idx5 k0 k1 k2 k3 k4)
  unfold aggK at *
  clear h13 h23
  go_enter Try.func26, Try.ntmps26
  go_wp2_with fail
  refine (HT.out _).mono ?_; rintro e w1 ⟨rfl, hb⟩
  have HB1 : Hid (Below w.heap.size w w1) := Lib.hid (((Below.refl w.heap.size w).alloc (Nat.le_refl _) _).trans (hb.mono (by simp)))
  have c0 : w1.cell? ⟨w.heap.size, 0, none⟩ = some (.int .i64 (k0 : Int)) := (cell_below hb (by simp)).trans (by simp)
  have c1 : w1.cell? ⟨w.heap.size, 1, none⟩ = some (.int .i64 (k1 : Int)) := (cell_below hb (by simp)).trans (by simp)
  have c2 : w1.cell? ⟨w.heap.size, 2, none⟩ = some (.int .i64 (k2 : Int)) := (cell_below hb (by simp)).trans (by simp)
  have c3 : w1.cell? ⟨w.heap.size, 3, none⟩ = some (.int .i64 (k3 : Int)) := (cell_below hb (by simp)).trans (by simp)
  clear hb
  go_wp2_with fail
  go_loopw [7] (fun s7 wr => ∃ k : Nat, k ≤ 5 ∧ s7 = .int .i64 (k : Int) ∧ wr = w1) (fun s7 _ => 5 - (intOf s7).toNat)
  case atStart => exact ⟨0, Nat.zero_le _, rfl, rfl⟩
  case round =>
    obtain ⟨k, hk, rfl, rfl⟩ := hrel
    by_cases hlt5 : k < 5
    · have hx := HX.out k hlt5
      obtain ⟨x, hxx⟩ : ∃ x, ([k0, k1, k2, k3, k4] : List Nat).getD k 0 = x := ⟨_, rfl⟩
      rw [hxx] at hx
      have hxb := HB.out k hlt5
      rw [hxx] at hxb
      have hk5 : (k : Int) < 5 := by omega
      have hx1 : decide ((x : Int) < 1) = false := decide_eq_false (by omega)
      have hx2 : decide ((1048576 : Int) < (x : Int)) = false := decide_eq_false (by omega)
      clear hxx hxb
      go_wp2_with fail
      go_roundw
      case rel => exact ⟨k + 1, by omega, by go_num, trivial⟩
      case measure => simp [intOf]; omega
    · obtain rfl : k = 5 := by omega
      clear hk hlt5
      go_wp2_with fail
      go_ret
      exact ⟨rfl, HB1.out⟩
theorem zero_top (i : Nat) : zeroL.getD i 0 ≤ 1048576 := by
  rcases (show i = 0 ∨ i = 1 ∨ i = 2 ∨ i = 3 ∨ i = 4 ∨ 5 ≤ i by omega) with rfl | rfl | rfl | rfl | rfl | h5 <;> try (simp [zeroL])
  show (zeroL[i]?).getD 0 ≤ 1048576
  rw [List.getElem?_eq_none (by simpa [zeroL] using h5)]; simp
set_option maxRecDepth 100000 in
set_option maxHeartbeats 4000000 in
theorem new_any (hK : Good [k0, k1, k2, k3, k4]) :
    Calls Try.prog 9 #[aggK k0 k1 k2 k3 k4] w fun e w' => ∃ B, e = .returned (.tuple #[.pointer (some ⟨B, 0, none⟩), .int .i64 0]) ∧ w.heap.size ≤ B ∧ At w' B [k0, k1, k2, k3, k4] zeroL ∧ Below w.heap.size w w' := by
  have HK := Lib.hid hK
  have HC := Lib.hid (fun w => check_any k0 k1 k2 k3 k4 w hK)
  have HT := Lib.hid (ticks_any k0 k1 k2 k3 k4)
  unfold aggK at *
  clear hK
  go_enter Try.func9, Try.ntmps9
  go_wp2_with fail
  refine (HC.out _).mono ?_; rintro e w1 ⟨rfl, hb⟩
  have HB1 : Hid (Below w.heap.size w w1) := Lib.hid (((Below.refl w.heap.size w).alloc (Nat.le_refl _) _).trans (hb.mono (by simp)))
  have c0 : w1.cell? ⟨w.heap.size, 0, none⟩ = some (.int .i64 (k0 : Int)) := (cell_below hb (by simp)).trans (by simp)
  have c1 : w1.cell? ⟨w.heap.size, 1, none⟩ = some (.int .i64 (k1 : Int)) := (cell_below hb (by simp)).trans (by simp)
  have c2 : w1.cell? ⟨w.heap.size, 2, none⟩ = some (.int .i64 (k2 : Int)) := (cell_below hb (by simp)).trans (by simp)
  have c3 : w1.cell? ⟨w.heap.size, 3, none⟩ = some (.int .i64 (k3 : Int)) := (cell_below hb (by simp)).trans (by simp)
  have c4 : w1.cell? ⟨w.heap.size, 4, none⟩ = some (.int .i64 (k4 : Int)) := (cell_below hb (by simp)).trans (by simp)
  clear hb
  go_wp2_with fail
  refine (HT.out _).mono ?_; rintro e w2 ⟨rfl, hb⟩
  have HB2 : Hid (Below w.heap.size w w2) := Lib.hid (HB1.out.trans (hb.mono HB1.out.size))
  clear hb c0 c1 c2 c3 c4
  go_wp2_with fail
  go_ret2
  refine ⟨w2.heap.size, rfl, HB2.out.size, ⟨⟨heap_alloc_new w2 _, rfl, rfl, zero_top⟩, HK.out.1, HK.out.2.1⟩, HB2.out.alloc HB2.out.size _⟩
set_option maxRecDepth 100000 in
set_option maxHeartbeats 4000000 in
theorem clone_any (B : Nat) (K L : List Nat) (h : At w B K L) :
    Calls Try.prog 25 #[.pointer (some ⟨B, 0, none⟩)] w fun e w' => ∃ B', e = .returned (.pointer (some ⟨B', 0, none⟩)) ∧ w.heap.size ≤ B' ∧ At w' B' K L ∧ Below w.heap.size w w' := by
  have H := Lib.hid h
  obtain ⟨a, b, c, d, e, rfl⟩ := five_of h.bank.len
  obtain ⟨k0, k1, k2, k3, k4, rfl⟩ := five_of h.klen
  have c0 : w.cell? ⟨B, 0, none⟩ = some (.int .i64 (a : Int)) := h.bank.cell (i := 0) (by omega)
  have c1 : w.cell? ⟨B, 1, none⟩ = some (.int .i64 (b : Int)) := h.bank.cell (i := 1) (by omega)
  have c2 : w.cell? ⟨B, 2, none⟩ = some (.int .i64 (c : Int)) := h.bank.cell (i := 2) (by omega)
  have c3 : w.cell? ⟨B, 3, none⟩ = some (.int .i64 (d : Int)) := h.bank.cell (i := 3) (by omega)
  have c4 : w.cell? ⟨B, 4, none⟩ = some (.int .i64 (e : Int)) := h.bank.cell (i := 4) (by omega)
  have c5 : w.cell? ⟨B, 5, none⟩ = some (.int .i64 (k0 : Int)) := h.tick (i := 0) (by omega)
  have c6 : w.cell? ⟨B, 6, none⟩ = some (.int .i64 (k1 : Int)) := h.tick (i := 1) (by omega)
  have c7 : w.cell? ⟨B, 7, none⟩ = some (.int .i64 (k2 : Int)) := h.tick (i := 2) (by omega)
  have c8 : w.cell? ⟨B, 8, none⟩ = some (.int .i64 (k3 : Int)) := h.tick (i := 3) (by omega)
  have c9 : w.cell? ⟨B, 9, none⟩ = some (.int .i64 (k4 : Int)) := h.tick (i := 4) (by omega)
  clear h
  go_enter Try.func25, Try.ntmps25
  go_wp2_with fail
  go_ret
  refine ⟨w.heap.size, rfl, Nat.le_refl _, ⟨⟨heap_alloc_new w _, rfl, rfl, H.out.bank.top⟩, rfl, H.out.kbd⟩, (Below.refl _ _).alloc (Nat.le_refl _) _⟩
end
end Go.Proofs.Ytlfjndjbfbejkaa.Pace
