/-
  The pace: what its laws say of the timers' numbers.
-/
import Derived.Test.YtlfjndjbfbejkaaPaceA
namespace Go.Proofs.Ytlfjndjbfbejkaa.Pace
open Go.RowKit View Bank AppAt

theorem Five.cell {w : World} {N : Nat → Prop} {g o n c : Nat} {L : List Nat} (h : Five w N (.slice (some ⟨g, o, none⟩) n c) L) (i : Nat) (hi : i < 5) : w.cell? ⟨g, o + i, none⟩ = some (.int .i64 ((L.getD i 0 : Nat) : Int)) := by
  obtain ⟨g', o', c', e, hc⟩ := h.get hi
  simp only [Value.slice.injEq, Option.some.injEq, Addr.mk.injEq] at e
  obtain ⟨⟨rfl, rfl, _⟩, _, _⟩ := e
  exact hc
theorem overs_mem {L : List Nat} : ∀ x ∈ oversL L, ∃ i : Nat, x = (i : Int) ∧ i < 5 ∧ L.getD i 0 = 1 := fun x hx => by
  unfold oversL oversTo at hx
  obtain ⟨i, hi, rfl⟩ := List.mem_map.1 hx
  rw [List.mem_filter, List.mem_range] at hi
  exact ⟨i, rfl, hi.1, by simpa using hi.2⟩
/-- j ticks behind a beginning -/
def fresh (a b j : Nat) : List Nat := [0, a - j, 0, b - j, 0]
theorem fresh_tick (a b j : Nat) : tickL (fresh a b j) = fresh a b (j + 1) := by
  simp [tickL, fresh, Nat.sub_sub]
theorem fresh_over {a b j : Nat} : ∀ x ∈ oversL (fresh a b j), (x = 1 ∧ a = j + 1) ∨ (x = 3 ∧ b = j + 1) := fun x hx => by
  obtain ⟨i, rfl, hi, hv⟩ := overs_mem x hx
  rcases (show i = 0 ∨ i = 1 ∨ i = 2 ∨ i = 3 ∨ i = 4 by omega) with rfl | rfl | rfl | rfl | rfl
  · simp [fresh] at hv
  · simp [fresh] at hv; left; exact ⟨rfl, by omega⟩
  · simp [fresh] at hv
  · simp [fresh] at hv; right; exact ⟨rfl, by omega⟩
  · simp [fresh] at hv
theorem fresh_end {a b : Nat} (h : a < b) : fresh a b b = zeroL := by
  unfold fresh zeroL
  rw [show a - b = 0 from by omega, show b - b = 0 from by omega]
theorem begin_fresh (k0 k1 k2 k3 k4 : Nat) : beginL [k0, k1, k2, k3, k4] zeroL = fresh k1 k3 0 := rfl
end Go.Proofs.Ytlfjndjbfbejkaa.Pace
