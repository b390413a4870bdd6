/-
  The pace: who asks at once, and is answered at once, is never given up.
-/
import Derived.Test.YtlfjndjbfbejkaaPaceB
namespace Go.Proofs.Ytlfjndjbfbejkaa.Pace
open Go.RowKit View Bank AppAt

def Inv (L : List Nat) : Prop := 0 < L.getD 4 0 → L.getD 3 0 = 0
def Live (L : List Nat) : Prop := safeL L = true ∧ Inv L ∧ (0 < L.getD 3 0 ∨ 0 < L.getD 4 0)
def askL (K L : List Nat) (idle : Bool) : List Nat := answeredL K (polledL K L idle) idle
section
variable (k0 k1 k2 k3 k4 a b c d e : Nat)
theorem busy_eq : busyL [k0, k1, k2, k3, k4] [a, b, c, d, e] = if 0 < c ∨ 0 < e then (if 0 < d then [a, k1, 0, d, 0] else [a, k1, 0, k3, 0]) else [a, b, c, d, e] := rfl
theorem polled_eqT : polledL [k0, k1, k2, k3, k4] [a, b, c, d, e] true = if 0 < d then [a, 0, k2, d, 0] else [a, 0, k2, k3, 0] := rfl
theorem polled_eqF : polledL [k0, k1, k2, k3, k4] [a, b, c, d, e] false = if 0 < d then [a, k1, 0, d, 0] else [a, k1, 0, k3, 0] := rfl
theorem answered_eq (idle : Bool) : answeredL [k0, k1, k2, k3, k4] [a, b, c, d, e] idle = if idle = true ∧ 0 < c then [a, b, 0, 0, k4] else if 0 < e then [a, b, c, d, e] else [a, b, c, k3, e] := rfl
theorem begin_eq : beginL [k0, k1, k2, k3, k4] [a, b, c, d, e] = [a, k1, 0, k3, 0] := rfl
theorem again_eq : againL [k0, k1, k2, k3, k4] [a, b, c, d, e] = [k0, b, c, d, e] := rfl
theorem enough_eq : enoughL [a, b, c, d, e] = [0, b, c, d, e] := rfl
theorem end_eq : endL [a, b, c, d, e] = [a, 0, 0, 0, 0] := rfl
theorem tick_eq : tickL [a, b, c, d, e] = [a - 1, b - 1, c - 1, d - 1, e - 1] := rfl
theorem inv_eq : Inv [a, b, c, d, e] ↔ (0 < e → d = 0) := Iff.rfl
theorem safe_iff : safeL [a, b, c, d, e] = true ↔ (d = 0 ∨ (0 < b ∧ b < d) ∨ (0 < c ∧ c < d)) := by
  simp [safeL, aheadL]
theorem live_iff : Live [a, b, c, d, e] ↔ ((d = 0 ∨ (0 < b ∧ b < d) ∨ (0 < c ∧ c < d)) ∧ (0 < e → d = 0) ∧ (0 < d ∨ 0 < e)) := by
  unfold Live; rw [safe_iff, inv_eq]; exact Iff.rfl
theorem good_iff : Good [k0, k1, k2, k3, k4] → 1 ≤ k1 ∧ 1 ≤ k2 ∧ 1 ≤ k3 ∧ 1 ≤ k4 ∧ k1 < k3 ∧ k2 < k3 := fun h => by
  have h1 := h.2.1 1 (by decide)
  have h2 := h.2.1 2 (by decide)
  have h3 := h.2.1 3 (by decide)
  have h4 := h.2.1 4 (by decide)
  have h5 := h.2.2
  simp only [List.getD_cons_zero, List.getD_cons_succ] at h1 h2 h3 h4 h5
  omega
end
theorem step_inv {K L : List Nat} (hK : Good K) (hl : L.length = 5) (h : Inv L) (kind : Int) (idle : Bool) : Inv (stepL K L kind idle) := by
  obtain ⟨k0, k1, k2, k3, k4, rfl⟩ := five_of hK.1
  obtain ⟨a, b, c, d, e, rfl⟩ := five_of hl
  rw [inv_eq] at h
  unfold stepL
  repeat' split
  · rw [begin_eq, inv_eq]; omega
  · rw [end_eq, inv_eq]; omega
  · rw [again_eq, inv_eq]; exact h
  · rw [enough_eq, inv_eq]; exact h
  · rw [busy_eq]; repeat' split
    all_goals rw [inv_eq]; omega
  · cases idle
    · rw [polled_eqF]; split
      all_goals rw [inv_eq]; omega
    · rw [polled_eqT]; split
      all_goals rw [inv_eq]; omega
  · rw [answered_eq]; repeat' split
    all_goals rw [inv_eq]; omega
  · rw [inv_eq]; exact h
  · rw [tick_eq, inv_eq]; omega
theorem begin_inv {K L : List Nat} (hK : Good K) (hl : L.length = 5) : Inv (beginL K L) := by
  obtain ⟨k0, k1, k2, k3, k4, rfl⟩ := five_of hK.1
  obtain ⟨a, b, c, d, e, rfl⟩ := five_of hl
  rw [begin_eq, inv_eq]; omega
theorem busy_live {K L : List Nat} (hK : Good K) (hl : L.length = 5) (h : Live L) (he : 0 < L.getD 4 0) : Live (busyL K L) := by
  obtain ⟨k0, k1, k2, k3, k4, rfl⟩ := five_of hK.1
  obtain ⟨a, b, c, d, e, rfl⟩ := five_of hl
  have hg := good_iff _ _ _ _ _ hK
  rw [live_iff] at h
  have he : 0 < e := he
  have hd := h.2.1 he
  rw [busy_eq, if_pos (.inr he), if_neg (by omega), live_iff]; omega
theorem live_silent {L : List Nat} (hl : L.length = 5) (h : Live L) : ∀ x ∈ oversL L, x ≠ 3 := fun x hx => by
  obtain ⟨a, b, c, d, e, rfl⟩ := five_of hl
  obtain ⟨i, rfl, hi, hv⟩ := overs_mem x hx
  rw [live_iff] at h
  intro e3
  obtain rfl : i = 3 := by omega
  have hv : d = 1 := hv
  omega
theorem overs_in {L : List Nat} {i : Nat} (hi : i < 5) (h : L.getD i 0 = 1) : (i : Int) ∈ oversL L := by
  unfold oversL oversTo
  exact List.mem_map.2 ⟨i, List.mem_filter.2 ⟨List.mem_range.2 hi, by rw [h]; rfl⟩, rfl⟩
theorem tick_live {L : List Nat} (hl : L.length = 5) (h : Live L) (hno : ∀ x ∈ oversL L, asksL x = false) : Live (tickL L) := by
  obtain ⟨a, b, c, d, e, rfl⟩ := five_of hl
  have h1 : b ≠ 1 := fun e => by have := hno 1 (overs_in (i := 1) (by decide) e); simp [asksL] at this
  have h2 : c ≠ 1 := fun e => by have := hno 2 (overs_in (i := 2) (by decide) e); simp [asksL] at this
  have h4 : e ≠ 1 := fun e => by have := hno 4 (overs_in (i := 4) (by decide) e); simp [asksL] at this
  rw [live_iff] at h
  rw [tick_eq, live_iff]; omega
theorem ask_eq {K L : List Nat} (hK : Good K) (hl : L.length = 5) (idle : Bool) : askL K L idle = if idle = true then [L.getD 0 0, 0, 0, 0, K.getD 4 0] else [L.getD 0 0, K.getD 1 0, 0, K.getD 3 0, 0] := by
  obtain ⟨k0, k1, k2, k3, k4, rfl⟩ := five_of hK.1
  obtain ⟨a, b, c, d, e, rfl⟩ := five_of hl
  have hg := good_iff _ _ _ _ _ hK
  unfold askL
  cases idle
  · show answeredL _ (polledL _ _ false) false = [a, k1, 0, k3, 0]
    rw [polled_eqF]
    split
    all_goals rw [answered_eq, if_neg (by simp), if_neg (by omega)]
  · show answeredL _ (polledL _ _ true) true = [a, 0, 0, 0, k4]
    rw [polled_eqT]
    split
    all_goals rw [answered_eq, if_pos ⟨rfl, by omega⟩]
theorem ask_len {K L : List Nat} (hK : Good K) (hl : L.length = 5) (idle : Bool) : (askL K L idle).length = 5 := by
  rw [ask_eq hK hl]; split <;> rfl
theorem ask_ask {K L : List Nat} (hK : Good K) (hl : L.length = 5) (idle : Bool) : askL K (askL K L idle) idle = askL K L idle := by
  rw [ask_eq hK (ask_len hK hl idle), ask_eq hK hl]
  cases idle <;> rfl
theorem ask_live {K L : List Nat} (hK : Good K) (hl : L.length = 5) (idle : Bool) : Live (askL K L idle) := by
  obtain ⟨k0, k1, k2, k3, k4, rfl⟩ := five_of hK.1
  have hg := good_iff _ _ _ _ _ hK
  rw [ask_eq hK hl]
  cases idle
  · rw [if_neg (by simp), live_iff]
    show ((k3 = 0 ∨ (0 < k1 ∧ k1 < k3) ∨ _) ∧ _ ∧ (0 < k3 ∨ _))
    omega
  · rw [if_pos rfl, live_iff]
    show (_ ∧ _ ∧ (_ ∨ 0 < k4))
    omega
end Go.Proofs.Ytlfjndjbfbejkaa.Pace
