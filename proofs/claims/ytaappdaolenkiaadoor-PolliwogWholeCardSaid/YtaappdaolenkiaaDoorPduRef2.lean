/-
  The document's own words on units: may a unit be.
-/
import Derived.Test.YtaappdaolenkiaaDoorPduRef1
import Derived.Deep.DeepCutAuto
namespace Go.Proofs.YtaappdaolenkiaaDoor.Pdu
open Go.ChangeShapes Go.WideShapes Go.RowKit Own

def bad4 (u : U) : Prop := (0 < mostI u.kind ∧ mostI u.kind < (u.data.size : Int)) ∨ 128 < (u.list.length : Int)
def bad6 (u : U) : Bool := (mostI u.kind == 0 && !(u.data.size == 0)) || !lowB u.n || !lowB u.ps || !lowB u.mr || decide (u.sq < 0) || decide (255 < u.sq)
def bad8 (u : U) : Bool := (!hasSQ u.kind && u.sq != 0) || (!hasN u.kind && u.n != 0) || (u.kind != 3 && u.self)
def bad10 (u : U) : Bool := (!inB u.kind [10, 11] && u.ps != 0) || (!inB u.kind [11, 12] && u.mr != 0)
def bad12 (u : U) : Bool := (u.kind == 11 && u.list.length % 2 != 0) || (u.kind == 12 && u.list.length != 2) || (u.kind != 11 && u.kind != 12 && decide (0 < u.list.length))

theorem lowB_iff (x : Int) (h : 0 ≤ x) : lowB x = true ↔ x ≤ 16777215 := by unfold lowB; rw [decide_eq_true_iff]; omega
theorem any_low (L : List Int) (h : ∀ z ∈ L, 0 ≤ z) : (L.any fun x => !lowB x) = anyBig L := by
  unfold anyBig
  induction L with
  | nil => rfl
  | cons z L ih =>
    rw [List.any_cons, List.any_cons, ih fun y hy => h y (by simp [hy])]
    congr 1
    have := h z (by simp)
    rw [Bool.eq_iff_iff]; simp [lowB]; omega
theorem form_facts (k : Nat) (h1 : 1 ≤ k) (h2 : k ≤ 15) : (formOf k).sq = (if hasSQ (k : Int) then 255 else 0) ∧ (formOf k).n = (if hasN (k : Int) then 16777215 else 0) ∧ (formOf k).ps = (if inB (k : Int) [10, 11] then 16777215 else 0) ∧
    (formOf k).mr = (if inB (k : Int) [11, 12] then 16777215 else 0) ∧ (formOf k).self = decide (k = 3) ∧ (formOf k).few = (if k = 12 then 2 else 0) ∧ (formOf k).long = (if k = 11 then 128 else if k = 12 then 2 else 0) ∧ (formOf k).data = mostI (k : Int) := by
  match k, h1, h2 with
  | 1, _, _ | 2, _, _ | 3, _, _ | 4, _, _ | 5, _, _ | 6, _, _ | 7, _, _ | 8, _, _ | 9, _, _ | 10, _, _ | 11, _, _ | 12, _, _ | 13, _, _ | 14, _, _ | 15, _, _ => exact ⟨rfl, rfl, rfl, rfl, rfl, rfl, rfl, rfl⟩
  | k + 16, _, h => exact absurd h (by omega)
theorem pos_most (k : Int) : 0 ≤ mostI k := by unfold mostI; split <;> (try split) <;> omega
set_option maxHeartbeats 4000000 in
theorem check_eq (u : U) (k : Nat) (hk : u.kind = (k : Int)) (h1 : 1 ≤ k) (h2 : k ≤ 15) (hn : 0 ≤ u.n) (hps : 0 ≤ u.ps) (hmr : 0 ≤ u.mr) (hl : ∀ z ∈ u.list, 0 ≤ z) (b4 : ¬ bad4 u) :
    checkU u = if bad6 u = true then 1 else if bad8 u = true then 1 else if bad10 u = true then 1 else if bad12 u = true then 1 else if (u.list.any fun x => !lowB x) = true then 1 else 0 := by
  rw [any_low u.list hl]
  obtain ⟨kind, sq, n, ps, mr, list, self, data⟩ := u
  dsimp only at *
  subst hk
  unfold bad4 at b4
  obtain ⟨e1, e2, e3, e4, e5, e6, e7, e8⟩ := form_facts k h1 h2
  have hkn : knownB (k : Int) = true := decide_eq_true ⟨by omega, by omega⟩
  have b4' : ¬ ((0 < (formOf k).data ∧ (formOf k).data < (data.size : Int)) ∨ 128 < (list.length : Int)) := by rw [e8]; exact b4
  unfold checkU
  dsimp only at *
  rw [if_neg (by rw [hkn]; simp), Int.toNat_natCast, if_neg b4']
  have key : (fitsP (formOf k) ⟨(k : Int), sq, n, ps, mr, list, self, data⟩ ∧ (formOf k).few ≤ (list.length : Int) ∧ (list.length : Int) ≤ (formOf k).long ∧ (list.length : Int) % 2 = 0 ∧ anyBig list = false) ↔
      ((mostI (k : Int) = 0 → data.size = 0) ∧ n ≤ 16777215 ∧ ps ≤ 16777215 ∧ mr ≤ 16777215 ∧ 0 ≤ sq ∧ sq ≤ 255 ∧ (hasSQ (k : Int) = true ∨ sq = 0) ∧ (hasN (k : Int) = true ∨ n = 0) ∧ (k = 3 ∨ self = false) ∧ (inB (k : Int) [10, 11] = true ∨ ps = 0) ∧
      (inB (k : Int) [11, 12] = true ∨ mr = 0) ∧ (k = 11 → list.length % 2 = 0) ∧ (k = 12 → list.length = 2) ∧ (k ≠ 11 → k ≠ 12 → list.length = 0) ∧ anyBig list = false) := by
    unfold fitsP
    dsimp only
    rw [e1, e2, e3, e4, e5, e6, e7, e8]
    have q5 := pos_most (k : Int)
    generalize anyBig list = ab
    generalize list.length = m at *
    generalize data.size = z at *
    generalize mostI (k : Int) = mo at *
    generalize hasSQ (k : Int) = a at *
    generalize hasN (k : Int) = b at *
    generalize inB (k : Int) [10, 11] = c at *
    generalize inB (k : Int) [11, 12] = d at *
    clear hl e1 e2 e3 e4 e5 e6 e7 e8 hkn b4'
    cases a <;> cases b <;> cases c <;> cases d <;> simp only [if_true, if_false, decide_eq_true_eq, Bool.false_eq_true, false_or, true_or, true_and] <;>
      (constructor <;> intro hh <;> (repeat' split at hh) <;> (repeat' split) <;> (refine ⟨?_, ?_⟩ <;> first | omega | grind))
  have q1 := lowB_iff n hn
  have q2 := lowB_iff ps hps
  have q3 := lowB_iff mr hmr
  have five : ∀ b1 b2 b3 b4 b5 : Bool, (if b1 = true then (1 : Int) else if b2 = true then 1 else if b3 = true then 1 else if b4 = true then 1 else if b5 = true then 1 else 0) = if (b1 || b2 || b3 || b4 || b5) = true then 1 else 0 := by decide
  rw [five]
  have key2 : (bad6 ⟨(k : Int), sq, n, ps, mr, list, self, data⟩ || bad8 ⟨(k : Int), sq, n, ps, mr, list, self, data⟩ || bad10 ⟨(k : Int), sq, n, ps, mr, list, self, data⟩ || bad12 ⟨(k : Int), sq, n, ps, mr, list, self, data⟩ || anyBig list) = true ↔
      ¬ ((mostI (k : Int) = 0 → data.size = 0) ∧ n ≤ 16777215 ∧ ps ≤ 16777215 ∧ mr ≤ 16777215 ∧ 0 ≤ sq ∧ sq ≤ 255 ∧ (hasSQ (k : Int) = true ∨ sq = 0) ∧ (hasN (k : Int) = true ∨ n = 0) ∧ (k = 3 ∨ self = false) ∧ (inB (k : Int) [10, 11] = true ∨ ps = 0) ∧
      (inB (k : Int) [11, 12] = true ∨ mr = 0) ∧ (k = 11 → list.length % 2 = 0) ∧ (k = 12 → list.length = 2) ∧ (k ≠ 11 → k ≠ 12 → list.length = 0) ∧ anyBig list = false) := by
    unfold bad6 bad8 bad10 bad12
    dsimp only
    simp only [Bool.or_eq_true, Bool.and_eq_true, Bool.not_eq_true', beq_iff_eq, bne_iff_ne, decide_eq_true_eq, beq_eq_false_iff_ne]
    rw [← q1, ← q2, ← q3]
    simp only [ne_eq, show ((k : Int) = 3) ↔ (k = 3) from by omega, show ((k : Int) = 11) ↔ (k = 11) from by omega, show ((k : Int) = 12) ↔ (k = 12) from by omega]
    generalize anyBig list = ab
    generalize list.length = m at *
    generalize data.size = z at *
    generalize mostI (k : Int) = mo at *
    generalize lowB n = l1 at *
    generalize lowB ps = l2 at *
    generalize lowB mr = l3 at *
    generalize hasSQ (k : Int) = a at *
    generalize hasN (k : Int) = b at *
    generalize inB (k : Int) [10, 11] = c at *
    generalize inB (k : Int) [11, 12] = d at *
    clear hl e1 e2 e3 e4 e5 e6 e7 e8 hkn b4' key q1 q2 q3 five
    grind
  by_cases hA : fitsP (formOf k) ⟨(k : Int), sq, n, ps, mr, list, self, data⟩ ∧ (formOf k).few ≤ (list.length : Int) ∧ (list.length : Int) ≤ (formOf k).long ∧ (list.length : Int) % 2 = 0 ∧ anyBig list = false
  · rw [if_pos hA, if_neg (fun h => key2.1 h (key.1 hA))]
  · rw [if_neg hA, if_pos (key2.2 fun h => hA (key.2 h))]
end Go.Proofs.YtaappdaolenkiaaDoor.Pdu
