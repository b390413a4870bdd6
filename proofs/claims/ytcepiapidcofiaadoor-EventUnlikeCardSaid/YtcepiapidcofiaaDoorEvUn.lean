/-
  Events: bytes read back.
-/
import Derived.Test.YtcepiapidcofiaaDoorEvLaw
namespace Go.Proofs.YtcepiapidcofiaaDoor.Ev
open Go.ChangeShapes Go.WideShapes Go.RowKit Own

def dn (c : UInt8) : Int := Lib.indexByte digits c
def isDig (c : UInt8) : Bool := (decide (48 ≤ c.toNat) && decide (c.toNat ≤ 57)) || (decide (97 ≤ c.toNat) && decide (c.toNat ≤ 102))
theorem dn_any (c : UInt8) : (dn c = -1 ∧ isDig c = false) ∨ (0 ≤ dn c ∧ dn c < 16 ∧ digB (dn c).toNat = c ∧ isDig c = true) := by
  have e : ∀ m : Fin 256, (dn (UInt8.ofNat m.val) = -1 ∧ isDig (UInt8.ofNat m.val) = false) ∨ (0 ≤ dn (UInt8.ofNat m.val) ∧ dn (UInt8.ofNat m.val) < 16 ∧ digB (dn (UInt8.ofNat m.val)).toNat = UInt8.ofNat m.val ∧ isDig (UInt8.ofNat m.val) = true) := by decide +kernel
  have h := e ⟨c.toNat, c.toNat_lt⟩
  simpa using h
theorem dn_dig (d : Nat) (h : d < 16) : dn (digB d) = (d : Int) := by
  have e : ∀ m : Fin 16, dn (digB m.val) = (m.val : Int) := by decide +kernel
  exact e ⟨d, h⟩
/-- the bytes that pairs of digits stand for -/
def unL : List UInt8 → Option (List UInt8)
  | [] => some []
  | [_] => none
  | a :: b :: r => if dn a < 0 ∨ dn b < 0 then none else (unL r).map (UInt8.ofNat (16 * (dn a).toNat + (dn b).toNat) :: ·)
theorem un_hex : ∀ l : List UInt8, unL (hexL l) = some l
  | [] => rfl
  | b :: l => by
    have hb := b.toNat_lt
    have h1 := dn_dig (b.toNat / 16) (by omega)
    have h2 := dn_dig (b.toNat % 16) (by omega)
    show unL (digB (b.toNat / 16) :: digB (b.toNat % 16) :: hexL l) = _
    unfold unL
    rw [h1, h2, if_neg (by omega), un_hex l]
    simp only [Option.map_some, Int.toNat_natCast]
    congr 2
    rw [show 16 * (b.toNat / 16) + b.toNat % 16 = b.toNat by omega]
    simp
theorem hex_un : ∀ (l t : List UInt8), unL l = some t → hexL t = l
  | [], t, h => by cases h; rfl
  | [_], t, h => by cases h
  | a :: b :: r, t, h => by
    unfold unL at h
    split at h
    · cases h
    · rename_i hn
      obtain ⟨t', ht, rfl⟩ := Option.map_eq_some_iff.1 h
      have ih := hex_un r t' ht
      rcases dn_any a with ⟨ha, _⟩ | ⟨ha1, ha2, ha3, _⟩
      · omega
      rcases dn_any b with ⟨hb, _⟩ | ⟨hb1, hb2, hb3, _⟩
      · omega
      show digB (_ / 16) :: digB (_ % 16) :: hexL t' = _
      rw [ih]
      have e : (UInt8.ofNat (16 * (dn a).toNat + (dn b).toNat)).toNat = 16 * (dn a).toNat + (dn b).toNat := by rw [UInt8.toNat_ofNat']; omega
      rw [e, show (16 * (dn a).toNat + (dn b).toNat) / 16 = (dn a).toNat by omega, show (16 * (dn a).toNat + (dn b).toNat) % 16 = (dn b).toNat by omega, ha3, hb3]
theorem un_none : ∀ (l : List UInt8), l.length % 2 = 0 → unL l = none → l.all isDig = false
  | [], _, h => by cases h
  | [_], h, _ => by simp at h
  | a :: b :: r, hl, h => by
    unfold unL at h
    rcases dn_any a with ⟨ha, ha2⟩ | ⟨ha1, ha2, ha3, ha4⟩
    · simp [ha2]
    rcases dn_any b with ⟨hb, hb2⟩ | ⟨hb1, hb2, hb3, hb4⟩
    · simp [hb2]
    rw [if_neg (by omega)] at h
    have := un_none r (by simp at hl; omega) (by simpa using h)
    simp [this]
theorem un_snoc : ∀ (l t : List UInt8) (a b : UInt8), unL l = some t → unL (l ++ [a, b]) = if dn a < 0 ∨ dn b < 0 then none else some (t ++ [UInt8.ofNat (16 * (dn a).toNat + (dn b).toNat)])
  | [], t, a, b, h => by
    cases h
    show unL [a, b] = _
    unfold unL
    split
    · rfl
    · rfl
  | [_], t, a, b, h => by cases h
  | x :: y :: r, t, a, b, h => by
    unfold unL at h
    split at h
    · cases h
    · rename_i hn
      obtain ⟨t', ht, rfl⟩ := Option.map_eq_some_iff.1 h
      have ih := un_snoc r t' a b ht
      show unL (x :: y :: (r ++ [a, b])) = _
      unfold unL
      rw [if_neg hn, ih]
      split <;> rfl
theorem un_bad : ∀ (l m : List UInt8), l.length % 2 = 0 → unL l = none → unL (l ++ m) = none
  | [], m, _, h => by cases h
  | [_], m, h, _ => by simp at h
  | x :: y :: r, m, hl, h => by
    unfold unL at h
    show unL (x :: y :: (r ++ m)) = none
    unfold unL
    split at h
    · rename_i hn; rw [if_pos hn]
    · rename_i hn
      rw [if_neg hn, un_bad r m (by simp at hl; omega) (by simpa using h)]
      rfl
/-- what a word stands for -/
def unS (s : ByteArray) : Option (List UInt8) := if s = ⟨#[45]⟩ then some [] else if s.size = 0 ∨ s.size % 2 ≠ 0 then none else unL s.data.toList
def unV (s : ByteArray) : ByteArray := ⟨((unS s).getD []).toArray⟩
def unB (s : ByteArray) : Bool := (unS s).isSome
end Go.Proofs.YtcepiapidcofiaaDoor.Ev
