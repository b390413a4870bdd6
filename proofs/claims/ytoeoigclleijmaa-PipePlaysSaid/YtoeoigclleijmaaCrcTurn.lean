/-
  A text with bits turned: nothing is turned but within 32 bits.
-/
import Derived.Test.YtoeoigclleijmaaCrcSeal
import Derived.BigGuardPart
import Derived.Deep.RegionHeld3
namespace Go.Proofs.Ytoeoigclleijmaa.CrcCalls
open Go.RowKit Go.WideShapes CrcMath

/-- the cells of a row of bytes -/
def Bytes (w : World) (b : Nat) (l : List UInt8) : Prop := ∀ i (h : i < l.length), w.cell? ⟨b, i, none⟩ = some (.int .u8 (l[i].toNat : Int)) ∧ w.frozen? ⟨b, i, none⟩ = false

/-- the row that a text's bytes are laid into -/
def row (w : World) (s : ByteArray) : Array Value := bytesRow s (grownCap w s.size 0 5)
def rowCap (w : World) (s : ByteArray) : Nat := grownCap w s.size 0 5
theorem conv_run (w : World) (s : ByteArray) : (convert 9 58 (.string s)).run Try.prog w = .ok (.slice (some ⟨w.heap.size, 0, none⟩) s.size (rowCap w s)) (w.drew.alloc (.cells (row w s) 5 ((row w s).size, (row w s).size + 1))) :=
  run_bytes_of_string w _ _ _ s Try.underlying9 Try.underlying58 Try.underlying5
theorem row_bytes (w : World) (s : ByteArray) : Bytes ((w.alloc (.cells (row w s) 5 ((row w s).size, (row w s).size + 1))).drew) w.heap.size s.data.toList := by
  intro i h
  have hi : i < s.data.size := by simpa using h
  have hr : (row w s)[i]? = some (.int .u8 (s.data[i].toNat : Int)) := bytesRow_at s _ i hi
  have hlt : i < (row w s).size := by
    rcases Nat.lt_or_ge i (row w s).size with h | h
    · exact h
    · rw [Array.getElem?_eq_none h] at hr; cases hr
  constructor
  · show (w.alloc _).cell? _ = _
    rw [World.cell?_alloc_mark, hr]; rfl
  · show (w.alloc _).frozen? _ = _
    rw [World.frozen?_alloc_mark]
    simp; omega

/-- the bit turned -/
def flip (L : List UInt8) (m : Nat) : List UInt8 := L.set (m / 8) (UInt8.ofNat ((L.getD (m / 8) 0).toNat ^^^ 2 ^ (7 - m % 8)))
theorem flip_val (x : UInt8) (m : Nat) : bits .xor .u8 (x.toNat : Int) (128 / 2 ^ (m % 8)) = ((UInt8.ofNat (x.toNat ^^^ 2 ^ (7 - m % 8))).toNat : Int) := by
  have h8 : m % 8 < 8 := Nat.mod_lt _ (by omega)
  have hp : ((128 : Int) / 2 ^ (m % 8)) = ((2 ^ (7 - m % 8) : Nat) : Int) := by
    generalize m % 8 = r at *
    match r, h8 with
    | 0, _ | 1, _ | 2, _ | 3, _ | 4, _ | 5, _ | 6, _ | 7, _ => decide
  have hlt : 2 ^ (7 - m % 8) < 256 := Nat.lt_of_le_of_lt (Nat.pow_le_pow_right (by omega) (by omega : 7 - m % 8 ≤ 7)) (by decide)
  rw [hp, u8_xor_nat _ _ x.toNat_lt hlt, UInt8.toNat_ofNat', Nat.mod_eq_of_lt (Nat.xor_lt_two_pow (n := 8) x.toNat_lt hlt)]
theorem flip_length (L : List UInt8) (m : Nat) : (flip L m).length = L.length := by simp [flip]
theorem flip_bit (L : List UInt8) (m j : Nat) (h : j ≠ m) : bitAt (flip L m) j = bitAt L j := by
  unfold bitAt flip
  by_cases h8 : j / 8 = m / 8
  · by_cases hl : m / 8 < L.length
    · rw [h8]
      have e : (L.set (m / 8) (UInt8.ofNat ((L.getD (m / 8) 0).toNat ^^^ 2 ^ (7 - m % 8)))).getD (m / 8) 0 = UInt8.ofNat ((L.getD (m / 8) 0).toNat ^^^ 2 ^ (7 - m % 8)) := by
        simp [List.getD, hl]
      have hlt : 2 ^ (7 - m % 8) < 256 := Nat.lt_of_le_of_lt (Nat.pow_le_pow_right (by omega) (by omega : 7 - m % 8 ≤ 7)) (by decide)
      rw [e, UInt8.toNat_ofNat', Nat.mod_eq_of_lt (Nat.xor_lt_two_pow (n := 8) (L.getD (m / 8) 0).toNat_lt hlt), Nat.testBit_xor, Nat.testBit_two_pow_of_ne (by omega)]
      simp
    · rw [List.set_eq_of_length_le (by omega)]
  · have e : ∀ y, (L.set (m / 8) y).getD (j / 8) 0 = L.getD (j / 8) 0 := by
      intro y
      simp [List.getD, show ¬ m / 8 = j / 8 from fun e => h8 e.symm]
    rw [e]

theorem flip_same (L : List UInt8) (m : Nat) (hi : m / 8 < L.length) (h : m / 8 < (flip L m).length) : (flip L m)[m / 8] = UInt8.ofNat ((L[m / 8]).toNat ^^^ 2 ^ (7 - m % 8)) := by
  simp only [flip, List.getElem_set_self, getD_lt _ _ _ hi]
theorem flip_other (L : List UInt8) (m i : Nat) (e : ¬ m / 8 = i) (hi : i < L.length) (h : i < (flip L m).length) : (flip L m)[i] = L[i] := by
  simp only [flip, List.getElem_set_ne e]

theorem bytes_flip {w : World} {B : Nat} {L : List UInt8} (h : Bytes w B L) (m : Nat) (hi : m / 8 < L.length) (x : UInt8) (hx : L[m / 8] = x) :
    Bytes ((w.setCell ⟨B, m / 8, none⟩ (.int .u8 (bits .xor .u8 (x.toNat : Int) (128 / 2 ^ (m % 8))))).drew) B (flip L m) := by
  intro i hf
  have hi' : i < L.length := by rw [flip_length] at hf; exact hf
  obtain ⟨h1, h2⟩ := h i hi'
  constructor
  · show (w.setCell _ _).cell? _ = _
    by_cases e : m / 8 = i
    · subst e
      rw [World.cell?_setCell_same _ _ _ h1, flip_val, flip_same L m hi hf, hx]
    · rw [World.cell?_setCell_other _ _ _ _ (fun he => e (congrArg Addr.off he)), h1, flip_other L m i e hi' hf]
  · show (w.setCell _ _).frozen? _ = _
    rw [World.frozen?_setCell]
    exact h2

theorem turn_any (s : ByteArray) (at_ : Nat) (mask : Int) (w : World) (hs : s.size ≤ 1000) (hat : at_ ≤ 100000) :
    Calls Try.prog 12 #[.string s, .int .i64 at_, .int .u32 mask] w fun e w' => ∃ t : ByteArray, e = .returned (.string t) ∧ t.size = s.size ∧
      (∀ j, j < 8 * s.size → (j < at_ ∨ at_ + 32 ≤ j) → bitAt t.data.toList j = bitAt s.data.toList j) ∧ Below w.heap.size w w' := by
  have hcv := conv_run
  go_enter Try.func12, Try.ntmps12
  go_wp2_with fail
  have hB := Lib.hid (row_bytes w s)
  have hb0 : Below w.heap.size w ((w.alloc (.cells (row w s) 5 ((row w s).size, (row w s).size + 1))).drew) := ((Below.refl _ _).alloc (Nat.le_refl _) _).drew
  have hsz0 : w.heap.size + 1 = ((w.alloc (.cells (row w s) 5 ((row w s).size, (row w s).size + 1))).drew).heap.size := by simp
  have hz := Lib.hid hsz0
  clear hsz0 hcv
  generalize (w.alloc (.cells (row w s) 5 ((row w s).size, (row w s).size + 1))).drew = w0 at *
  generalize rowCap w s = cap
  generalize hBw : w.heap.size = B at *
  have HBW := Lib.hid hBw
  clear hBw
  go_loopw [12] (fun i wr => ∃ (k : Nat) (L : List UInt8), k ≤ 32 ∧ i = .int .i64 k ∧ L.length = s.size ∧ Hid (Bytes wr B L) ∧ Below B w wr ∧ B < wr.heap.size ∧
      Hid (∀ j, j < 8 * s.size → (j < at_ ∨ at_ + 32 ≤ j) → bitAt L j = bitAt s.data.toList j)) (fun i _ => 32 - (intOf i).toNat)
  case atStart => exact ⟨0, s.data.toList, by omega, rfl, rfl, hB, hb0, by have := hz.out; omega, Lib.hid fun _ _ _ => rfl⟩
  case round =>
    obtain ⟨k, L, hk, rfl, hL, HL, hb, hBs, HP⟩ := hrel
    by_cases hlt : k < 32
    · obtain ⟨m, hm⟩ : ∃ m : Nat, (at_ : Int) + (k : Int) = (m : Int) := ⟨at_ + k, by omega⟩
      have hm2 : (m : Int) ≤ 100032 := by omega
      go_wp2_with fail
      · have hlt8 : (m : Int) < 8 * (s.size : Int) := by assumption
        have hi : m / 8 < L.length := by omega
        obtain ⟨hc, hf⟩ := HL.out (m / 8) hi
        have hi2 : (m : Int) / 8 < (s.size : Int) := by omega
        have hi0 : (0 : Int) ≤ (m : Int) / 8 := by omega
        obtain ⟨x, hx⟩ : ∃ x : UInt8, L[m / 8] = x := ⟨_, rfl⟩
        rw [hx] at hc
        go_region
        go_wp2_with fail
        go_roundw
        case rel =>
          refine ⟨k + 1, flip L m, by omega, by go_num, by rw [flip_length, hL], Lib.hid (bytes_flip HL.out m hi x hx), (hb.setCell (Nat.le_refl _) _).drew, by simpa using hBs, Lib.hid fun j hj hout => ?_⟩
          rw [flip_bit L m j (by omega)]
          exact HP.out j hj hout
        case measure => simp [intOf]; omega
      · go_roundw
        case rel => exact ⟨k + 1, L, by omega, by go_num, hL, HL, hb, hBs, HP⟩
        case measure => simp [intOf]; omega
      · go_roundw
        case rel => exact ⟨k + 1, L, by omega, by go_num, hL, HL, hb, hBs, HP⟩
        case measure => simp [intOf]; omega
    · have hcb := run_convert_bytes_back (P := Try.prog) wr 58 9 5 ⟨B, 0, none⟩ cap L Try.underlying58 Try.underlying5 Try.underlying9 (fun j hj => by rw [add_plain, Nat.zero_add]; exact (HL.out j hj).1)
      rw [hL] at hcb
      go_wp2_with fail
      go_ret
      exact ⟨_, rfl, hL, HP.out, by rw [HBW.out]; exact hb⟩
end Go.Proofs.Ytoeoigclleijmaa.CrcCalls
