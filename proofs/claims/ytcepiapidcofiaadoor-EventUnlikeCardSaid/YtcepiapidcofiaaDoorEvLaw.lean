/-
  Events: texts and requests of any kind; the statements' fixed facts.
-/
import Derived.Test.YtcepiapidcofiaaDoorEvRText
namespace Go.Proofs.YtcepiapidcofiaaDoor.Ev
open Go.ChangeShapes Go.WideShapes Go.RowKit Own

def textK (k : Int) (d : ByteArray) (self : Bool) (code : Nat) (n : Int) : ByteArray := if k < 1 ∨ 12 < k then ⟨#[]⟩ else textS k.toNat d self code n
theorem text_any (k : Int) (d : ByteArray) (self : Bool) (code : Nat) (n : Int) (w : World) (hT : Tabs w) (hd : d.size ≤ 10000) (hc : code < 256) (hn1 : -9223372036854775808 ≤ n) (hn2 : n ≤ 9223372036854775807) :
    Calls Tryd.prog 7 #[.agg #[.int .i64 k, .string d, .bool self, .int .u8 (code : Int), .int .i64 n]] w fun e w' => e = .returned (.string (textK k d self code n)) ∧ Below w.heap.size w w' := by
  by_cases h : k < 1 ∨ 12 < k
  · unfold textK; rw [if_pos h]; exact text_out k d self code n w h
  · unfold textK; rw [if_neg h]
    obtain ⟨j, rfl⟩ : ∃ j : Nat, k = (j : Int) := ⟨k.toNat, by omega⟩
    rw [Int.toNat_natCast]
    exact text_in j d self code n w hT hd (by omega) (by omega) hc hn1 hn2
set_option maxRecDepth 100000 in
theorem awake_text : textK 3 ⟨#[97]⟩ true 0 0 = ⟨#[114, 101, 108, 101, 97, 115, 101, 32, 115, 101, 108, 102, 32, 54, 49]⟩ := by decide +kernel
set_option maxRecDepth 100000 in
theorem awake_any (w : World) (hT : Tabs w) :
    Calls Tryd.prog 4 #[] w fun e w' => e = .returned (.bool true) ∧ Below w.heap.size w w' := by
  have HA := Lib.hid awake_text
  have HT := Lib.hid hT
  clear hT
  go_enter Tryd.func4, Tryd.ntmps4
  go_wp2_with fail
  refine (text_any 3 ⟨#[97]⟩ true 0 0 _ HT.out (by decide) (by decide) (by decide) (by decide)).mono ?_; rintro e w1 ⟨rfl, hb1⟩
  rw [HA.out]
  have hT1 := HT.out.below hb1
  have hs1 := hb1.size
  go_wp2_with fail
  refine (check_any 10 ⟨#[]⟩ 1 _ hT1.forms).mono ?_; rintro e w2 ⟨rfl, hb2⟩
  rw [show checkE 10 (⟨#[]⟩ : ByteArray).size 1 = 0 by decide]
  have hb3 := hb1.trans (hb2.mono hs1)
  clear hb2
  go_wp2_with fail
  go_ret
  exact ⟨rfl, hb3⟩
/-- a signal's parts -/
theorem open_sig (w : World) (v : Value) (x : Base.Dat) (h : Base.RdV w (.struct [.int .i64, .str, .bool, .int .u8, .int .i64]) x v) : ∃ (k : Int) (d : ByteArray) (self : Bool) (c : Nat) (n : Int), v = .agg #[.int .i64 k, .string d, .bool self, .int .u8 (c : Int), .int .i64 n] ∧ c < 256 ∧ -9223372036854775808 ≤ k ∧ k ≤ 9223372036854775807 ∧ -9223372036854775808 ≤ n ∧ n ≤ 9223372036854775807 ∧ d.size ≤ 140737488351232 := by
  obtain ⟨cs, rfl, h⟩ := h
  obtain ⟨l, rfl, h⟩ := Base.rd_struct h
  obtain ⟨d0, r, c0, c, rfl, rfl, h0, h⟩ := Base.rdAll_cons h
  obtain ⟨d1, r, c1, c, rfl, rfl, h1, h⟩ := Base.rdAll_cons h
  obtain ⟨d2, r, c2, c, rfl, rfl, h2, h⟩ := Base.rdAll_cons h
  obtain ⟨d3, r, c3, c, rfl, rfl, h3, h⟩ := Base.rdAll_cons h
  obtain ⟨d4, r, c4, c, rfl, rfl, h4, h⟩ := Base.rdAll_cons h
  obtain ⟨rfl, rfl⟩ := Base.rdAll_nil h
  obtain ⟨z0, rfl, rfl, w0⟩ := Base.rd_int h0
  obtain ⟨s1, rfl, rfl, w1⟩ := Base.rd_str h1
  obtain ⟨b2, rfl, rfl⟩ := Base.rd_bool h2
  obtain ⟨z3, rfl, rfl, w3⟩ := Base.rd_int h3
  obtain ⟨z4, rfl, rfl, w4⟩ := Base.rd_int h4
  have e0 := bounds_i64 w0
  have e3 := bounds_u8 w3
  have e4 := bounds_i64 w4
  exact ⟨z0, s1, b2, z3.toNat, z4, by rw [Int.toNat_of_nonneg e3.1]; rfl, by omega, e0.1, by omega, e4.1, by omega, w1⟩
theorem open_req (w : World) (v : Value) (x : Base.Dat) (h : Base.RdV w (.struct [.int .i64, .str, .int .i64]) x v) : ∃ (k : Int) (d : ByteArray) (n : Int), v = .agg #[.int .i64 k, .string d, .int .i64 n] ∧ -9223372036854775808 ≤ k ∧ k ≤ 9223372036854775807 ∧ -9223372036854775808 ≤ n ∧ n ≤ 9223372036854775807 ∧ d.size ≤ 140737488351232 := by
  obtain ⟨cs, rfl, h⟩ := h
  obtain ⟨l, rfl, h⟩ := Base.rd_struct h
  obtain ⟨d0, r, c0, c, rfl, rfl, h0, h⟩ := Base.rdAll_cons h
  obtain ⟨d1, r, c1, c, rfl, rfl, h1, h⟩ := Base.rdAll_cons h
  obtain ⟨d2, r, c2, c, rfl, rfl, h2, h⟩ := Base.rdAll_cons h
  obtain ⟨rfl, rfl⟩ := Base.rdAll_nil h
  obtain ⟨z0, rfl, rfl, w0⟩ := Base.rd_int h0
  obtain ⟨s1, rfl, rfl, w1⟩ := Base.rd_str h1
  obtain ⟨z4, rfl, rfl, w4⟩ := Base.rd_int h2
  have e0 := bounds_i64 w0
  have e4 := bounds_i64 w4
  exact ⟨z0, s1, z4, rfl, e0.1, by omega, e4.1, by omega, w1⟩
theorem checkE_bounds (k : Int) (s : Nat) (n : Int) : 0 ≤ checkE k s n ∧ checkE k s n ≤ 10 := by
  unfold checkE restE
  split
  · decide
  · split
    · decide
    · split <;> decide
end Go.Proofs.YtcepiapidcofiaaDoor.Ev
