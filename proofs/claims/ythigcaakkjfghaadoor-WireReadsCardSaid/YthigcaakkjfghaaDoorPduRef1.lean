/-
  The document's own words on units: what a kind has; a word; a word of a text.
-/
import Derived.Test.YthigcaakkjfghaaDoorPduParse2
namespace Go.Proofs.YthigcaakkjfghaaDoor.Pdu
open Go.ChangeShapes Go.WideShapes Go.RowKit Own

theorem rdI_lit (κ : IntKind) (τ : TypeId) (w : World) (L : List Int) (cs : Array Value) (n : Nat) (hn : n = L.length) (h : cs = (L.map (Value.int κ)).toArray) : RdI κ (w.alloc (.cells cs τ)) (some ⟨w.heap.size, 0, none⟩) n L := by
  subst h hn
  refine ⟨rfl, fun _ => ⟨_, 0, rfl, by simp, fun i hi => ?_⟩⟩
  rw [cell_of_row _ _ _ _ _ (0, 0) (heap_alloc_new w _)]
  simp [List.getD, hi]

def inB (x : Int) (L : List Int) : Bool := L.any (· == x)
theorem inB_take (x : Int) (L : List Int) (k : Nat) (h : k < L.length) : inB x (L.take (k + 1)) = (inB x (L.take k) || (L.getD k 0 == x)) := by
  unfold inB; rw [take_succ' L 0 k h, List.any_append]; simp
theorem inB_sub {x : Int} {L : List Int} {k : Nat} (h : inB x (L.take k) = true) : inB x L = true := by
  unfold inB at *
  rw [List.any_eq_true] at h ⊢
  obtain ⟨z, hz, he⟩ := h
  exact ⟨z, List.mem_of_mem_take hz, he⟩
set_option maxHeartbeats 400000 in
theorem in_any (x : Int) (a : Option Addr) (n cap : Nat) (L : List Int) (w : World) (h : RdI .i64 w a n L) (hn : n ≤ 1000000) :
    Calls Tryd.prog 35 #[.int .i64 x, .slice a n cap] w fun e w' => e = .returned (.bool (inB x L)) ∧ w = w' := by
  have HL := Lib.hid h
  clear h
  go_enter Tryd.func35, Tryd.ntmps35
  go_wp2_with fail
  go_loop [9] (fun i => ∃ k : Nat, k ≤ n ∧ i = .int .i64 k ∧ Hid (inB x (L.take k) = false)) (fun i => n - (intOf i).toNat)
  case atStart => exact ⟨0, Nat.zero_le _, rfl, Lib.hid rfl⟩
  case round =>
    obtain ⟨k, hk, rfl, hno⟩ := hrel
    by_cases hlt : k < n
    · obtain ⟨b, off, rfl, _, hc⟩ := HL.out.at_ hlt
      have hl : k < L.length := by have := HL.out.1; omega
      have hst := inB_take x L k hl
      rw [hno.out, Bool.false_or] at hst
      obtain ⟨y, hy⟩ : ∃ y, L.getD k 0 = y := ⟨_, rfl⟩
      rw [hy] at hc hst
      have HST := Lib.hid hst
      clear hst hy
      by_cases hx : y = x
      · have hx2 : (y == x) = true := by simpa using hx
        have HX := Lib.hid hx2
        go_wp2_with fail
        go_ret
        exact ⟨congrArg (fun b => Ending.returned (.bool b)) (inB_sub (k := k + 1) (by rw [HST.out, HX.out])).symm, rfl⟩
      · have hx2 : (y == x) = false := by simpa using hx
        have HX := Lib.hid hx2
        go_wp2_with fail
        go_round
        case rel => exact ⟨k + 1, by omega, by go_num, Lib.hid (by rw [HST.out, HX.out])⟩
        case measure => simp [intOf]; omega
    · go_wp2_with fail
      go_ret
      exact ⟨congrArg (fun b => Ending.returned (.bool b)) (by have := hno.out; rw [List.take_of_length_le (by have := HL.out.1; omega)] at this; exact this.symm), rfl⟩

def hasSQ (k : Int) : Bool := inB k [1, 2, 3, 4, 5, 6, 7, 9, 15]
def hasN (k : Int) : Bool := inB k [1, 2, 5, 6, 8, 9, 10, 11, 12, 15]
def mostI (k : Int) : Int := if inB k [1, 3, 5, 7] then 64 else if inB k [8, 13, 14] then 200 else 0
def lowB (x : Int) : Bool := decide (0 ≤ x ∧ x < 16777216)
theorem hasSQ_any (k : Int) (w : World) :
    Calls Tryd.prog 33 #[.int .i64 k] w fun e w' => e = .returned (.bool (hasSQ k)) ∧ Below w.heap.size w w' := by
  go_enter Tryd.func33, Tryd.ntmps33
  go_wp2_with fail
  refine (in_any k _ 9 9 [1, 2, 3, 4, 5, 6, 7, 9, 15] _ (rdI_lit .i64 _ w _ _ 9 rfl rfl) (by decide)).mono ?_; rintro e w' ⟨rfl, rfl⟩
  go_wp2_with fail
  go_ret
  exact ⟨rfl, (Below.refl _ _).alloc (Nat.le_refl _) _⟩
theorem hasN_any (k : Int) (w : World) :
    Calls Tryd.prog 34 #[.int .i64 k] w fun e w' => e = .returned (.bool (hasN k)) ∧ Below w.heap.size w w' := by
  go_enter Tryd.func34, Tryd.ntmps34
  go_wp2_with fail
  refine (in_any k _ 10 10 [1, 2, 5, 6, 8, 9, 10, 11, 12, 15] _ (rdI_lit .i64 _ w _ _ 10 rfl rfl) (by decide)).mono ?_; rintro e w' ⟨rfl, rfl⟩
  go_wp2_with fail
  go_ret
  exact ⟨rfl, (Below.refl _ _).alloc (Nat.le_refl _) _⟩
theorem most_any (k : Int) (w : World) :
    Calls Tryd.prog 31 #[.int .i64 k] w fun e w' => e = .returned (.int .i64 (mostI k)) ∧ Below w.heap.size w w' := by
  go_enter Tryd.func31, Tryd.ntmps31
  go_wp2_with fail
  refine (in_any k _ 4 4 [1, 3, 5, 7] _ (rdI_lit .i64 _ w _ _ 4 rfl rfl) (by decide)).mono ?_; rintro e w' ⟨rfl, rfl⟩
  cases h1 : inB k [1, 3, 5, 7] with
  | true =>
    go_wp2_with fail
    go_ret
    exact ⟨congrArg (fun z => Ending.returned (Value.int .i64 z)) (by simp [mostI, h1]), (Below.refl _ _).alloc (Nat.le_refl _) _⟩
  | false =>
    go_wp2_with fail
    refine (in_any k _ 3 3 [8, 13, 14] _ (by have := rdI_lit .i64 3 (w.alloc (.cells #[.int .i64 1, .int .i64 3, .int .i64 5, .int .i64 7] 3)) [8, 13, 14] _ 3 rfl rfl; simpa using this) (by decide)).mono ?_; rintro e w' ⟨rfl, rfl⟩
    cases h2 : inB k [8, 13, 14] with
    | true =>
      go_wp2_with fail
      go_ret
      exact ⟨congrArg (fun z => Ending.returned (Value.int .i64 z)) (by simp [mostI, h1, h2]), ((Below.refl _ _).alloc (Nat.le_refl _) _).alloc (by simp) _⟩
    | false =>
      go_wp2_with fail
      go_ret
      exact ⟨congrArg (fun z => Ending.returned (Value.int .i64 z)) (by simp [mostI, h1, h2]), ((Below.refl _ _).alloc (Nat.le_refl _) _).alloc (by simp) _⟩
theorem rlow_any (x : Int) (w : World) :
    Calls Tryd.prog 32 #[.int .i64 x] w fun e w' => e = .returned (.bool (lowB x)) ∧ w = w' := by
  unfold lowB
  by_cases h0 : 0 ≤ x
  · by_cases h5 : x < 16777216
    · rw [show decide (0 ≤ x ∧ x < 16777216) = true from decide_eq_true ⟨h0, h5⟩]
      go_enter Tryd.func32, Tryd.ntmps32
      go_wp2_with fail
      go_ret
      exact ⟨rfl, rfl⟩
    · rw [show decide (0 ≤ x ∧ x < 16777216) = false from decide_eq_false (fun h => h5 h.2)]
      go_enter Tryd.func32, Tryd.ntmps32
      go_wp2_with fail
      go_ret
      exact ⟨rfl, rfl⟩
  · rw [show decide (0 ≤ x ∧ x < 16777216) = false from decide_eq_false (fun h => h0 h.1)]
    go_enter Tryd.func32, Tryd.ntmps32
    go_wp2_with fail
    go_ret
    exact ⟨rfl, rfl⟩

theorem conv4 (w : World) (a b c d : Int) : (convert 56 9 (.slice (some ⟨w.heap.size, 0, none⟩) 4 4)).run Tryd.prog (w.alloc (.cells #[.int .u8 a, .int .u8 b, .int .u8 c, .int .u8 d] 5)) = .ok (.string (strOfNums [a, b, c, d])) (w.alloc (.cells #[.int .u8 a, .int .u8 b, .int .u8 c, .int .u8 d] 5)) := by
  refine run_convert_bytes_arg _ _ _ Tryd.underlying56 Tryd.underlying5 _ _ _ _ [a, b, c, d] rfl ?_ _ Tryd.underlying9
  intro i hi
  rw [Nat.zero_add, World.cell?_alloc_at _ _ _ _ rfl]
  match i, hi with
  | 0, _ | 1, _ | 2, _ | 3, _ => rfl
theorem conv1 (w : World) (a : Int) : (convert 56 9 (.slice (some ⟨w.heap.size, 0, none⟩) 1 1)).run Tryd.prog (w.alloc (.cells #[.int .u8 a] 5)) = .ok (.string (strOfNums [a])) (w.alloc (.cells #[.int .u8 a] 5)) := by
  refine run_convert_bytes_arg _ _ _ Tryd.underlying56 Tryd.underlying5 _ _ _ _ [a] rfl ?_ _ Tryd.underlying9
  intro i hi
  rw [Nat.zero_add, World.cell?_alloc_at _ _ _ _ rfl]
  match i, hi with
  | 0, _ => rfl

def wordS (x : Int) : ByteArray := strOfNums (be4 x)
theorem wordS_of (x : Int) (h0 : 0 ≤ x) (h1 : x < 4294967296) : strOfNums [x / 16777216, x / 65536 % 256, x / 256 % 256, x % 256] = wordS x := by
  unfold wordS be4
  rw [show x / 16777216 % 256 = x / 16777216 from by omega]
theorem word_any' (x : Int) (w : World) (h0 : 0 ≤ x) (h1 : x < 4294967296) :
    Calls Tryd.prog 51 #[.int .i64 x] w fun e w' => e = .returned (.string (wordS x)) ∧ Below w.heap.size w w' := by
  rw [← wordS_of x h0 h1]
  have hcv := conv4
  go_enter Tryd.func51, Tryd.ntmps51
  go_wp2_with fail
  go_ret
  exact ⟨rfl, (Below.refl _ _).alloc (Nat.le_refl _) _⟩

theorem idx_str (s : ByteArray) (i : Nat) (x : UInt8) (z : Int) (hz : z = (i : Int)) (h : s.data.toList[i]? = some x) (W : World) : (Instr.index 9 (.string s) (.int .i64 z)).run Tryd.prog W = .ok (.int .u8 (x.toNat : Int)) W := by
  subst hz
  obtain ⟨hi, he⟩ := List.getElem?_eq_some_iff.1 h
  have hi2 : i < s.size := by simpa using hi
  have he2 : s[i] = x := he
  rw [run_index_string (h := Tryd.underlying9), dif_pos ⟨by omega, by omega⟩]
  simp only [Int.toNat_natCast, he2]
theorem ret_int' {a b : Int} (h : a = b) : Ending.returned (.int .i64 a) = .returned (.int .i64 b) := by rw [h]
set_option maxHeartbeats 1000000 in
theorem at_any (s : ByteArray) (k E : Nat) (w : World) (hs : s.size = E + 4 + 4 * k) (hm : s.size ≤ 100000) :
    Calls Tryd.prog 59 #[.string s, .int .i64 (k : Int)] w fun e w' => e = .returned (.int .i64 (word4 ((s.data.toList.drop E).take 4) : Nat)) ∧ ∃ n, w' = w.drewN n := by
  have hk : (k : Int) ≤ 25000 := by omega
  have hE : (s.size : Int) - 4 - 4 * (k : Int) = (E : Int) := by omega
  have hl : ∃ a b c d : UInt8, (s.data.toList.drop E).take 4 = [a, b, c, d] ∧ s.data.toList[E]? = some a ∧ s.data.toList[E + 1]? = some b ∧ s.data.toList[E + 2]? = some c ∧ s.data.toList[E + 3]? = some d := by
    have h4 : ((s.data.toList.drop E).take 4).length = 4 := by rw [List.length_take, List.length_drop]; simp; omega
    have hat : ∀ j, j < 4 → s.data.toList[E + j]? = ((s.data.toList.drop E).take 4)[j]? := fun j hj => by rw [List.getElem?_take, if_pos hj, List.getElem?_drop]
    generalize (s.data.toList.drop E).take 4 = l at *
    match l, h4 with
    | [a, b, c, d], _ => exact ⟨a, b, c, d, rfl, hat 0 (by omega), hat 1 (by omega), hat 2 (by omega), hat 3 (by omega)⟩
  obtain ⟨a, b, c, d, hl, ha, hb, hc, hd⟩ := hl
  rw [hl]
  have hi0 : (E : Int) + 3 < (s.size : Int) := by omega
  have HS := Lib.hid hs
  have i0 := idx_str s E a (E : Int) rfl ha
  have i1 := idx_str s (E + 1) b ((E : Int) + 1) (by omega) hb
  have i2 := idx_str s (E + 2) c ((E : Int) + 2) (by omega) hc
  have i3 := idx_str s (E + 3) d ((E : Int) + 3) (by omega) hd
  have ba := a.toNat_lt
  have bb := b.toNat_lt
  have bc := c.toNat_lt
  have bd := d.toNat_lt
  obtain ⟨A, hA⟩ : ∃ A : Int, A = (a.toNat : Int) := ⟨_, rfl⟩
  obtain ⟨B, hB⟩ : ∃ A : Int, A = (b.toNat : Int) := ⟨_, rfl⟩
  obtain ⟨C, hC⟩ : ∃ A : Int, A = (c.toNat : Int) := ⟨_, rfl⟩
  obtain ⟨D, hD⟩ : ∃ A : Int, A = (d.toNat : Int) := ⟨_, rfl⟩
  have HR : Hid (((word4 [a, b, c, d] : Nat) : Int) = A * 16777216 + B * 65536 + C * 256 + D) := Lib.hid (by simp [word4]; omega)
  rw [← hA] at i0
  rw [← hB] at i1
  rw [← hC] at i2
  rw [← hD] at i3
  have cA : IntKind.i64.wrap A = A := by rw [IntKind.wrap_i64]; omega
  have cB : IntKind.i64.wrap B = B := by rw [IntKind.wrap_i64]; omega
  have cC : IntKind.i64.wrap C = C := by rw [IntKind.wrap_i64]; omega
  have cD : IntKind.i64.wrap D = D := by rw [IntKind.wrap_i64]; omega
  have w1 : IntKind.i64.wrap ((E : Int) + 1) = (E : Int) + 1 := by rw [IntKind.wrap_i64]; omega
  have w2 : IntKind.i64.wrap ((E : Int) + 2) = (E : Int) + 2 := by rw [IntKind.wrap_i64]; omega
  have w3 : IntKind.i64.wrap ((E : Int) + 3) = (E : Int) + 3 := by rw [IntKind.wrap_i64]; omega
  have v1 : IntKind.i64.wrap (A * 16777216) = A * 16777216 := by rw [IntKind.wrap_i64]; omega
  have v2 : IntKind.i64.wrap (B * 65536) = B * 65536 := by rw [IntKind.wrap_i64]; omega
  have v3 : IntKind.i64.wrap (C * 256) = C * 256 := by rw [IntKind.wrap_i64]; omega
  have u1 : IntKind.i64.wrap (A * 16777216 + B * 65536) = A * 16777216 + B * 65536 := by rw [IntKind.wrap_i64]; omega
  have u2 : IntKind.i64.wrap (A * 16777216 + B * 65536 + C * 256) = A * 16777216 + B * 65536 + C * 256 := by rw [IntKind.wrap_i64]; omega
  have u3 : IntKind.i64.wrap (A * 16777216 + B * 65536 + C * 256 + D) = A * 16777216 + B * 65536 + C * 256 + D := by rw [IntKind.wrap_i64]; omega
  clear hs hl ha hb hc hd hA hB hC hD ba bb bc bd
  go_enter Tryd.func59, Tryd.ntmps59
  go_wp2_with fail
  go_quiet (fail)
  go_wp2_with fail
  go_ret
  exact ⟨ret_int' HR.out.symm, _, rfl⟩
end Go.Proofs.YthigcaakkjfghaaDoor.Pdu
