/-
  Events: bytes, as they are written.
-/
import Derived.Test.YtcepiapidcofiaaDoorEvCheck
import Derived.Test.YtcepiapidcofiaaDoorOwn
namespace Go.Proofs.YtcepiapidcofiaaDoor.Ev
open Go.ChangeShapes Go.WideShapes Go.RowKit Own

def digN (d : Nat) : Nat := if d < 10 then 48 + d else 87 + d
def digB (d : Nat) : UInt8 := UInt8.ofNat (digN d)
def hexL (l : List UInt8) : List UInt8 := l.flatMap fun b => [digB (b.toNat / 16), digB (b.toNat % 16)]
def hexI (l : List UInt8) : List Int := l.flatMap fun b => [(digN (b.toNat / 16) : Int), (digN (b.toNat % 16) : Int)]
def hexS (s : ByteArray) : ByteArray := if s.size = 0 then ⟨#[45]⟩ else ⟨(hexL s.data.toList).toArray⟩
theorem digN_lt (d : Nat) (h : d < 16) : digN d < 256 := by unfold digN; split <;> omega
theorem hexI_length (l : List UInt8) : (hexI l).length = 2 * l.length := by
  induction l with
  | nil => rfl
  | cons b l ih => simp only [hexI, List.flatMap_cons, List.length_append, List.length_cons, List.length_nil] at *; omega
theorem hex_str (l : List UInt8) : strOfNums (hexI l) = ⟨(hexL l).toArray⟩ := by
  unfold strOfNums hexI hexL
  congr 2
  rw [List.map_flatMap]
  rfl
def digits : List UInt8 := [48, 49, 50, 51, 52, 53, 54, 55, 56, 57, 97, 98, 99, 100, 101, 102]
theorem digits_at (d : Nat) (h : d < 16) : (digits.getD d 0).toNat = digN d := by
  match d, h with
  | 0, _ | 1, _ | 2, _ | 3, _ | 4, _ | 5, _ | 6, _ | 7, _ | 8, _ | 9, _ | 10, _ | 11, _ | 12, _ | 13, _ | 14, _ | 15, _ => rfl
  | d + 16, h => exact absurd h (by omega)
theorem dig_at (d : Nat) (h : d < 16) : (((⟨#[48, 49, 50, 51, 52, 53, 54, 55, 56, 57, 97, 98, 99, 100, 101, 102]⟩ : ByteArray)[d]'h).toNat : Int) = (digN d : Int) := by
  match d, h with
  | 0, _ | 1, _ | 2, _ | 3, _ | 4, _ | 5, _ | 6, _ | 7, _ | 8, _ | 9, _ | 10, _ | 11, _ | 12, _ | 13, _ | 14, _ | 15, _ => rfl
  | d + 16, h => exact absurd h (by omega)
theorem hexI_snoc (s : ByteArray) (k : Nat) (h : k < s.size) : hexI (s.data.toList.take (k + 1)) = hexI (s.data.toList.take k) ++ [(digN (s[k].toNat / 16) : Int), (digN (s[k].toNat % 16) : Int)] := by
  rw [List.take_succ_eq_append_getElem (by simpa using h)]
  unfold hexI
  rw [List.flatMap_append]
  rfl
theorem rdI_lit2_at (κ : IntKind) (τ : TypeId) (w : World) (a b : Int) (g : Nat) (hg : g = w.heap.size) : RdI κ (w.alloc (.cells #[.int κ a, .int κ b] τ)) (some ⟨g, 0, none⟩) 2 [a, b] := by
  subst hg
  exact ⟨rfl, fun _ => ⟨_, 0, rfl, by simp, fun i hi => by rcases (show i = 0 ∨ i = 1 by omega) with rfl | rfl <;> simp⟩⟩
theorem and15 (x : UInt8) : bits .and .u8 (x.toNat : Int) 15 = ((x.toNat % 16 : Nat) : Int) := by
  have h := x.toNat_lt
  generalize x.toNat = n at h
  have e : ∀ m : Fin 256, bits .and .u8 ((m.val : Nat) : Int) 15 = ((m.val % 16 : Nat) : Int) := by decide +kernel
  exact e ⟨n, by omega⟩
theorem infoB : Info .u8 5 1 := by unfold Info; kernel_rfl
/-- an empty row of bytes with some room -/
theorem room_run (c : Nat) (hc : c ≤ 140737488351232) (W : World) : ∃ cur : Array Value, cur.size = c ∧
    (Instr.makeSlice 39 (.int .i64 0) (.int .i64 (c : Int))).run Tryd.prog W = .ok (.slice (some ⟨W.heap.size, 0, none⟩) 0 c) (W.alloc (.cells cur 5)) := by
  obtain ⟨i0, hi, hx⟩ := Option.map_eq_some_iff.1 (show (Tryd.prog.info? 5).map (fun i => (i.zero, i.size, i.bytes)) = some (some (.int .u8 0), 1, 1) by kernel_rfl)
  simp only [Prod.mk.injEq] at hx
  obtain ⟨hz0, hz1, hz2⟩ := hx
  have := run_make (P := Tryd.prog) W 39 5 i0 (.int .u8 0) Tryd.underlying39 hi hz0 .i64 .i64 0 (c : Int) (by omega) (by omega) (by rw [hz2]; omega) (by omega)
  refine ⟨_, ?_, by simpa using this⟩
  rw [hz1, Nat.mul_one]
  simp [madeCells]

theorem hex_any (s : ByteArray) (w : World) (hs : s.size ≤ 10000) :
    Calls Tryd.prog 10 #[.string s] w fun e w' => e = .returned (.string (hexS s)) ∧ Below w.heap.size w w' := by
  have hd := toList_nil s
  by_cases h0 : s.size = 0
  · rw [decide_eq_true h0] at hd
    unfold hexS
    rw [if_pos h0]
    clear h0
    go_enter Tryd.func10, Tryd.ntmps10
    go_wp2_with fail
    go_ret
    exact ⟨rfl, Below.refl _ _⟩
  · rw [decide_eq_false h0] at hd
    have H0 := Lib.hid h0
    unfold hexS
    rw [if_neg h0]
    clear h0
    go_enter Tryd.func10, Tryd.ntmps10
    obtain ⟨cur, hcur, hrun⟩ := room_run (2 * s.size) (by omega) w
    rw [show ((2 * s.size : Nat) : Int) = 2 * (s.size : Int) by omega] at hrun
    have hown : OwnI .u8 5 (w.alloc (.cells cur 5)) w.heap.size (.slice (some ⟨w.heap.size, 0, none⟩) 0 (2 * s.size)) [] :=
      World.ownsRow_made w cur (2 * s.size) (Nat.le_refl _) (by unfold maxLen; omega) (by omega)
    have hb0 : Below w.heap.size w (w.alloc (.cells cur 5)) := (Below.refl _ _).alloc (Nat.le_refl _) _
    generalize w.alloc (.cells cur 5) = w0 at *
    clear hcur
    go_wp2_with fail
    go_loopw [3, 13] (fun v i wr => ∃ (k : Nat), k ≤ s.size ∧ i = .int .i64 k ∧ OwnI .u8 5 wr w.heap.size v (hexI (s.data.toList.take k)) ∧ Below w.heap.size w wr) (fun _ i _ => s.size - (intOf i).toNat)
    case atStart => exact ⟨0, by omega, rfl, hown, hb0⟩
    case round =>
      obtain ⟨k, hk, rfl, hownr, hbr⟩ := hrel
      have hsr := hbr.size
      obtain ⟨a3, n3, c3, rfl, _⟩ := hownr.form
      by_cases hlt : k < s.size
      · obtain ⟨x, hx⟩ : ∃ x, s[k] = x := ⟨_, rfl⟩
        have hxl : (x.toNat : Int) < 256 := by have := x.toNat_lt; omega
        have hlen : (hexI (s.data.toList.take k)).length + 2 ≤ 1000000 := by rw [hexI_length, List.length_take]; omega
        have HLEN := Lib.hid hlen
        obtain ⟨p, hp, hp16⟩ : ∃ p : Nat, (x.toNat : Int) / 16 = (p : Int) ∧ p = x.toNat / 16 := ⟨x.toNat / 16, by omega, rfl⟩
        obtain ⟨q, hq, hq16⟩ : ∃ q : Nat, bits .and .u8 (x.toNat : Int) 15 = (q : Int) ∧ q = x.toNat % 16 := ⟨x.toNat % 16, and15 x, rfl⟩
        have hpl : (p : Int) < 16 := by have := x.toNat_lt; omega
        have hql : (q : Int) < 16 := by omega
        have HLT := Lib.hid hlt
        have HX := Lib.hid hx
        have HP4 : Hid (p < 16) := Lib.hid (by omega)
        have HQ4 : Hid (q < 16) := Lib.hid (by omega)
        have HP := Lib.hid hp16
        have HQ := Lib.hid hq16
        clear hlen hown hb0 hrun hp16 hq16
        go_wp2_with fail
        go_region_law (refine step_appI infoB (by decide) rfl (.tmp 16) (.tmp 27) 39 rfl Tryd.underlying39 w.heap.size _ _ rfl (OwnI.below hownr (((Below.refl _ _).drew).alloc (by simp) _)) _ 2 2 [_, _] rfl (rdI_lit2_at _ _ _ _ _ _ (by simp)) (fun h => by cases h) HLEN.out (by simp; omega) ?_
                       intro v5 w5 hown5 hgrow5
                       rw [dig_at p HP4.out, dig_at q HQ4.out] at hown5
                       (have hown6 : OwnI .u8 5 w5 w.heap.size v5 (hexI (s.data.toList.take (k + 1))) := by rw [hexI_snoc s k HLT.out, HX.out, ← HP.out, ← HQ.out]; exact hown5)
                       (have hb6 : Below w.heap.size w w5 := own_grown (((hbr.alloc hsr _).drew)) (by simp; omega) hgrow5 (OwnI.below hownr (((Below.refl _ _).alloc (Nat.le_refl _) _).drew)))
                       clear hown5 hgrow5)
        all_goals go_wp2_with fail
        all_goals go_roundw
        all_goals first
          | exact ⟨k + 1, HLT.out, by go_num, hown6, hb6⟩
          | (simp [intOf]; have := HLT.out; omega)
      · obtain rfl : k = s.size := by omega
        obtain ⟨a4, n4, c4, e4, _, hr4⟩ := hownr.form
        cases e4
        rw [List.take_of_length_le (show s.data.toList.length ≤ s.size from Nat.le_refl _)] at hr4
        have hn4 := hr4.1
        have hpos : 0 < (hexI s.data.toList).length := by rw [hexI_length]; show 0 < 2 * s.size; have := H0.out; omega
        obtain ⟨b4, o4, rfl, _, hc4⟩ := hr4.2 (by omega)
        have hconv := run_convert_bytes_arg (P := Tryd.prog) wr 39 5 Tryd.underlying39 Tryd.underlying5 b4 o4 n3 c3 (hexI s.data.toList) hn4.symm hc4 9 Tryd.underlying9
        rw [hex_str] at hconv
        clear hownr hr4 hc4 hn4 hpos hown hb0 hrun
        go_wp2_with fail
        go_ret
        exact ⟨rfl, hbr⟩
end Go.Proofs.YtcepiapidcofiaaDoor.Ev
