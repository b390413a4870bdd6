/-
  The calls of frames, one contract each.
-/
import Derived.Test.YtaappdaolenkiaaDoorCrcSeal
import Derived.Test.YtaappdaolenkiaaDoorFrameMath
import Derived.Test.YtaappdaolenkiaaDoorShelfTrim
import Derived.Test.YtaappdaolenkiaaDoorShelfClone
import Derived.IntWalk
import Derived.Lib.BufferWrite
import Derived.Laws.MakeOwn
import Derived.Laws.CopyOwn
import Derived.Laws.OwnMore
import Derived.Deep.RegionLaw
import Derived.Lib.SmallJoins
namespace Go.Proofs.YtaappdaolenkiaaDoor.FrameCalls
open Go.ChangeShapes Go.WideShapes Go.RowKit CrcMath CrcCalls FrameMath

theorem cells_any (n : Int) (w : World) (h1 : -9223372036854775808 ≤ n) (h2 : n ≤ 9223372036854775807) :
    Calls Tryd.prog 26 #[.int .i64 n] w fun e w' => e = .returned (.int .i64 (cellsI n)) ∧ w = w' := by
  go_enter Tryd.func26, Tryd.ntmps26
  go_wp2
  go_ret
  refine ⟨ret_int ?_, rfl⟩
  unfold cellsI
  by_cases h : n ≤ 0
  · rw [if_pos h, show max n 0 = 0 by omega]; decide
  · rw [if_neg h, show max n 0 = n by omega]; omega

def zeroB (s : ByteArray) : Bool := s.data.toList.all (· == 0)
theorem zero_eq (s : ByteArray) : (Go.Lib.trimB s.data.toList 0).isEmpty = zeroB s := by
  rw [Bool.eq_iff_iff, List.isEmpty_iff, zeroB, ← trim_zero]
theorem allZero_any (s : ByteArray) (w : World) (hs : s.size ≤ 140737488351232) :
    Calls Tryd.prog 29 #[.string s] w fun e w' => e = .returned (.bool (zeroB s)) ∧ ∃ n, w' = w.drewN n := by
  go_enter Tryd.func29, Tryd.ntmps29
  go_wp2_with fail
  refine (Any.strings_Trim_one Tryd.lays160 s 0 (by decide) _ (by omega)).mono ?_
  rintro e w' ⟨rfl, hw⟩
  have hw' : ∃ n, w' = w.drewN n := by
    rcases hw with rfl | rfl
    · exact ⟨0, rfl⟩
    · exact ⟨1, rfl⟩
  obtain ⟨n, rfl⟩ := hw'
  clear hw
  go_wp2_with fail
  go_ret
  exact ⟨congrArg (fun x => Ending.returned (.bool x)) (zero_eq s), n, rfl⟩

theorem clone_any (s : ByteArray) (w : World) (hs : s.size ≤ 140737488351232) :
    Calls Tryd.prog 30 #[.string s] w fun e w' => e = .returned (.string s) ∧ Below w.heap.size w w' := by
  go_enter Tryd.func30, Tryd.ntmps30
  go_wp2_with fail
  refine (Any.stringslite_Clone Tryd.laysM316 s _ (by omega)).mono ?_
  rintro e w' ⟨rfl, hb⟩
  go_wp2_with fail
  go_ret
  exact ⟨rfl, hb⟩

theorem size_list (d : ByteArray) : d.data.toList.length = d.size := rfl
open Go.Lib in
theorem made_run (m : Nat) (h : m ≤ 140737488351232) (W : World) :
    (Instr.makeSlice 67 (.int .i64 (m : Int)) (.int .i64 (m : Int))).run Tryd.prog W = .ok (.slice (some ⟨W.heap.size, 0, none⟩) m m) (W.alloc (.cells (byteCells (List.replicate m 0)).toArray 5)) := by
  obtain ⟨i0, hi, hx⟩ := Option.map_eq_some_iff.1 (show (Tryd.prog.info? 5).map (fun i => (i.zero, i.size, i.bytes)) = some (some (.int .u8 0), 1, 1) by kernel_rfl)
  simp only [Prod.mk.injEq] at hx
  obtain ⟨hz0, hz1, hz2⟩ := hx
  have := run_make (P := Tryd.prog) W 67 5 i0 (.int .u8 0) Tryd.underlying67 hi hz0 .i64 .i64 (m : Int) (m : Int) (by omega) (by omega) (by rw [hz2]; omega) (by omega)
  have e : (byteCells (List.replicate m 0)).toArray = madeCells (Value.int .u8 0).cells (((m : Int).toNat) * i0.size) := by
    rw [hz1, Nat.mul_one, Int.toNat_natCast]
    apply Array.ext'
    rw [show (Value.int .u8 0).cells = #[Value.int .u8 0] from rfl, toList_madeCells_one]
    simp [byteCells]
  rw [e]
  simpa using this

theorem heap_alloc_lt {w : World} {k : Nat} {x : Obj} (o : Obj) (h : w.heap[k]? = some x) : (w.alloc o).heap[k]? = some x := by
  have hk : k < w.heap.size := by rcases Array.getElem?_eq_some_iff.1 h with ⟨h, _⟩; exact h
  rw [((Below.refl w.heap.size w).alloc (Nat.le_refl _) o).block k hk]; exact h

open Go.Lib in
theorem splice_body (u m k : Nat) (hu : u < 256) (d : List UInt8) (hd : d.length ≤ 65535) (hm : 48 * cellsN d.length = m + 4) (hk : m = k + 4) :
    splice (byteCells (d ++ List.replicate (m - d.length) 0)) k [.int .u8 (u : Int), .int .u8 0, .int .u8 ((d.length : Int) / 256), .int .u8 ((d.length : Int) % 256)] = byteCells (bodyL (UInt8.ofNat u) d) := by
  have hr := cellsN_room d.length
  have hp : padN d.length = k - d.length := by unfold padN; omega
  have e4 : [Value.int .u8 (u : Int), .int .u8 0, .int .u8 ((d.length : Int) / 256), .int .u8 ((d.length : Int) % 256)] = byteCells (tail4 (UInt8.ofNat u) d.length) := by
    simp only [byteCells, tail4, List.map_cons, List.map_nil, UInt8.toNat_ofNat']
    have e1 : ((u % 2 ^ 8 : Nat) : Int) = (u : Int) := by omega
    have e2 : ((d.length / 256 % 2 ^ 8 : Nat) : Int) = (d.length : Int) / 256 := by omega
    have e3 : ((d.length % 2 ^ 8 : Nat) : Int) = (d.length : Int) % 256 := by omega
    rw [e1, e2, e3]
    rfl
  rw [e4]
  unfold splice
  have hlen : (byteCells (tail4 (UInt8.ofNat u) d.length)).length = 4 := by simp [byteCells, tail4]
  rw [hlen]
  unfold byteCells
  rw [← List.map_take, ← List.map_drop, ← List.map_append, ← List.map_append]
  congr 1
  rw [List.take_append, List.take_of_length_le (by omega), List.take_replicate, List.drop_of_length_le (by simp; omega), List.append_nil, bodyL, hp, Nat.min_eq_left (by omega)]

open Go.Lib in
set_option maxRecDepth 100000 in
theorem bytes_any (B u : Nat) (hu : u < 256) (d : ByteArray) (w : World) (hT : Tab w B) (hd : d.size ≤ 65535) :
    Calls Tryd.prog 11 #[.agg #[.int .u8 (u : Int), .string d], .pointer (some ⟨B, 0, none⟩)] w fun e w' => e = .returned (.tuple #[.string ⟨(frameL (UInt8.ofNat u) d.data.toList).toArray⟩, .int .i64 0]) ∧ Below w.heap.size w w' := by
  have HT := Lib.hid hT
  clear hT
  have hr := cellsN_room d.size
  obtain ⟨c, hc⟩ : ∃ c, cellsN d.size = c := ⟨_, rfl⟩
  have hcI : cellsI (d.size : Int) = (c : Int) := by rw [cellsI_nat, hc]
  rw [hc] at hr
  obtain ⟨m, hm0⟩ : ∃ m, 48 * c = m + 4 := ⟨48 * c - 4, by omega⟩
  have hm : (c : Int) * 48 - 4 = (m : Int) := by omega
  have hc1 : (c : Int) ≤ 2000 := by omega
  have hmk := made_run m (by omega)
  have hcp := run_copy_row_string (P := Tryd.prog) ((w.alloc (.cells #[.int .u8 (u : Int), .string d] 44)).alloc (.cells (byteCells (List.replicate m 0)).toArray 5)) 67 9 3 5 (w.heap.size + 1) 0 m m d (byteCells (List.replicate m 0)).toArray 5 Tryd.underlying67 (by kernel_rfl) (heap_alloc2_new w _ _) (by omega) (by simp [byteCells]; omega)
  go_enter Tryd.func11, Tryd.ntmps11
  go_wp2_with fail
  refine (cells_any _ _ (by omega) (by omega)).mono ?_
  rintro e w' ⟨rfl, rfl⟩
  rw [hcI]
  have hrow1 : (List.take 0 (byteCells (List.replicate m 0)) ++ byteCells d.data.toList ++ List.drop (0 + d.size) (byteCells (List.replicate m 0))) = byteCells (d.data.toList ++ List.replicate (m - d.size) 0) := by
    simp [byteCells]
  rw [List.toList_toArray, hrow1] at hcp
  clear hrow1
  go_wp2_with fail
  have hb1 : Below w.heap.size w (((w.alloc (.cells #[.int .u8 (u : Int), .string d] 44)).alloc (.cells (byteCells (List.replicate m 0)).toArray 5)).setRow (w.heap.size + 1) (byteCells (d.data.toList ++ List.replicate (m - d.size) 0)).toArray) :=
    below_setRow (((Below.refl _ _).alloc (Nat.le_refl _) _).alloc (by simp) _) (by omega) _
  have hbox : (((w.alloc (.cells #[.int .u8 (u : Int), .string d] 44)).alloc (.cells (byteCells (List.replicate m 0)).toArray 5)).setRow (w.heap.size + 1) (byteCells (d.data.toList ++ List.replicate (m - d.size) 0)).toArray).cell? ⟨w.heap.size, 0, none⟩ = some (.int .u8 (u : Int)) := by
    refine Go.Joins.cell_of_block (cs := #[.int .u8 (u : Int), .string d]) (t := 44) (fr := (0, 0)) ?_ 0
    rw [setRow_other _ _ _ _ (by omega)]
    exact heap_alloc2_old w _ _
  have hrow : (((w.alloc (.cells #[.int .u8 (u : Int), .string d] 44)).alloc (.cells (byteCells (List.replicate m 0)).toArray 5)).setRow (w.heap.size + 1) (byteCells (d.data.toList ++ List.replicate (m - d.size) 0)).toArray).heap[w.heap.size + 1]? = some (.cells (byteCells (d.data.toList ++ List.replicate (m - d.size) 0)).toArray 5 (0, 0)) :=
    setRow_heap _ _ _ _ 5 (0, 0) (heap_alloc2_new w _ _)
  generalize (((w.alloc (.cells #[.int .u8 (u : Int), .string d] 44)).alloc (.cells (byteCells (List.replicate m 0)).toArray 5)).setRow (w.heap.size + 1) (byteCells (d.data.toList ++ List.replicate (m - d.size) 0)).toArray) = W1 at *
  clear hcp hmk
  obtain ⟨k, hk0⟩ : ∃ k, m = k + 4 := ⟨m - 4, by omega⟩
  have hk : (m : Int) + 4 - 8 = (k : Int) := by omega
  have hk1 : (k : Int) ≤ (m : Int) := by omega
  have hk2 : ¬ m = k := by omega
  have hw1 : IntKind.i64.wrap ((m : Int) + 4) = (m : Int) + 4 := by rw [IntKind.wrap_i64]; omega
  have hw2 : IntKind.i64.wrap (k : Int) = (k : Int) := by rw [IntKind.wrap_i64]; omega
  have hk3 : k ≤ m := by omega
  have hw3 : IntKind.u8.wrap ((d.size : Int) / 256) = (d.size : Int) / 256 := by rw [IntKind.wrap_u8]; omega
  have hw4 : IntKind.u8.wrap (d.size : Int) = (d.size : Int) % 256 := by rw [IntKind.wrap_u8]
  have hw5 : (d.size : Int) >>> 8 = (d.size : Int) / 256 := by rw [Int.shiftRight_eq_div_pow]; rfl
  have HK := Lib.hid hk0
  clear hk0
  have hrowA : ∀ o, (W1.alloc o).heap[w.heap.size + 1]? = some (.cells (byteCells (d.data.toList ++ List.replicate (m - d.size) 0)).toArray 5 (0, 0)) := fun o => heap_alloc_lt o hrow
  have hcell : ∀ (cs : Array Value), ∀ j v, cs.toList[j]? = some v → (W1.alloc (.cells cs 5)).drew.cell? ((⟨W1.heap.size, 0, none⟩ : Addr).add j) = some v := fun cs j v h => by
    show (W1.alloc _).cell? _ = _
    rw [add_plain, Nat.zero_add, World.cell?_alloc_at _ _ _ _ rfl]
    simpa using h
  have hbA : ∀ o, Below w.heap.size w (W1.alloc o).drew := fun o => (hb1.alloc hb1.size _).drew
  have hn4 := Lib.hid (show 4 = Nat.min 4 (m - k) from (Nat.min_eq_left (by have := HK.out; omega)).symm)
  have hfit := Lib.hid (show k + 4 ≤ (byteCells (d.data.toList ++ List.replicate (m - d.size) 0)).length by
    have := HK.out
    have := size_list d
    simp only [byteCells, List.length_map, List.length_append, List.length_replicate]
    omega)
  go_region_law (refine step_copy_splice rfl (.tmp 27) (.tmp 35) 67 67 rfl 5 Tryd.underlying67 (by kernel_rfl) (some ⟨w.heap.size + 1, k, none⟩) (some ⟨W1.heap.size, 0, none⟩) (m - k) (m - k) 4 4 rfl rfl (w.heap.size + 1) k _ 5 (hrowA _) [.int .u8 (u : Int), .int .u8 0, .int .u8 ((d.size : Int) / 256), .int .u8 ((d.size : Int) % 256)] hn4.out (fun _ => ⟨rfl, _, rfl, hcell _⟩) hfit.out (by simp [Value.oneCell']) w.heap.size w (hbA _) (by omega) ?_; intro w4 hg4 hb4)
  have hg := hg4.out
  rw [← size_list d] at hg
  rw [splice_body u m k hu d.data.toList (by rw [size_list]; exact hd) (by rw [size_list, hc]; exact hm0) HK.out] at hg
  clear hg4
  have hcb := run_convert_bytes_back (P := Tryd.prog) w4 67 9 5 ⟨w.heap.size + 1, 0, none⟩ m (bodyL (UInt8.ofNat u) d.data.toList) Tryd.underlying67 Tryd.underlying5 Tryd.underlying9 (fun j hj => by
    rw [add_plain, Nat.zero_add, Go.Joins.cell_of_block hg]; simp [byteCells, hj])
  clear hk hw1 hw2 hw3 hw4 hw5 hm hcI hk1 hk2 hk3 hn4 hfit
  have hbl : (bodyL (UInt8.ofNat u) d.data.toList).length = m := by
    have := bodyL_length (UInt8.ofNat u) d.data.toList
    rw [size_list, hc] at this; omega
  rw [hbl] at hcb
  have hT4 := Lib.hid ((HT.out).below hb4)
  have hs4 := hb4.size
  clear hg hrowA hcell hbA hrow hbox
  obtain ⟨X, hX⟩ : ∃ X, (⟨(bodyL (UInt8.ofNat u) d.data.toList).toArray⟩ : ByteArray) = X := ⟨_, rfl⟩
  rw [hX] at hcb
  have hXs : X.size = m := by rw [← hX]; exact hbl
  have HX := Lib.hid hX
  have HXS := Lib.hid hXs
  clear hX hbl hXs
  go_wp2_with fail
  refine (seal_any B X _ (by exact hT4.out) (by rw [HXS.out]; omega)).mono ?_
  rintro e w5 ⟨rfl, hb5⟩
  go_wp2_with fail
  go_ret2
  refine ⟨?_, hb4.trans (hb5.mono hs4)⟩
  rw [← HX.out]
  rfl

theorem bytes_big (B u : Nat) (d : ByteArray) (w : World) (h1 : 65535 < d.size) (h2 : d.size ≤ 140737488351232) :
    Calls Tryd.prog 11 #[.agg #[.int .u8 (u : Int), .string d], .pointer (some ⟨B, 0, none⟩)] w fun e w' => e = .returned (.tuple #[.string ⟨#[]⟩, .int .i64 6]) ∧ Below w.heap.size w w' := by
  go_enter Tryd.func11, Tryd.ntmps11
  go_wp2_with fail
  go_ret2
  exact ⟨rfl, (Below.refl _ _).alloc (Nat.le_refl _) _⟩
end Go.Proofs.YtaappdaolenkiaaDoor.FrameCalls
