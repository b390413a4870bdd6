/-
  Units in frames: the calls of the wire.
-/
import Derived.Test.YtaappdaolenkiaaDoorLaw05
import Derived.Test.YtaappdaolenkiaaDoorPduLaw2
namespace Go.Proofs.YtaappdaolenkiaaDoor.Wire
open Go.ChangeShapes Go.WideShapes Go.RowKit CrcMath CrcCalls FrameMath 
open FrameCalls (frameB)

theorem foldl_zip : ∀ (l : List Value) (k : Nat) (z : Array Value) (i : Nat), k + l.length ≤ z.size →
    ((l.zipIdx k).foldl (fun (cs : Array Value) (x : Value × Nat) => cs.setIfInBounds x.snd x.fst) z)[i]? = if k ≤ i ∧ i < k + l.length then l[i - k]? else z[i]?
  | [], k, z, i, _ => by simp; omega
  | a :: l, k, z, i, h => by
    rw [List.zipIdx_cons, List.foldl_cons, foldl_zip l (k + 1) _ i (by simp at h ⊢; omega)]
    simp only [List.length_cons] at h ⊢
    by_cases h1 : k + 1 ≤ i ∧ i < k + 1 + l.length
    · rw [if_pos h1, if_pos (by omega), show i - k = (i - (k + 1)) + 1 from by omega, List.getElem?_cons_succ]
    · rw [if_neg h1]
      by_cases h2 : i = k
      · subst h2
        rw [if_pos (by omega), Nat.sub_self, List.getElem?_cons_zero, Array.getElem?_setIfInBounds_self_of_lt (by omega)]
      · rw [if_neg (by omega), Array.getElem?_setIfInBounds_ne (by omega)]
theorem fold_set (t z : Array Value) (h : z.size = t.size) (n : Nat) (hn : n = t.size) : Array.foldl (fun (cs : Array Value) (x : Value × Nat) => cs.setIfInBounds x.snd x.fst) z t.zipIdx 0 n = t := by
  subst hn
  rw [show t.size = t.zipIdx.size from by simp, ← Array.foldl_toList, Array.toList_zipIdx]
  apply Array.ext_getElem?
  intro i
  rw [foldl_zip t.toList 0 z i (by simp [h])]
  split
  · simp
  · rename_i hc
    have : t.size ≤ i := by simp at hc; omega
    rw [Array.getElem?_eq_none (by omega), Array.getElem?_eq_none (by omega)]
theorem zero_size : (Tryd.zeroCells55).size = 256 := by kernel_rfl
theorem wire_cells (n : Nat) (hn : n = 256) : Array.foldl (fun (cs : Array Value) (x : Value × Nat) => cs.setIfInBounds x.snd x.fst) Tryd.zeroCells55 table.zipIdx 0 n = table := fold_set _ _ (by rw [zero_size, table_size]) _ (by rw [hn, table_size])
theorem tab_here (w : World) (t : TypeId) : Tab (w.alloc (.cells table t)) w.heap.size := fun j hj => by
  rw [World.cell?_alloc_at _ _ _ _ rfl]; exact table_at j hj

set_option maxRecDepth 100000 in
theorem new_any (w : World) :
    Calls Tryd.prog 4 #[] w fun e w' => ∃ B, e = .returned (.pointer (some ⟨B, 0, none⟩)) ∧ Tab w' B ∧ Below w.heap.size w w' := by
  have hts := table_size
  go_enter Tryd.func4, Tryd.ntmps4
  go_wp2_with fail
  refine (make_any _).mono ?_; rintro e w1 ⟨rfl, hb1⟩
  go_wp2_with fail
  rw [wire_cells 256 rfl]
  go_ret
  exact ⟨_, rfl, tab_here w1 _, hb1.alloc hb1.size _⟩

theorem bytes_small (u : Pdu.U) (h : Pdu.checkU u = 0) : (Pdu.bytesU u).size ≤ 2000 := by
  obtain ⟨k, hk, h1, h2, s1, s2, n1, p1, m1, l1, d1, b1⟩ := Pdu.check_ok u h
  have hl := Pdu.bytes_len u h
  have : ((Pdu.bytesU u).size : Int) ≤ 2000 := by
    rw [hl]; split <;> split <;> split <;> omega
  omega
def packW (u : Pdu.U) : ByteArray := if Pdu.checkU u = 0 then frameB 0 (Pdu.bytesU u) else ⟨#[]⟩
def sizeW (u : Pdu.U) : Int := if Pdu.checkU u = 0 then 48 * cellsI (Pdu.bytesU u).size else 0
theorem size_any (k sq n ps mr : Int) (a : Option Addr) (m cap : Nat) (L : List Int) (self : Bool) (data : ByteArray) (w : World) (hF : Pdu.Forms w) (hv : Own.RdI .u32 w a m L) (hl : m ≤ 100000) (hb : ∀ z ∈ L, 0 ≤ z ∧ z ≤ 4294967295) (hn0 : 0 ≤ n) :
    Calls Tryd.prog 16 #[.agg (Pdu.aggU k sq n ps mr (.slice a m cap) self data)] w fun e w' => e = .returned (.int .i64 (sizeW ⟨k, sq, n, ps, mr, L, self, data⟩)) ∧ Below w.heap.size w w' := by
  have H0 : Hid (Below w.heap.size w (w.alloc (.cells (Pdu.aggU k sq n ps mr (.slice a m cap) self data) 32))) := Lib.hid ((Below.refl _ _).alloc (Nat.le_refl _) _)
  have HU : Hid ((w.alloc (.cells (Pdu.aggU k sq n ps mr (.slice a m cap) self data) 32)).heap[w.heap.size]? = some (.cells (Pdu.aggU k sq n ps mr (.slice a m cap) self data) 32 (0, 0))) := Lib.hid (heap_alloc_new w _)
  have HCK := Lib.hid (fun (w' : World) (h : Below w.heap.size w w') => Pdu.checkV k sq n ps mr a m cap L self data w' (hF.below h (Nat.le_refl _)) (hv.below h) hl hb)
  have HBY := Lib.hid (fun (w' : World) (h : Below w.heap.size w w') => Pdu.bytesV k sq n ps mr a m cap L self data w' (hF.below h (Nat.le_refl _)) (hv.below h) hl hb hn0)
  obtain ⟨C, hC⟩ : ∃ C, Pdu.checkU ⟨k, sq, n, ps, mr, L, self, data⟩ = C := ⟨_, rfl⟩
  have HC := Lib.hid hC
  have HSM : Hid (C = 0 → (Pdu.bytesU ⟨k, sq, n, ps, mr, L, self, data⟩).size ≤ 2000) := Lib.hid (fun h => bytes_small _ (hC.trans h))
  obtain ⟨S, hS⟩ : ∃ S, Pdu.bytesU ⟨k, sq, n, ps, mr, L, self, data⟩ = S := ⟨_, rfl⟩
  have HS := Lib.hid hS
  have HSZ : Hid (sizeW ⟨k, sq, n, ps, mr, L, self, data⟩ = if C = 0 then 48 * cellsI S.size else 0) := Lib.hid (by unfold sizeW; rw [hC, hS])
  rw [hS] at HSM
  clear hC hS hF hv hl hb hn0
  by_cases hc : C = 0
  · subst hc
    have hss := HSM.out rfl
    obtain ⟨c, hcc⟩ : ∃ c : Nat, cellsN S.size = c := ⟨_, rfl⟩
    have HCC : Hid (cellsI (S.size : Int) = (c : Int)) := Lib.hid (by rw [cellsI_nat, hcc])
    have hc1 : (c : Int) ≤ 2000 := by have := cellsN_room S.size; omega
    have HV : Hid (sizeW ⟨k, sq, n, ps, mr, L, self, data⟩ = 48 * (c : Int)) := Lib.hid (by rw [HSZ.out, if_pos rfl, HCC.out])
    clear hcc HSM HSZ
    have e := HU.out
    have q0 := Go.Joins.cell_of_block e 0
    have q1 := Go.Joins.cell_of_block e 1
    have q2 := Go.Joins.cell_of_block e 2
    have q3 := Go.Joins.cell_of_block e 3
    have q4 := Go.Joins.cell_of_block e 4
    have q5 := Go.Joins.cell_of_block e 5
    have q6 := Go.Joins.cell_of_block e 6
    have q7 := Go.Joins.cell_of_block e 7
    clear e q0 q1 q2 q3 q4 q5 q6 q7
    go_enter Tryd.func16, Tryd.ntmps16
    go_wp2_with fail
    refine (HCK.out _ H0.out).mono ?_; rintro e w1 ⟨rfl, h1⟩
    rw [HC.out]
    have H1 := Lib.hid (H0.out.trans (h1.mono H0.out.size))
    have e := (h1.block w.heap.size (by simp)).trans HU.out
    have q0 := Go.Joins.cell_of_block e 0
    have q1 := Go.Joins.cell_of_block e 1
    have q2 := Go.Joins.cell_of_block e 2
    have q3 := Go.Joins.cell_of_block e 3
    have q4 := Go.Joins.cell_of_block e 4
    have q5 := Go.Joins.cell_of_block e 5
    have q6 := Go.Joins.cell_of_block e 6
    have q7 := Go.Joins.cell_of_block e 7
    clear e h1 H0 HU
    go_wp2_with fail
    refine (HBY.out _ H1.out).mono ?_; rintro e w2 ⟨rfl, h2⟩
    rw [HS.out]
    have H2 := Lib.hid (H1.out.trans (h2.mono H1.out.size))
    clear h2 q0 q1 q2 q3 q4 q5 q6 q7
    go_wp2_with fail
    refine (FrameCalls.cells_any _ _ (by omega) (by omega)).mono ?_; rintro e w' ⟨rfl, rfl⟩
    rw [HCC.out]
    go_wp2_with fail
    go_ret
    exact ⟨CrcCalls.ret_int HV.out.symm, H2.out⟩
  · have hcb : (C != 0) = true := by simp [hc]
    have HV : Hid (sizeW ⟨k, sq, n, ps, mr, L, self, data⟩ = 0) := Lib.hid (by rw [HSZ.out, if_neg hc])
    go_enter Tryd.func16, Tryd.ntmps16
    go_wp2_with fail
    refine (HCK.out _ H0.out).mono ?_; rintro e w1 ⟨rfl, h1⟩
    rw [HC.out]
    go_wp2_with fail
    go_ret
    exact ⟨CrcCalls.ret_int HV.out.symm, H0.out.trans (h1.mono H0.out.size)⟩

theorem sound_any (B : Nat) (s : ByteArray) (w : World) (hT : Tab w B) (hs : s.size ≤ 140737488351232) :
    Calls Tryd.prog 15 #[.pointer (some ⟨B, 0, none⟩), .string s] w fun e w' => e = .returned (.bool (decide (s.size % 48 = 0) && fits s.data.toList)) ∧ Below w.heap.size w w' := by
  have HT := Lib.hid hT
  have hlt := hT.lt
  clear hT
  by_cases h : s.size % 48 = 0
  · have hm : ((s.size : Int) % 48 == 0) = true := by rw [beq_iff_eq]; omega
    have HB : Hid ((decide (s.size % 48 = 0) && fits s.data.toList) = fits s.data.toList) := Lib.hid (by simp [h])
    clear h
    go_enter Tryd.func15, Tryd.ntmps15
    go_wp2_with (refine (fits_any B s _ HT.out hs).mono ?_; rintro e w1 ⟨rfl, hb1⟩)
    go_ret
    exact ⟨congrArg (fun b => Ending.returned (.bool b)) HB.out.symm, hb1⟩
  · have hm : ((s.size : Int) % 48 == 0) = false := by rw [beq_eq_false_iff_ne]; omega
    have HB : Hid ((decide (s.size % 48 = 0) && fits s.data.toList) = false) := Lib.hid (by simp [h])
    clear h
    go_enter Tryd.func15, Tryd.ntmps15
    go_wp2_with fail
    go_ret
    exact ⟨congrArg (fun b => Ending.returned (.bool b)) HB.out.symm, Below.refl _ _⟩
end Go.Proofs.YtaappdaolenkiaaDoor.Wire
