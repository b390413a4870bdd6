/-
  Wire1, Wire2, Wire3, Wire4, Wire5 in one text.
-/
import Derived.Test.YthigcaakkjfghaaDoorLaw05
import Derived.Test.YthigcaakkjfghaaDoorPduLaw2
import Derived.Test.YthigcaakkjfghaaDoorPduRef5
import Derived.Test.YthigcaakkjfghaaDoorPduPR1
import Derived.Test.YthigcaakkjfghaaDoorFrameTurn
import Derived.Test.YthigcaakkjfghaaDoorPduPR67
namespace Go.Proofs.YthigcaakkjfghaaDoor.Wire
open Go.ChangeShapes Go.WideShapes Go.RowKit CrcMath CrcCalls FrameMath 
open FrameCalls (frameB)

theorem foldl_zip : ∀ (l : List Value) (k : Nat) (z : Array Value) (i : Nat), k + l.length ≤ z.size →
    ((l.zipIdx k).foldl (fun (cs : Array Value) (x : Value × Nat) => cs.setIfInBounds x.snd x.fst) z)[i]? = if k ≤ i ∧ i < k + l.length then l[i - k]? else z[i]?
  | [], k, z, i, _ => by simp; omega
  | a :: l, k, z, i, h => by
    rw [List.zipIdx_cons, List.foldl_cons, foldl_zip l (k + 1) _ i (by simp at h ⊢; omega)]
    simp only [List.length_cons] at h ⊢
    by_cases h1 : k + 1 ≤ i ∧ i < k + 1 + l.length
    · rw [if_pos h1, if_pos (by omega), show i - k = (i - (k + 1)) + 1 from by omega, List.getElem?_cons_succ]
    · rw [if_neg h1]
      by_cases h2 : i = k
      · subst h2
        rw [if_pos (by omega), Nat.sub_self, List.getElem?_cons_zero, Array.getElem?_setIfInBounds_self_of_lt (by omega)]
      · rw [if_neg (by omega), Array.getElem?_setIfInBounds_ne (by omega)]
theorem fold_set (t z : Array Value) (h : z.size = t.size) (n : Nat) (hn : n = t.size) : Array.foldl (fun (cs : Array Value) (x : Value × Nat) => cs.setIfInBounds x.snd x.fst) z t.zipIdx 0 n = t := by
  subst hn
  rw [show t.size = t.zipIdx.size from by simp, ← Array.foldl_toList, Array.toList_zipIdx]
  apply Array.ext_getElem?
  intro i
  rw [foldl_zip t.toList 0 z i (by simp [h])]
  split
  · simp
  · rename_i hc
    have : t.size ≤ i := by simp at hc; omega
    rw [Array.getElem?_eq_none (by omega), Array.getElem?_eq_none (by omega)]
theorem zero_size : (Tryd.zeroCells62).size = 256 := by kernel_rfl
theorem wire_cells (n : Nat) (hn : n = 256) : Array.foldl (fun (cs : Array Value) (x : Value × Nat) => cs.setIfInBounds x.snd x.fst) Tryd.zeroCells62 table.zipIdx 0 n = table := fold_set _ _ (by rw [zero_size, table_size]) _ (by rw [hn, table_size])
theorem tab_here (w : World) (t : TypeId) : Tab (w.alloc (.cells table t)) w.heap.size := fun j hj => by
  rw [World.cell?_alloc_at _ _ _ _ rfl]; exact table_at j hj

set_option maxRecDepth 100000 in
theorem new_any (w : World) :
    Calls Tryd.prog 10 #[] w fun e w' => ∃ B, e = .returned (.pointer (some ⟨B, 0, none⟩)) ∧ Tab w' B ∧ Below w.heap.size w w' := by
  have hts := table_size
  go_enter Tryd.func10, Tryd.ntmps10
  go_wp2_with fail
  refine (make_any _).mono ?_; rintro e w1 ⟨rfl, hb1⟩
  go_wp2_with fail
  rw [wire_cells 256 rfl]
  go_ret
  exact ⟨_, rfl, tab_here w1 _, hb1.alloc hb1.size _⟩

theorem bytes_small (u : Pdu.U) (h : Pdu.checkU u = 0) : (Pdu.bytesU u).size ≤ 2000 := by
  obtain ⟨k, hk, h1, h2, s1, s2, n1, p1, m1, l1, d1, b1⟩ := Pdu.check_ok u h
  have hl := Pdu.bytes_len u h
  have : ((Pdu.bytesU u).size : Int) ≤ 2000 := by
    rw [hl]; split <;> split <;> split <;> omega
  omega
def packW (u : Pdu.U) : ByteArray := if Pdu.checkU u = 0 then frameB 0 (Pdu.bytesU u) else ⟨#[]⟩
def sizeW (u : Pdu.U) : Int := if Pdu.checkU u = 0 then 48 * cellsI (Pdu.bytesU u).size else 0
theorem size_any (k sq n ps mr : Int) (a : Option Addr) (m cap : Nat) (L : List Int) (self : Bool) (data : ByteArray) (w : World) (hF : Pdu.Forms w) (hv : Own.RdI .u32 w a m L) (hl : m ≤ 100000) (hb : ∀ z ∈ L, 0 ≤ z ∧ z ≤ 4294967295) (hn0 : 0 ≤ n) :
    Calls Tryd.prog 15 #[.agg (Pdu.aggU k sq n ps mr (.slice a m cap) self data)] w fun e w' => e = .returned (.int .i64 (sizeW ⟨k, sq, n, ps, mr, L, self, data⟩)) ∧ Below w.heap.size w w' := by
  have H0 : Hid (Below w.heap.size w (w.alloc (.cells (Pdu.aggU k sq n ps mr (.slice a m cap) self data) 33))) := Lib.hid ((Below.refl _ _).alloc (Nat.le_refl _) _)
  have HU : Hid ((w.alloc (.cells (Pdu.aggU k sq n ps mr (.slice a m cap) self data) 33)).heap[w.heap.size]? = some (.cells (Pdu.aggU k sq n ps mr (.slice a m cap) self data) 33 (0, 0))) := Lib.hid (heap_alloc_new w _)
  have HCK := Lib.hid (fun (w' : World) (h : Below w.heap.size w w') => Pdu.checkV k sq n ps mr a m cap L self data w' (hF.below h (Nat.le_refl _)) (hv.below h) hl hb)
  have HBY := Lib.hid (fun (w' : World) (h : Below w.heap.size w w') => Pdu.bytesV k sq n ps mr a m cap L self data w' (hF.below h (Nat.le_refl _)) (hv.below h) hl hb hn0)
  obtain ⟨C, hC⟩ : ∃ C, Pdu.checkU ⟨k, sq, n, ps, mr, L, self, data⟩ = C := ⟨_, rfl⟩
  have HC := Lib.hid hC
  have HSM : Hid (C = 0 → (Pdu.bytesU ⟨k, sq, n, ps, mr, L, self, data⟩).size ≤ 2000) := Lib.hid (fun h => bytes_small _ (hC.trans h))
  obtain ⟨S, hS⟩ : ∃ S, Pdu.bytesU ⟨k, sq, n, ps, mr, L, self, data⟩ = S := ⟨_, rfl⟩
  have HS := Lib.hid hS
  have HSZ : Hid (sizeW ⟨k, sq, n, ps, mr, L, self, data⟩ = if C = 0 then 48 * cellsI S.size else 0) := Lib.hid (by unfold sizeW; rw [hC, hS])
  rw [hS] at HSM
  clear hC hS hF hv hl hb hn0
  by_cases hc : C = 0
  · subst hc
    have hss := HSM.out rfl
    obtain ⟨c, hcc⟩ : ∃ c : Nat, cellsN S.size = c := ⟨_, rfl⟩
    have HCC : Hid (cellsI (S.size : Int) = (c : Int)) := Lib.hid (by rw [cellsI_nat, hcc])
    have hc1 : (c : Int) ≤ 2000 := by have := cellsN_room S.size; omega
    have HV : Hid (sizeW ⟨k, sq, n, ps, mr, L, self, data⟩ = 48 * (c : Int)) := Lib.hid (by rw [HSZ.out, if_pos rfl, HCC.out])
    clear hcc HSM HSZ
    have e := HU.out
    have q0 := Go.Joins.cell_of_block e 0
    have q1 := Go.Joins.cell_of_block e 1
    have q2 := Go.Joins.cell_of_block e 2
    have q3 := Go.Joins.cell_of_block e 3
    have q4 := Go.Joins.cell_of_block e 4
    have q5 := Go.Joins.cell_of_block e 5
    have q6 := Go.Joins.cell_of_block e 6
    have q7 := Go.Joins.cell_of_block e 7
    clear e q0 q1 q2 q3 q4 q5 q6 q7
    go_enter Tryd.func15, Tryd.ntmps15
    go_wp2_with fail
    refine (HCK.out _ H0.out).mono ?_; rintro e w1 ⟨rfl, h1⟩
    rw [HC.out]
    have H1 := Lib.hid (H0.out.trans (h1.mono H0.out.size))
    have e := (h1.block w.heap.size (by simp)).trans HU.out
    have q0 := Go.Joins.cell_of_block e 0
    have q1 := Go.Joins.cell_of_block e 1
    have q2 := Go.Joins.cell_of_block e 2
    have q3 := Go.Joins.cell_of_block e 3
    have q4 := Go.Joins.cell_of_block e 4
    have q5 := Go.Joins.cell_of_block e 5
    have q6 := Go.Joins.cell_of_block e 6
    have q7 := Go.Joins.cell_of_block e 7
    clear e h1 H0 HU
    go_wp2_with fail
    refine (HBY.out _ H1.out).mono ?_; rintro e w2 ⟨rfl, h2⟩
    rw [HS.out]
    have H2 := Lib.hid (H1.out.trans (h2.mono H1.out.size))
    clear h2 q0 q1 q2 q3 q4 q5 q6 q7
    go_wp2_with fail
    refine (FrameCalls.cells_any _ _ (by omega) (by omega)).mono ?_; rintro e w' ⟨rfl, rfl⟩
    rw [HCC.out]
    go_wp2_with fail
    go_ret
    exact ⟨CrcCalls.ret_int HV.out.symm, H2.out⟩
  · have hcb : (C != 0) = true := by simp [hc]
    have HV : Hid (sizeW ⟨k, sq, n, ps, mr, L, self, data⟩ = 0) := Lib.hid (by rw [HSZ.out, if_neg hc])
    go_enter Tryd.func15, Tryd.ntmps15
    go_wp2_with fail
    refine (HCK.out _ H0.out).mono ?_; rintro e w1 ⟨rfl, h1⟩
    rw [HC.out]
    go_wp2_with fail
    go_ret
    exact ⟨CrcCalls.ret_int HV.out.symm, H0.out.trans (h1.mono H0.out.size)⟩

theorem sound_any (B : Nat) (s : ByteArray) (w : World) (hT : Tab w B) (hs : s.size ≤ 140737488351232) :
    Calls Tryd.prog 18 #[.pointer (some ⟨B, 0, none⟩), .string s] w fun e w' => e = .returned (.bool (decide (s.size % 48 = 0) && fits s.data.toList)) ∧ Below w.heap.size w w' := by
  have HT := Lib.hid hT
  have hlt := hT.lt
  clear hT
  by_cases h : s.size % 48 = 0
  · have hm : ((s.size : Int) % 48 == 0) = true := by rw [beq_iff_eq]; omega
    have HB : Hid ((decide (s.size % 48 = 0) && fits s.data.toList) = fits s.data.toList) := Lib.hid (by simp [h])
    clear h
    go_enter Tryd.func18, Tryd.ntmps18
    go_wp2_with (refine (fits_any B s _ HT.out hs).mono ?_; rintro e w1 ⟨rfl, hb1⟩)
    go_ret
    exact ⟨congrArg (fun b => Ending.returned (.bool b)) HB.out.symm, hb1⟩
  · have hm : ((s.size : Int) % 48 == 0) = false := by rw [beq_eq_false_iff_ne]; omega
    have HB : Hid ((decide (s.size % 48 = 0) && fits s.data.toList) = false) := Lib.hid (by simp [h])
    clear h
    go_enter Tryd.func18, Tryd.ntmps18
    go_wp2_with fail
    go_ret
    exact ⟨congrArg (fun b => Ending.returned (.bool b)) HB.out.symm, Below.refl _ _⟩
end Go.Proofs.YthigcaakkjfghaaDoor.Wire

namespace Go.Proofs.YthigcaakkjfghaaDoor.Wire
open Go.ChangeShapes Go.WideShapes Go.RowKit CrcMath CrcCalls FrameMath
open FrameCalls (frameB)

set_option maxRecDepth 100000 in
set_option maxHeartbeats 4000000 in
theorem pack_any (B : Nat) (k sq n ps mr : Int) (a : Option Addr) (m cap : Nat) (L : List Int) (self : Bool) (data : ByteArray) (w : World) (hT : Tab w B) (hF : Pdu.Forms w) (hv : Own.RdI .u32 w a m L) (hl : m ≤ 100000) (hb : ∀ z ∈ L, 0 ≤ z ∧ z ≤ 4294967295) (hn0 : 0 ≤ n) :
    Calls Tryd.prog 12 #[.pointer (some ⟨B, 0, none⟩), .agg (Pdu.aggU k sq n ps mr (.slice a m cap) self data)] w fun e w' => e = .returned (.tuple #[.string (packW ⟨k, sq, n, ps, mr, L, self, data⟩), .int .i64 (Pdu.checkU ⟨k, sq, n, ps, mr, L, self, data⟩)]) ∧ Below w.heap.size w w' := by
  have H0 : Hid (Below w.heap.size w (w.alloc (.cells (Pdu.aggU k sq n ps mr (.slice a m cap) self data) 33))) := Lib.hid ((Below.refl _ _).alloc (Nat.le_refl _) _)
  have HU : Hid ((w.alloc (.cells (Pdu.aggU k sq n ps mr (.slice a m cap) self data) 33)).heap[w.heap.size]? = some (.cells (Pdu.aggU k sq n ps mr (.slice a m cap) self data) 33 (0, 0))) := Lib.hid (heap_alloc_new w _)
  have HCK := Lib.hid (fun (w' : World) (h : Below w.heap.size w w') => Pdu.checkV k sq n ps mr a m cap L self data w' (hF.below h (Nat.le_refl _)) (hv.below h) hl hb)
  have HBY := Lib.hid (fun (w' : World) (h : Below w.heap.size w w') => Pdu.bytesV k sq n ps mr a m cap L self data w' (hF.below h (Nat.le_refl _)) (hv.below h) hl hb hn0)
  have HTB := Lib.hid (fun (w' : World) (h : Below w.heap.size w w') => hT.below h)
  have hBlt : B < w.heap.size := hT.lt
  obtain ⟨C, hC⟩ : ∃ C, Pdu.checkU ⟨k, sq, n, ps, mr, L, self, data⟩ = C := ⟨_, rfl⟩
  have HC := Lib.hid hC
  have HSM : Hid (C = 0 → (Pdu.bytesU ⟨k, sq, n, ps, mr, L, self, data⟩).size ≤ 2000) := Lib.hid (fun h => bytes_small _ (hC.trans h))
  obtain ⟨S, hS⟩ : ∃ S, Pdu.bytesU ⟨k, sq, n, ps, mr, L, self, data⟩ = S := ⟨_, rfl⟩
  have HS := Lib.hid hS
  have HSZ : Hid (packW ⟨k, sq, n, ps, mr, L, self, data⟩ = if C = 0 then frameB 0 S else ⟨#[]⟩) := Lib.hid (by unfold packW; rw [hC, hS])
  rw [hS] at HSM
  obtain ⟨PW, hPW⟩ : ∃ PW, packW ⟨k, sq, n, ps, mr, L, self, data⟩ = PW := ⟨_, rfl⟩
  have HPW := Lib.hid hPW
  rw [hPW] at HSZ
  have HCV := Lib.hid hC
  clear hC hS hF hv hl hb hn0 hPW hT
  by_cases hc : C = 0
  · subst hc
    have HF0 : Hid (frameB 0 S = PW) := Lib.hid (by rw [HSZ.out, if_pos rfl])
    have HSS : Hid (S.size ≤ 65535) := Lib.hid (by have := HSM.out rfl; omega)
    have HBF : Hid (∀ w' : World, Below w.heap.size w w' → Calls Tryd.prog 30 #[.agg #[.int .u8 0, .string S], .pointer (some ⟨B, 0, none⟩)] w' fun e w2 => e = .returned (.tuple #[.string PW, .int .i64 0]) ∧ Below w'.heap.size w' w2) := Lib.hid (fun w' h => by
      have := FrameCalls.bytes_frame B 0 (by decide) S w' (HTB.out w' h) HSS.out
      rw [← HF0.out]; exact this)
    clear HSM HSZ
    go_enter Tryd.func12, Tryd.ntmps12
    go_upto_region 4 with (go_at_call 29; refine (HCK.out _ H0.out).mono ?_; rintro e w1 ⟨rfl, h1⟩; rw [HC.out])
    have H1 := Lib.hid (H0.out.trans (h1.mono H0.out.size))
    have HU1 := Lib.hid ((h1.block w.heap.size (by simp)).trans HU.out)
    have HB1 : Hid (∀ w', Below w1.heap.size w1 w' → Below w.heap.size w w') := Lib.hid (fun w' h => H1.out.trans (h.mono H1.out.size))
    clear h1 H0 HU
    have HB1' := HB1
    have HBY' := HBY
    have HBF' := HBF
    generalize hgg : w.heap.size = g at *
    have HG := Lib.hid hgg
    clear hgg HB1' HBY' HBF'
    have HO : Hid (∀ w' : World, Below w1.heap.size w1 w' → w'.cell? ⟨g, 0, none⟩ = some (.int .i64 k) ∧ w'.cell? ⟨g, 1, none⟩ = some (.int .i64 sq) ∧ w'.cell? ⟨g, 2, none⟩ = some (.int .u32 n) ∧ w'.cell? ⟨g, 3, none⟩ = some (.int .u32 ps) ∧ w'.cell? ⟨g, 4, none⟩ = some (.int .u32 mr) ∧ w'.cell? ⟨g, 5, none⟩ = some (.slice a m cap) ∧ w'.cell? ⟨g, 6, none⟩ = some (.bool self) ∧ w'.cell? ⟨g, 7, none⟩ = some (.string data) ∧ Below w1.heap.size w1 w') := Lib.hid (fun w' hb => by
      have e := (hb.block g (Array.getElem?_eq_some_iff.1 HU1.out).1).trans HU1.out
      exact ⟨Go.Joins.cell_of_block e 0, Go.Joins.cell_of_block e 1, Go.Joins.cell_of_block e 2, Go.Joins.cell_of_block e 3, Go.Joins.cell_of_block e 4, Go.Joins.cell_of_block e 5, Go.Joins.cell_of_block e 6, Go.Joins.cell_of_block e 7, hb⟩)
    obtain ⟨k0, k1, k2, k3, k4, k5, k6, k7, _⟩ := HO.out w1 (Below.refl _ _)
    go_region_held3 (fun w' => w'.cell? ⟨g, 0, none⟩ = some (.int .i64 k) ∧ w'.cell? ⟨g, 1, none⟩ = some (.int .i64 sq) ∧ w'.cell? ⟨g, 2, none⟩ = some (.int .u32 n) ∧ w'.cell? ⟨g, 3, none⟩ = some (.int .u32 ps) ∧ w'.cell? ⟨g, 4, none⟩ = some (.int .u32 mr) ∧ w'.cell? ⟨g, 5, none⟩ = some (.slice a m cap) ∧ w'.cell? ⟨g, 6, none⟩ = some (.bool self) ∧ w'.cell? ⟨g, 7, none⟩ = some (.string data) ∧ Below w1.heap.size w1 w')
      (first | (with_reducible assumption) | exact HO.out _ (Below.refl _ _).drew | exact HO.out _ hb2 | exact HO.out _ hb3)
      (first
        | ((have _s := hb2)
           go_at_call 30
           refine (HBF.out _ (HB1.out _ hb2)).mono ?_
           rintro e w3 ⟨rfl, h3⟩
           (have hb3 := hb2.trans (h3.mono hb2.size)))
        | (go_at_call 24
           (have hb0 : Below w1.heap.size w1 w1.drew := (Below.refl _ _).drew)
           refine (HBY.out _ (HB1.out _ hb0)).mono ?_
           rintro e w2 ⟨rfl, h2⟩
           rw [HS.out]
           (have hb2 := hb0.trans (h2.mono hb0.size))))
    all_goals go_wp2_with fail
    all_goals go_ret2
    all_goals exact ⟨by rw [HPW.out, HCV.out]; rfl, by rw [HG.out]; exact HB1.out _ hb3⟩
  · have hcb : (C != 0) = true := by simp [hc]
    have HP0 : Hid (PW = ⟨#[]⟩) := Lib.hid (by rw [HSZ.out, if_neg hc])
    go_enter Tryd.func12, Tryd.ntmps12
    go_wp2_with (go_at_call 29; refine (HCK.out _ H0.out).mono ?_; rintro e w1 ⟨rfl, h1⟩; rw [HC.out])
    go_ret2
    exact ⟨by rw [HPW.out, HCV.out, HP0.out]; rfl, H0.out.trans (h1.mono H0.out.size)⟩

/-! ### opening -/
def dataW (s : ByteArray) : ByteArray := ⟨(parseL s.data.toList).2.1.toArray⟩
def codeW (s : ByteArray) : Int := if (parseL s.data.toList).2.2 ≠ 0 then (parseL s.data.toList).2.2 else if (parseL s.data.toList).1 ≠ 0 then 3 else Pdu.codeP (dataW s)
theorem dataW_size (s : ByteArray) : (dataW s).size ≤ s.size := by
  have : (parseL s.data.toList).2.1.length ≤ s.data.toList.length := by
    unfold parseL
    split
    · simp
    · split
      · simp
      · dsimp only
        split
        · simp
        · split
          · simp
          · rw [List.length_take]; omega
  unfold dataW
  show (List.toArray _).size ≤ s.data.size
  simpa using this
theorem parse_cs (D : ByteArray) (w : World) (hF : Pdu.Forms w) (hm : D.size ≤ 100000) :
    Calls Tryd.prog 39 #[.string D] w fun e w' => Below w.heap.size w w' ∧ ∃ (cs : Array Value) (c : Int), e = .returned (.tuple #[.agg cs, .int .i64 c]) ∧ cs.size = 8 ∧ cs.all (·.oneCell') = true ∧
      ((Pdu.codeP D ≠ 0 ∧ cs = Pdu.zeroC ∧ c = Pdu.codeP D) ∨ (Pdu.codeP D = 0 ∧ c = 0 ∧ ∃ lv, .agg cs = (Pdu.unitP D).val .u32 lv ∧ Own.OwnI .u32 30 w' w.heap.size lv (Pdu.unitP D).list)) :=
  (Pdu.parse_any D w hF hm).mono fun e w' ⟨h1, h⟩ => ⟨h1, by
    rcases h with ⟨h, rfl⟩ | ⟨h, lv, rfl, ho⟩
    · exact ⟨_, _, rfl, rfl, by simp [Value.oneCell'], .inl ⟨h, rfl, rfl⟩⟩
    · obtain ⟨la, lc, rfl, _⟩ := Pdu.owned ho
      exact ⟨_, _, rfl, rfl, by simp [Value.oneCell'], .inr ⟨h, rfl, _, rfl, ho⟩⟩⟩
set_option maxRecDepth 100000 in
set_option maxHeartbeats 4000000 in
theorem open_any (B : Nat) (s : ByteArray) (w : World) (hT : Tab w B) (hF : Pdu.Forms w) (hs : s.size ≤ 100000) :
    Calls Tryd.prog 16 #[.pointer (some ⟨B, 0, none⟩), .string s] w fun e w' => Below w.heap.size w w' ∧ ((codeW s ≠ 0 ∧ e = .returned (Pdu.told (.agg Pdu.zeroC) (codeW s))) ∨ (codeW s = 0 ∧ ∃ lv, e = .returned (Pdu.told ((Pdu.unitP (dataW s)).val .u32 lv) 0) ∧ Own.OwnI .u32 30 w' w.heap.size lv (Pdu.unitP (dataW s)).list)) := by
  have HT := Lib.hid hT
  have HF := Lib.hid hF
  have hlt := hT.lt
  have HPA : Hid (∀ w' : World, Tab w' B → Calls Tryd.prog 38 #[.pointer (some ⟨B, 0, none⟩), .string s] w' fun e w2 => e = .returned (.tuple #[.agg #[.int .u8 ((parseL s.data.toList).1.toNat : Int), .string (dataW s)], .int .i64 (parseL s.data.toList).2.2]) ∧ Below w'.heap.size w' w2) := Lib.hid (fun w' h => FrameCalls.parse_any B s w' h (by omega))
  have HDS : Hid ((dataW s).size ≤ 100000) := Lib.hid (Nat.le_trans (dataW_size s) hs)
  have HCW : Hid (codeW s = if (parseL s.data.toList).2.2 ≠ 0 then (parseL s.data.toList).2.2 else if (parseL s.data.toList).1 ≠ 0 then 3 else Pdu.codeP (dataW s)) := Lib.hid rfl
  obtain ⟨cw, hcw⟩ : ∃ cw, codeW s = cw := ⟨_, rfl⟩
  have HCV := Lib.hid hcw
  rw [hcw] at HCW ⊢
  generalize dataW s = D at *
  generalize (parseL s.data.toList).2.2 = E at *
  generalize (parseL s.data.toList).1 = U at *
  clear hcw hT hF
  have info_f : (Tryd.prog.info? 66).map (·.size) = some 2 := by kernel_rfl
  go_enter Tryd.func16, Tryd.ntmps16
  go_upto_region 1 with (fail)
  have HW0 : Hid (Below w.heap.size w (w.alloc (.cells Pdu.zeroC 33))) := Lib.hid ((Below.refl _ _).alloc (Nat.le_refl _) _)
  have HZ0 : Hid ((w.alloc (.cells Pdu.zeroC 33)).heap[w.heap.size]? = some (.cells Pdu.zeroC 33 (0, 0))) := Lib.hid (heap_alloc_new w _)
  have HT0 := Lib.hid (HT.out.below HW0.out)
  have HF0 := Lib.hid (HF.out.below HW0.out (Nat.le_refl _))
  have HLT : Hid (w.heap.size < (w.alloc (.cells Pdu.zeroC 33)).heap.size) := Lib.hid (by simp)
  clear HT HF hlt
  generalize (w.alloc (.cells Pdu.zeroC 33)) = W0 at *
  generalize hgg : w.heap.size = g at *
  have HG := Lib.hid hgg
  clear hgg
  go_upto_region 2 with (first
    | (go_at_call 38; refine (HPA.out _ HT0.out).mono ?_; rintro e w1 ⟨rfl, h1⟩; have t1 : True := trivial)
    | ((have _s := t1); refine wpList_store_row rfl 66 _ _ rfl w1.heap.size #[.int .u8 (U.toNat : Int), .string D] rfl rfl 66 #[.int .u8 0, .string ⟨#[]⟩] (heap_alloc_new w1 _) info_f rfl (by simp [Value.oneCell']) ?_; rw [World.setRow_alloc_new]))
  have HB2 : Hid (Below g w (w1.alloc (.cells #[.int .u8 (U.toNat : Int), .string D] 66))) := Lib.hid ((HW0.out.trans (h1.mono (Nat.le_of_lt HLT.out))).alloc (Nat.le_trans (Nat.le_of_lt HLT.out) h1.size) _)
  have HZ2 : Hid ((w1.alloc (.cells #[.int .u8 (U.toNat : Int), .string D] 66)).heap[g]? = some (.cells Pdu.zeroC 33 (0, 0))) := Lib.hid ((((Below.refl w1.heap.size w1).alloc (Nat.le_refl _) _).block g (Nat.lt_of_lt_of_le HLT.out h1.size)).trans ((h1.block g HLT.out).trans HZ0.out))
  have HF2 : Hid (Pdu.Forms (w1.alloc (.cells #[.int .u8 (U.toNat : Int), .string D] 66))) := Lib.hid ((HF0.out.below h1 (Nat.le_refl _)).alloc _)
  have hfb := heap_alloc_new w1 (.cells #[.int .u8 (U.toNat : Int), .string D] 66)
  have f0 : (w1.alloc (.cells #[.int .u8 (U.toNat : Int), .string D] 66)).cell? ⟨w1.heap.size, 0, none⟩ = some (.int .u8 (U.toNat : Int)) := Go.Joins.cell_of_block hfb 0
  have f1 : (w1.alloc (.cells #[.int .u8 (U.toNat : Int), .string D] 66)).cell? ⟨w1.heap.size, 1, none⟩ = some (.string D) := Go.Joins.cell_of_block hfb 1
  have HL2 : Hid (g < (w1.alloc (.cells #[.int .u8 (U.toNat : Int), .string D] 66)).heap.size) := Lib.hid (by have := HLT.out; have := h1.size; simp; omega)
  clear h1 HW0 HZ0 HT0 HF0 HLT hfb t1 _s
  generalize w1.alloc (.cells #[.int .u8 (U.toNat : Int), .string D] 66) = W2 at *
  generalize w1.heap.size = gf at *
  by_cases hE : E = 0
  · subst hE
    obtain ⟨u, hu⟩ : ∃ u : Int, (U.toNat : Int) = u := ⟨_, rfl⟩
    have HU0 : Hid (U = 0 ↔ u = 0) := Lib.hid (by
      rw [← hu]
      constructor
      · rintro rfl; rfl
      · intro h; apply UInt8.toNat_inj.1; have : U.toNat = 0 := by omega
        rw [this]; rfl)
    rw [hu] at f0 ⊢
    clear hu
    by_cases hU : u = 0
    · have HCO : Hid (cw = Pdu.codeP D) := Lib.hid (by rw [HCW.out, if_neg (by decide), if_neg (by intro h; exact h (HU0.out.2 hU))])
      have hub : (u != 0) = false := by simp [hU]
      clear hU HCW HU0
      go_wp2_with (first
        | ((have _s := t1); (refine wpList_store_row rfl 33 _ _ rfl g cs rfl rfl 33 _ HZ3.out (by rw [hcs8]; exact Pdu.info_pdu) (by rw [hcs8]; rfl) hcs1 ?_))
        | (go_at_call 39
           refine (parse_cs D _ HF2.out HDS.out).mono ?_
           rintro e W3 ⟨h3, cs, c, rfl, hcs8, hcs1, hgood⟩
           (have HB3 := Lib.hid (HB2.out.trans (h3.mono (Nat.le_of_lt HL2.out))))
           (have HZ3 := Lib.hid ((h3.block g HL2.out).trans HZ2.out))
           (have HGOOD := Lib.hid hgood)
           (have t1 : True := trivial)
           (clear h3 hgood)))
      refine bodyPost_ret (Pdu.results_row_tmp rfl _ _ g 33 _ (0, 0) _ rfl (setRow_heap _ _ _ _ 33 (0, 0) HZ3.out) Tryd.underlying33 rfl (by rw [hcs8]; exact Pdu.info_pdu)) rfl ⟨by rw [HG.out]; exact below_setRow HB3.out (Nat.le_refl _) _, ?_⟩
      rw [HCO.out]
      rcases HGOOD.out with ⟨h, rfl, rfl⟩ | ⟨h, rfl, lv, he, ho⟩
      · exact .inl ⟨h, rfl⟩
      · refine .inr ⟨h, lv, ?_, ?_⟩
        · rw [← he]; rfl
        · rw [HG.out]
          exact (Pdu.own_setRow ho HL2.out).lower (Nat.le_of_lt HL2.out)
    · have HCO : Hid (cw = 3) := Lib.hid (by rw [HCW.out, if_neg (by decide), if_pos (fun h => hU (HU0.out.1 h))])
      have hub : (u != 0) = true := by simp [hU]
      clear hU HCW HU0
      go_wp2_with (refine wpList_store_row rfl 33 _ _ rfl g Pdu.zeroC rfl rfl 33 _ HZ2.out Pdu.info_pdu rfl (by simp [Value.oneCell']) ?_)
      refine bodyPost_ret (Pdu.results_row_tmp rfl _ _ g 33 _ (0, 0) _ rfl (setRow_heap _ _ _ _ 33 (0, 0) HZ2.out) Tryd.underlying33 rfl Pdu.info_pdu) rfl ⟨by rw [HG.out]; exact below_setRow HB2.out (Nat.le_refl _) _, .inl ⟨by rw [HCO.out]; decide, by rw [HCO.out]; rfl⟩⟩
  · have HCO : Hid (cw = E) := Lib.hid (by rw [HCW.out, if_pos hE])
    have heb : (E != 0) = true := by simp [hE]
    have HE := Lib.hid hE
    clear hE HCW
    go_wp2_with (refine wpList_store_row rfl 33 _ _ rfl g Pdu.zeroC rfl rfl 33 _ HZ2.out Pdu.info_pdu rfl (by simp [Value.oneCell']) ?_)
    refine bodyPost_ret (Pdu.results_row_tmp rfl _ _ g 33 _ (0, 0) _ rfl (setRow_heap _ _ _ _ 33 (0, 0) HZ2.out) Tryd.underlying33 rfl Pdu.info_pdu) rfl ⟨by rw [HG.out]; exact below_setRow HB2.out (Nat.le_refl _) _, .inl ⟨by rw [HCO.out]; exact HE.out, by rw [HCO.out]; rfl⟩⟩
end Go.Proofs.YthigcaakkjfghaaDoor.Wire

namespace Go.Proofs.YthigcaakkjfghaaDoor.Wire
open Go.ChangeShapes Go.WideShapes Go.RowKit CrcMath CrcCalls FrameMath
open FrameCalls (frameB)

/-- a unit whose numbers are not below 0 -/
def NonNeg (u : Pdu.U) : Prop := 0 ≤ u.n ∧ 0 ≤ u.ps ∧ 0 ≤ u.mr ∧ ∀ z ∈ u.list, 0 ≤ z
theorem pack_back (u : Pdu.U) (hc : Pdu.checkU u = 0) (hn : NonNeg u) : codeW (packW u) = 0 ∧ Pdu.unitP (dataW (packW u)) = u := by
  obtain ⟨k, hg⟩ := Pdu.good_of u hc hn.1 hn.2.1 hn.2.2.1 hn.2.2.2
  obtain ⟨b1, b2⟩ := Pdu.back u k hg hc
  have hs := bytes_small u hc
  have hp : packW u = frameB 0 (Pdu.bytesU u) := by unfold packW; rw [if_pos hc]
  have hl := FrameCalls.parse_frameB 0 (Pdu.bytesU u) (by omega)
  have hd : dataW (packW u) = Pdu.bytesU u := by unfold dataW; rw [hp, hl]
  refine ⟨?_, by rw [hd]; exact b2⟩
  unfold codeW
  rw [hd, hp, hl, if_neg (by simp), if_neg (by simp), b1]
theorem pack_size (u : Pdu.U) (hc : Pdu.checkU u = 0) : (packW u).size = 48 * cellsN (Pdu.bytesU u).size := by unfold packW; rw [if_pos hc, FrameCalls.frameB_size]
theorem pack_small (u : Pdu.U) (hc : Pdu.checkU u = 0) : (packW u).size ≤ 2100 := by
  rw [pack_size u hc]; have := cellsN_room (Pdu.bytesU u).size; have := bytes_small u hc; omega
theorem pack_sound (u : Pdu.U) (hc : Pdu.checkU u = 0) : (decide ((packW u).size % 48 = 0) && fits (packW u).data.toList) = true := by
  have h1 : (packW u).size % 48 = 0 := by rw [pack_size u hc]; omega
  have h2 : fits (packW u).data.toList = true := by
    unfold packW; rw [if_pos hc, FrameCalls.frame_list]
    exact fits_seal _
  rw [h2, decide_eq_true h1]; rfl
theorem size_pack (u : Pdu.U) : sizeW u = ((packW u).size : Int) := by
  by_cases hc : Pdu.checkU u = 0
  · unfold sizeW; rw [if_pos hc, pack_size u hc, cellsI_nat]; omega
  · unfold sizeW packW; rw [if_neg hc, if_neg hc]; rfl
/-- opening by what it answers, whatever the bytes -/
theorem open_form (s : ByteArray) (hs : s.size ≤ 100000) : ∃ (k sq n ps mr : Int) (L : List Int) (sf : Bool) (d : ByteArray) (m : Nat) (c : Int), m = L.length ∧ c = codeW s ∧ (c ≠ 0 → (⟨k, sq, n, ps, mr, L, sf, d⟩ : Pdu.U) = ⟨0, 0, 0, 0, 0, [], false, ⟨#[]⟩⟩) ∧ (c = 0 → Pdu.unitP (dataW s) = ⟨k, sq, n, ps, mr, L, sf, d⟩) ∧
    (∀ B w, Tab w B → Pdu.Forms w → Calls Tryd.prog 16 #[.pointer (some ⟨B, 0, none⟩), .string s] w fun e w' => ∃ a cap, e = .returned (.tuple #[.agg (Pdu.aggU k sq n ps mr (.slice a m cap) sf d), .int .i64 c]) ∧ Own.RdI .u32 w' a m L ∧ Below w.heap.size w w') := by
  by_cases hc : codeW s = 0
  · have e1 := fun B w hT hF => open_any B s w hT hF hs
    generalize hU : Pdu.unitP (dataW s) = U at *
    obtain ⟨k, sq, n, ps, mr, L, sf, d⟩ := U
    refine ⟨k, sq, n, ps, mr, L, sf, d, L.length, 0, rfl, hc.symm, fun h => absurd rfl h, fun _ => rfl, fun B w hT hF => (e1 B w hT hF).mono ?_⟩
    rintro e w' ⟨hb, ⟨h, _⟩ | ⟨_, lv, rfl, ho⟩⟩
    · exact absurd hc h
    · obtain ⟨a, cap, rfl, hr⟩ := Pdu.owned ho
      exact ⟨a, cap, rfl, hr, hb⟩
  · refine ⟨0, 0, 0, 0, 0, [], false, ⟨#[]⟩, 0, codeW s, rfl, rfl, fun _ => rfl, fun h => absurd h hc, fun B w hT hF => (open_any B s w hT hF hs).mono ?_⟩
    rintro e w' ⟨hb, ⟨_, rfl⟩ | ⟨h, _⟩⟩
    · exact ⟨none, 0, rfl, ⟨rfl, fun h => absurd h (by omega)⟩, hb⟩
    · exact absurd h hc

def ux : Pdu.U := ⟨13, 0, 0, 0, 0, [], false, ⟨#[120]⟩⟩
theorem ux_check : Pdu.checkU ux = 0 := by decide +kernel
theorem ux_neg : NonNeg ux := ⟨by decide, by decide, by decide, by decide⟩
set_option maxRecDepth 100000 in
set_option maxHeartbeats 4000000 in
theorem awake_any (w : World) (hF : Pdu.Forms w) :
    Calls Tryd.prog 8 #[] w fun e w' => e = .returned (.bool true) ∧ Below w.heap.size w w' := by
  have HF := Lib.hid hF
  obtain ⟨S, hS⟩ : ∃ S, packW ux = S := ⟨_, rfl⟩
  have h48 : S.size = 48 := by rw [← hS, pack_size ux ux_check]; decide +kernel
  have hcode := (pack_back ux ux_check ux_neg).1
  have hunit := (pack_back ux ux_check ux_neg).2
  have hsnd := pack_sound ux ux_check
  rw [hS] at hcode hunit hsnd
  obtain ⟨k, sq, n, ps, mr, L, sf, d, m, c, hm, hc, _hz, hu, ho⟩ := open_form S (by omega)
  obtain rfl : c = 0 := hc.trans hcode
  have hu2 := (hu rfl).symm.trans hunit
  have e1 : k = 13 := congrArg Pdu.U.kind hu2
  have e2 : d = ⟨#[120]⟩ := congrArg Pdu.U.data hu2
  subst e1 e2
  have HO := Lib.hid ho
  have HS := Lib.hid hS
  have HSN := Lib.hid hsnd
  have HCK := Lib.hid ux_check
  clear hF hS hcode hunit hsnd hm hc _hz hu ho hu2
  go_enter Tryd.func8, Tryd.ntmps8
  go_wp2_with fail
  refine (new_any _).mono ?_; rintro e W1 ⟨B, rfl, hT, hb1⟩
  have HT := Lib.hid hT
  have HB1 := Lib.hid hb1
  have HF1 := Lib.hid (HF.out.below hb1 (Nat.le_refl _))
  clear hT hb1
  go_wp2_with fail
  refine (pack_any B 13 0 0 0 0 none 0 0 [] false ⟨#[120]⟩ _ HT.out HF1.out ⟨rfl, fun h => absurd h (by omega)⟩ (by omega) (fun z hz => by simp at hz) (by omega)).mono ?_; rintro e W2 ⟨rfl, hb2⟩
  rw [show packW ⟨13, 0, 0, 0, 0, [], false, ⟨#[120]⟩⟩ = S from HS.out, show Pdu.checkU ⟨13, 0, 0, 0, 0, [], false, ⟨#[120]⟩⟩ = 0 from HCK.out]
  have HB2 := Lib.hid (HB1.out.trans (hb2.mono HB1.out.size))
  have HT2 := Lib.hid (HT.out.below hb2)
  have HF2 := Lib.hid (HF1.out.below hb2 (Nat.le_refl _))
  clear hb2
  go_upto_region 6 with (first
    | ((have _s := t1); (refine wpList_store_row rfl 33 _ _ rfl W3.heap.size (Pdu.aggU 13 sq n ps mr (.slice a m cap) sf ⟨#[120]⟩) rfl rfl 33 #[.int .i64 0, .int .i64 0, .int .u32 0, .int .u32 0, .int .u32 0, .slice none 0 0, .bool false, .string ⟨#[]⟩] (heap_alloc_new W3 _) Pdu.info_pdu rfl (by simp [Value.oneCell']) ?_); rw [World.setRow_alloc_new])
    | (go_at_call 16
       refine (HO.out B _ HT2.out HF2.out).mono ?_
       rintro e W3 ⟨a, cap, rfl, hr3, hb3⟩
       have t1 : True := trivial))
  have HT3 := Lib.hid ((HT2.out.below hb3).alloc (.cells (Pdu.aggU 13 sq n ps mr (.slice a m cap) sf ⟨#[120]⟩) 33))
  have HB3 : Hid (Below w.heap.size w (W3.alloc (.cells (Pdu.aggU 13 sq n ps mr (.slice a m cap) sf ⟨#[120]⟩) 33))) := Lib.hid ((HB2.out.trans (hb3.mono HB2.out.size)).alloc (Nat.le_trans HB2.out.size hb3.size) _)
  have e := heap_alloc_new W3 (.cells (Pdu.aggU 13 sq n ps mr (.slice a m cap) sf ⟨#[120]⟩) 33)
  have q0 : (W3.alloc (.cells (Pdu.aggU 13 sq n ps mr (.slice a m cap) sf ⟨#[120]⟩) 33)).cell? ⟨W3.heap.size, 0, none⟩ = some (.int .i64 13) := Go.Joins.cell_of_block e 0
  have q7 : (W3.alloc (.cells (Pdu.aggU 13 sq n ps mr (.slice a m cap) sf ⟨#[120]⟩) 33)).cell? ⟨W3.heap.size, 7, none⟩ = some (.string ⟨#[120]⟩) := Go.Joins.cell_of_block e 7
  clear e hr3 hb3 t1
  generalize W3.alloc (.cells (Pdu.aggU 13 sq n ps mr (.slice a m cap) sf ⟨#[120]⟩) 33) = W4 at *
  generalize W3.heap.size = gp at *
  go_wp2_with (go_at_call 18; refine (sound_any B S _ HT3.out (by omega)).mono ?_; rintro e W5 ⟨rfl, h5⟩; rw [HSN.out])
  go_ret
  exact ⟨rfl, HB3.out.trans (h5.mono HB3.out.size)⟩
end Go.Proofs.YthigcaakkjfghaaDoor.Wire

namespace Go.Proofs.YthigcaakkjfghaaDoor.Wire
open Go.ChangeShapes Go.WideShapes Go.RowKit CrcMath CrcCalls FrameMath
open FrameCalls (frameB)

set_option maxRecDepth 100000 in
set_option maxHeartbeats 4000000 in
theorem rpack_any (k sq n ps mr : Int) (a : Option Addr) (m cap : Nat) (L : List Int) (self : Bool) (data : ByteArray) (w : World) (hL : Own.RdI .i64 w a m L) (hll : m ≤ 1000000) (hn : 0 ≤ n) (hps : 0 ≤ ps) (hmr : 0 ≤ mr) (hpos : ∀ z ∈ L, 0 ≤ z) :
    Calls Tryd.prog 14 #[.agg (Pdu.aggR k sq n ps mr (.slice a m cap) self data)] w fun e w' => e = .returned (.string (packW ⟨k, sq, n, ps, mr, L, self, data⟩)) ∧ Below w.heap.size w w' := by
  have H0 : Hid (Pdu.RAt w (w.alloc (.cells (Pdu.aggR k sq n ps mr (.slice a m cap) self data) 24)) w.heap.size k sq n ps mr a m cap L self data) := Lib.hid (Pdu.RAt.new hL)
  have HCK := Lib.hid (fun (w' : World) (h : Own.RdI .i64 w' a m L) => Pdu.rcheck_any k sq n ps mr a m cap L self data w' h hll hn hps hmr hpos)
  have HBY := Lib.hid (fun (w' : World) (h : Own.RdI .i64 w' a m L) => Pdu.rbytes_any k sq n ps mr a m cap L self data w' h hll hn hps hmr hpos)
  obtain ⟨C, hC⟩ : ∃ C, Pdu.checkU ⟨k, sq, n, ps, mr, L, self, data⟩ = C := ⟨_, rfl⟩
  have HC := Lib.hid hC
  have HSM : Hid (C = 0 → (Pdu.bytesU ⟨k, sq, n, ps, mr, L, self, data⟩).size ≤ 2000) := Lib.hid (fun h => bytes_small _ (hC.trans h))
  obtain ⟨S, hS⟩ : ∃ S, Pdu.bytesU ⟨k, sq, n, ps, mr, L, self, data⟩ = S := ⟨_, rfl⟩
  have HS := Lib.hid hS
  have HSZ : Hid (packW ⟨k, sq, n, ps, mr, L, self, data⟩ = if C = 0 then frameB 0 S else ⟨#[]⟩) := Lib.hid (by unfold packW; rw [hC, hS])
  rw [hS] at HSM
  clear hC hS hL hll hn hps hmr hpos
  obtain ⟨k0, k1, k2, k3, k4, k5, k6, k7⟩ := H0.out.cells
  by_cases hc : C = 0
  · subst hc
    have HPW : Hid (packW ⟨k, sq, n, ps, mr, L, self, data⟩ = frameB 0 S) := Lib.hid (by rw [HSZ.out, if_pos rfl])
    have HSS : Hid (S.size ≤ 65535) := Lib.hid (by have := HSM.out rfl; omega)
    clear HSM HSZ
    go_enter Tryd.func14, Tryd.ntmps14
    go_wp2_with (first
      | ((have _s := t2); go_at_call 36
         refine (FrameCalls.rbytes_any 0 S _ HSS.out).mono ?_
         rintro e W3 ⟨rfl, h3⟩)
      | ((have _s := t1); go_at_call 37
         refine (HBY.out _ H1.out.rd).mono ?_
         rintro e W2 ⟨rfl, h2⟩
         rw [HS.out]
         (have H2 := Lib.hid (H1.out.below h2))
         have t2 : True := trivial)
      | (go_at_call 13
         refine (HCK.out _ H0.out.rd).mono ?_
         rintro e W1 ⟨rfl, h1⟩
         rw [HC.out]
         (have H1 := Lib.hid (H0.out.below h1))
         clear k0 k1 k2 k3 k4 k5 k6 k7
         obtain ⟨k0, k1, k2, k3, k4, k5, k6, k7⟩ := H1.out.cells
         have t1 : True := trivial))
    go_ret
    exact ⟨by rw [HPW.out]; rfl, H2.out.bel.trans (h3.mono (Nat.le_of_lt H2.out.lt))⟩
  · have hcb : (C != 0) = true := by simp [hc]
    have HPW : Hid (packW ⟨k, sq, n, ps, mr, L, self, data⟩ = ⟨#[]⟩) := Lib.hid (by rw [HSZ.out, if_neg hc])
    go_enter Tryd.func14, Tryd.ntmps14
    go_wp2_with (go_at_call 13; refine (HCK.out _ H0.out.rd).mono ?_; rintro e W1 ⟨rfl, h1⟩; rw [HC.out])
    go_ret
    exact ⟨by rw [HPW.out]; rfl, (H0.out.below h1).bel⟩
theorem open_pack (B : Nat) (k sq n ps mr : Int) (m : Nat) (L : List Int) (self : Bool) (data : ByteArray) (w : World) (hT : Tab w B) (hF : Pdu.Forms w) (hm : m = L.length) (hc : Pdu.checkU ⟨k, sq, n, ps, mr, L, self, data⟩ = 0) (hn : NonNeg ⟨k, sq, n, ps, mr, L, self, data⟩) :
    Calls Tryd.prog 16 #[.pointer (some ⟨B, 0, none⟩), .string (packW ⟨k, sq, n, ps, mr, L, self, data⟩)] w fun e w' => ∃ a cap, e = .returned (.tuple #[.agg (Pdu.aggU k sq n ps mr (.slice a m cap) self data), .int .i64 0]) ∧ Own.RdI .u32 w' a m L ∧ Below w.heap.size w w' := by
  obtain ⟨h1, h2⟩ := pack_back _ hc hn
  have hs := pack_small _ hc
  refine (open_any B _ w hT hF (by omega)).mono ?_
  rintro e w' ⟨hb, ⟨h, _⟩ | ⟨_, lv, rfl, ho⟩⟩
  · exact absurd h1 h
  · rw [h2] at ho ⊢
    obtain ⟨a, cap, rfl, hr⟩ := Pdu.owned ho
    subst hm
    exact ⟨a, cap, rfl, hr, hb⟩
/-- opening what is wrong -/
theorem open_bad (s : ByteArray) (hs : s.size ≤ 100000) (c : Int) (hc : codeW s = c) (h0 : c ≠ 0) (B : Nat) (w : World) (hT : Tab w B) (hF : Pdu.Forms w) :
    Calls Tryd.prog 16 #[.pointer (some ⟨B, 0, none⟩), .string s] w fun e w' => e = .returned (.tuple #[.agg Pdu.zeroC, .int .i64 c]) ∧ Below w.heap.size w w' :=
  (open_any B s w hT hF hs).mono fun e w' ⟨hb, h⟩ => by
    rcases h with ⟨_, rfl⟩ | ⟨h, _⟩
    · exact ⟨by rw [hc]; rfl, hb⟩
    · exact absurd (hc.symm.trans h) h0
theorem bytes_740 (u : Pdu.U) (h : Pdu.checkU u = 0) : (Pdu.bytesU u).size ≤ 740 := by
  obtain ⟨k, hk, h1, h2, s1, s2, n1, p1, m1, l1, d1, b1⟩ := Pdu.check_ok u h
  have hl := Pdu.bytes_len u h
  have : ((Pdu.bytesU u).size : Int) ≤ 740 := by
    rw [hl]; split <;> split <;> split <;> omega
  omega
theorem pack_800 (u : Pdu.U) (hc : Pdu.checkU u = 0) : (packW u).size ≤ 800 := by
  rw [pack_size u hc]; have := cellsN_room (Pdu.bytesU u).size; have := bytes_740 u hc; omega
/-- a packed unit with bits turned, that is another text, is told -/
theorem turned_code (u : Pdu.U) (hc : Pdu.checkU u = 0) (mask at_ : Int) (h : FrameCalls.turnB (packW u) mask at_ ≠ packW u) : codeW (FrameCalls.turnB (packW u) mask at_) = 4 ∧ fits (FrameCalls.turnB (packW u) mask at_).data.toList = false := by
  have hp : packW u = frameB 0 (Pdu.bytesU u) := by unfold packW; rw [if_pos hc]
  rw [hp] at h ⊢
  have hl := FrameCalls.parse_turned 0 (Pdu.bytesU u) mask at_ (fun e => h (by
    rw [ByteArray.toList_eq, ByteArray.toList_eq] at e
    exact Pdu.str_ext e))
  constructor
  · unfold codeW; rw [hl]; rfl
  · have h2 := FrameCalls.turn_fits (bodyL 0 (Pdu.bytesU u).data.toList) mask at_
    have h3 : (FrameCalls.turnB (frameB 0 (Pdu.bytesU u)) mask at_).data.toList = FrameCalls.turnN (seal_ (bodyL 0 (Pdu.bytesU u).data.toList)) mask at_ 32 := rfl
    rw [h3, h2, decide_eq_false_iff_not]
    intro e
    exact h (Pdu.str_ext (by rw [h3, e]; rfl))
end Go.Proofs.YthigcaakkjfghaaDoor.Wire

namespace Go.Proofs.YthigcaakkjfghaaDoor.Wire
open Go.ChangeShapes Go.WideShapes Go.RowKit CrcMath CrcCalls FrameMath
open FrameCalls (frameB)

theorem parse_inv (s : List UInt8) (h : (parseL s).2.2 = 0) : frameL (parseL s).1 (parseL s).2.1 = s := by
  revert h
  unfold parseL
  split
  · intro h; exact absurd h (by decide)
  · rename_i c1
    split
    · intro h; exact absurd h (by decide)
    · rename_i c2
      dsimp only
      split
      · intro h; exact absurd h (by decide)
      · rename_i c3
        split
        · intro h; exact absurd h (by decide)
        · rename_i c4
          intro _
          have h8 : 8 ≤ s.length := by
            have h1 : s ≠ [] := fun h => c1 (.inl h)
            have h2 : s.length % 48 = 0 := by have := fun h => c1 (.inr h); omega
            have h3 : s.length ≠ 0 := fun h => h1 (List.eq_nil_of_length_eq_zero h)
            omega
          have c3' : 48 * cellsN (num2 (s.getD (s.length - 8 + 2) 0) (s.getD (s.length - 8 + 3) 0)) = s.length := Classical.not_not.1 c3
          refine (frame_eq s _ (by simpa using c2) h8 rfl c3').2 ⟨?_, ?_⟩
          · have := fun h => c4 (.inl h)
            simpa using this
          · exact Classical.not_not.1 (fun h => c4 (.inr h))
theorem code_zero (s : ByteArray) (h : codeW s = 0) : Pdu.checkU (Pdu.unitP (dataW s)) = 0 ∧ packW (Pdu.unitP (dataW s)) = s ∧ NonNeg (Pdu.unitP (dataW s)) ∧ (parseL s.data.toList).2.2 = 0 ∧ (parseL s.data.toList).1 = 0 ∧ Pdu.codeP (dataW s) = 0 := by
  unfold codeW at h
  by_cases c1 : (parseL s.data.toList).2.2 = 0
  · rw [if_neg (by simp [c1])] at h
    by_cases c2 : (parseL s.data.toList).1 = 0
    · rw [if_neg (by simp [c2])] at h
      obtain ⟨g1, g2, g3, g4, g5, g6⟩ := Pdu.good_zero _ h
      refine ⟨g1, ?_, ⟨g3, g4, g5, g6⟩, c1, c2, h⟩
      unfold packW
      rw [if_pos g1, g2]
      have := parse_inv s.data.toList c1
      rw [c2] at this
      exact Pdu.str_ext this
    · rw [if_pos c2] at h; exact absurd h (by decide)
  · rw [if_pos c1] at h; exact absurd h c1
theorem info_refp : (Tryd.prog.info? 24).map (·.size) = some 8 := by kernel_rfl

set_option maxRecDepth 100000 in
set_option maxHeartbeats 4000000 in
theorem ropen_bad (s : ByteArray) (hs : s.size ≤ 1000) (w : World) (h : (parseL s.data.toList).2.2 ≠ 0 ∨ (parseL s.data.toList).1 ≠ 0) :
    Calls Tryd.prog 22 #[.string s] w fun e w' => e = .returned (.tuple #[.agg Pdu.zeroR, .int .i64 (if (parseL s.data.toList).2.2 ≠ 0 then (parseL s.data.toList).2.2 else 3)]) ∧ Below w.heap.size w w' := by
  have HRP : Hid (∀ w : World, Calls Tryd.prog 42 #[.string s] w fun e w' => e = .returned (.tuple #[.int .u8 ((parseL s.data.toList).1.toNat : Int), .string (dataW s), .int .i64 (parseL s.data.toList).2.2]) ∧ Below w.heap.size w w') := Lib.hid (fun w => FrameCalls.rparse_any s w hs)
  generalize dataW s = D at *
  generalize (parseL s.data.toList).2.2 = E at *
  generalize (parseL s.data.toList).1 = U at *
  by_cases hE : E = 0
  · subst hE
    have hU : U ≠ 0 := by rcases h with h | h; exact absurd rfl h; exact h
    have hub : ((U.toNat : Int) != 0) = true := FrameCalls.nat_ne hU
    have h3 : ((3 : Int) != 0) = true := by decide
    clear h hU
    go_enter Tryd.func22, Tryd.ntmps22
    go_upto_region 4 with (go_at_call 42; refine (HRP.out _).mono ?_; rintro e W1 ⟨rfl, h1⟩)
    have HZ1 : Hid (W1.heap[w.heap.size]? = some (.cells Pdu.zeroR 24 (0, 0))) := Lib.hid ((h1.block w.heap.size (by simp)).trans (heap_alloc_new w _))
    have HB1 : Hid (Below w.heap.size w W1) := Lib.hid (((Below.refl _ _).alloc (Nat.le_refl _) _).trans (h1.mono (by simp)))
    clear h1
    go_wp2_with (refine wpList_store_row rfl 24 _ _ rfl w.heap.size Pdu.zeroR rfl rfl 24 _ HZ1.out info_refp rfl (by simp [Value.oneCell']) ?_)
    refine bodyPost_ret (Pdu.results_row_tmp rfl _ _ w.heap.size 24 _ (0, 0) _ rfl (setRow_heap _ _ _ _ 24 (0, 0) HZ1.out) Tryd.underlying24 rfl info_refp) rfl ⟨?_, below_setRow HB1.out (Nat.le_refl _) _⟩
    rfl
  · have heb : (E == 0) = false := by simp [hE]
    have hen : (E != 0) = true := by simp [hE]
    have HE := Lib.hid hE
    clear h hE
    go_enter Tryd.func22, Tryd.ntmps22
    go_upto_region 4 with (go_at_call 42; refine (HRP.out _).mono ?_; rintro e W1 ⟨rfl, h1⟩)
    have HZ1 : Hid (W1.heap[w.heap.size]? = some (.cells Pdu.zeroR 24 (0, 0))) := Lib.hid ((h1.block w.heap.size (by simp)).trans (heap_alloc_new w _))
    have HB1 : Hid (Below w.heap.size w W1) := Lib.hid (((Below.refl _ _).alloc (Nat.le_refl _) _).trans (h1.mono (by simp)))
    clear h1
    go_wp2_with (refine wpList_store_row rfl 24 _ _ rfl w.heap.size Pdu.zeroR rfl rfl 24 _ HZ1.out info_refp rfl (by simp [Value.oneCell']) ?_)
    refine bodyPost_ret (Pdu.results_row_tmp rfl _ _ w.heap.size 24 _ (0, 0) _ rfl (setRow_heap _ _ _ _ 24 (0, 0) HZ1.out) Tryd.underlying24 rfl info_refp) rfl ⟨?_, below_setRow HB1.out (Nat.le_refl _) _⟩
    rfl
theorem rparse_cs (D : ByteArray) (w : World) (hm : D.size ≤ 100000) :
    Calls Tryd.prog 43 #[.string D] w fun e w' => Below w.heap.size w w' ∧ ∃ (cs : Array Value) (c : Int), e = .returned (.tuple #[.agg cs, .int .i64 c]) ∧ cs.size = 8 ∧ cs.all (·.oneCell') = true ∧
      ((Pdu.codeP D ≠ 0 ∧ cs = Pdu.zeroR ∧ c = Pdu.codeP D) ∨ (Pdu.codeP D = 0 ∧ c = 0 ∧ ∃ lv, .agg cs = (Pdu.unitP D).val .i64 lv ∧ Own.OwnI .i64 3 w' w.heap.size lv (Pdu.unitP D).list)) :=
  (Pdu.rparse_any D w hm).mono fun e w' ⟨h1, h⟩ => ⟨h1, by
    rcases h with ⟨h, rfl⟩ | ⟨h, lv, rfl, ho⟩
    · exact ⟨_, _, rfl, rfl, by simp [Value.oneCell'], .inl ⟨h, rfl, rfl⟩⟩
    · obtain ⟨la, lc, rfl, _⟩ := Pdu.owned ho
      exact ⟨_, _, rfl, rfl, by simp [Value.oneCell'], .inr ⟨h, rfl, _, rfl, ho⟩⟩⟩
set_option maxRecDepth 100000 in
set_option maxHeartbeats 4000000 in
theorem ropen_good (s : ByteArray) (hs : s.size ≤ 1000) (w : World) (h1 : (parseL s.data.toList).2.2 = 0) (h2 : (parseL s.data.toList).1 = 0) :
    Calls Tryd.prog 22 #[.string s] w fun e w' => Below w.heap.size w w' ∧ ((Pdu.codeP (dataW s) ≠ 0 ∧ e = .returned (Pdu.told (.agg Pdu.zeroR) (Pdu.codeP (dataW s)))) ∨ (Pdu.codeP (dataW s) = 0 ∧ ∃ lv, e = .returned (Pdu.told ((Pdu.unitP (dataW s)).val .i64 lv) 0) ∧ Own.OwnI .i64 3 w' w.heap.size lv (Pdu.unitP (dataW s)).list)) := by
  have HRP : Hid (∀ w : World, Calls Tryd.prog 42 #[.string s] w fun e w' => e = .returned (.tuple #[.int .u8 ((parseL s.data.toList).1.toNat : Int), .string (dataW s), .int .i64 (parseL s.data.toList).2.2]) ∧ Below w.heap.size w w') := Lib.hid (fun w => FrameCalls.rparse_any s w hs)
  rw [h1, h2] at HRP
  have HDS : Hid ((dataW s).size ≤ 100000) := Lib.hid (Nat.le_trans (dataW_size s) (by omega))
  have e0 : ((0 : UInt8).toNat : Int) = 0 := by decide
  rw [e0] at HRP
  clear h1 h2 e0
  generalize dataW s = D at *
  go_enter Tryd.func22, Tryd.ntmps22
  go_upto_region 6 with (go_at_call 42; refine (HRP.out _).mono ?_; rintro e W1 ⟨rfl, h1⟩)
  have HZ1 : Hid (W1.heap[w.heap.size]? = some (.cells Pdu.zeroR 24 (0, 0))) := Lib.hid ((h1.block w.heap.size (by simp)).trans (heap_alloc_new w _))
  have HB1 : Hid (Below w.heap.size w W1) := Lib.hid (((Below.refl _ _).alloc (Nat.le_refl _) _).trans (h1.mono (by simp)))
  have HL1 : Hid (w.heap.size < W1.heap.size) := Lib.hid (by have := h1.size; simp at this; omega)
  clear h1
  go_wp2_with (first
    | ((have _s := t1); refine wpList_store_row rfl 24 _ _ rfl w.heap.size cs rfl rfl 24 _ HZ2.out (by rw [hcs8]; exact info_refp) (by rw [hcs8]; rfl) hcs1 ?_)
    | (go_at_call 43
       refine (rparse_cs D _ HDS.out).mono ?_
       rintro e W2 ⟨h2, cs, c, rfl, hcs8, hcs1, hgood⟩
       (have HZ2 := Lib.hid ((h2.block w.heap.size HL1.out).trans HZ1.out))
       (have HB2 := Lib.hid (HB1.out.trans (h2.mono (Nat.le_of_lt HL1.out))))
       (have HGOOD := Lib.hid hgood)
       have t1 : True := trivial
       clear h2 hgood))
  refine bodyPost_ret (Pdu.results_row_tmp rfl _ _ w.heap.size 24 _ (0, 0) _ rfl (setRow_heap _ _ _ _ 24 (0, 0) HZ2.out) Tryd.underlying24 rfl (by rw [hcs8]; exact info_refp)) rfl ⟨below_setRow HB2.out (Nat.le_refl _) _, ?_⟩
  rcases HGOOD.out with ⟨h, rfl, rfl⟩ | ⟨h, rfl, lv, he, ho⟩
  · exact .inl ⟨h, rfl⟩
  · refine .inr ⟨h, lv, ?_, ?_⟩
    · rw [← he]; rfl
    · exact (Pdu.own_setRow ho HL1.out).lower (Nat.le_of_lt HL1.out)
/-- opening, by the program and by the document: one answer -/
theorem wire_pair (s : ByteArray) (hs : s.size ≤ 1000) : ∃ (k sq n ps mr : Int) (L : List Int) (sf : Bool) (d : ByteArray) (m : Nat) (c : Int), m = L.length ∧ m ≤ 100000 ∧
    (0 ≤ n ∧ n ≤ 4294967295) ∧ (0 ≤ ps ∧ ps ≤ 4294967295) ∧ (0 ≤ mr ∧ mr ≤ 4294967295) ∧ (∀ z ∈ L, 0 ≤ z ∧ z ≤ 4294967295) ∧ (c = 0 → Pdu.checkU ⟨k, sq, n, ps, mr, L, sf, d⟩ = 0 ∧ packW ⟨k, sq, n, ps, mr, L, sf, d⟩ = s) ∧
    (∀ B w, Tab w B → Pdu.Forms w → Calls Tryd.prog 16 #[.pointer (some ⟨B, 0, none⟩), .string s] w fun e w' => ∃ a cap, e = .returned (.tuple #[.agg (Pdu.aggU k sq n ps mr (.slice a m cap) sf d), .int .i64 c]) ∧ Own.RdI .u32 w' a m L ∧ Below w.heap.size w w') ∧
    (∀ w, Calls Tryd.prog 22 #[.string s] w fun e w' => ∃ a cap, e = .returned (.tuple #[.agg (Pdu.aggR k sq n ps mr (.slice a m cap) sf d), .int .i64 c]) ∧ Own.RdI .i64 w' a m L ∧ Below w.heap.size w w') := by
  by_cases hc : codeW s = 0
  · obtain ⟨g1, g2, ⟨g3, g4, g5, g6⟩, p1, p2, p3⟩ := code_zero s hc
    obtain ⟨k', hk, h1, h2, s1, s2, n1, p1', m1, l1, d1, b1⟩ := Pdu.check_ok _ g1
    have e1 := fun B w hT hF => open_any B s w hT hF (by omega)
    have e2 := fun w => ropen_good s hs w p1 p2
    generalize hU : Pdu.unitP (dataW s) = U at *
    obtain ⟨k, sq, n, ps, mr, L, sf, d⟩ := U
    dsimp only at *
    refine ⟨k, sq, n, ps, mr, L, sf, d, L.length, 0, rfl, by omega, ⟨g3, by omega⟩, ⟨g4, by omega⟩, ⟨g5, by omega⟩, fun z hz => ⟨g6 z hz, ?_⟩, fun _ => ⟨g1, g2⟩, fun B w hT hF => (e1 B w hT hF).mono ?_, fun w => (e2 w).mono ?_⟩
    · unfold Pdu.anyBig at b1
      have := List.any_eq_false.1 b1 z hz
      simp at this; omega
    · rintro e w' ⟨hb, ⟨h, _⟩ | ⟨_, lv, rfl, ho⟩⟩
      · exact absurd hc h
      · obtain ⟨a, cap, rfl, hr⟩ := Pdu.owned ho
        exact ⟨a, cap, rfl, hr, hb⟩
    · rintro e w' ⟨hb, ⟨h, _⟩ | ⟨_, lv, rfl, ho⟩⟩
      · exact absurd p3 h
      · obtain ⟨a, cap, rfl, hr⟩ := Pdu.owned ho
        exact ⟨a, cap, rfl, hr, hb⟩
  · refine ⟨0, 0, 0, 0, 0, [], false, ⟨#[]⟩, 0, codeW s, rfl, by decide, by decide, by decide, by decide, fun z hz => by simp at hz, fun h => absurd h hc, fun B w hT hF => (open_any B s w hT hF (by omega)).mono ?_, fun w => ?_⟩
    · rintro e w' ⟨hb, ⟨_, rfl⟩ | ⟨h, _⟩⟩
      · exact ⟨none, 0, rfl, Pdu.rd_none, hb⟩
      · exact absurd h hc
    · by_cases hb : (parseL s.data.toList).2.2 ≠ 0 ∨ (parseL s.data.toList).1 ≠ 0
      · refine (ropen_bad s hs w hb).mono ?_
        rintro e w' ⟨rfl, hbw⟩
        refine ⟨none, 0, ?_, Pdu.rd_none, hbw⟩
        have : codeW s = if (parseL s.data.toList).2.2 ≠ 0 then (parseL s.data.toList).2.2 else 3 := by
          unfold codeW
          split
          · rfl
          · rename_i h1
            rw [if_pos (by rcases hb with h | h; exact absurd h h1; exact h)]
        rw [this]
      · have q1 : (parseL s.data.toList).2.2 = 0 := Classical.not_not.1 (fun h => hb (.inl h))
        have q2 : (parseL s.data.toList).1 = 0 := Classical.not_not.1 (fun h => hb (.inr h))
        have q3 : codeW s = Pdu.codeP (dataW s) := by unfold codeW; rw [if_neg (by simp [q1]), if_neg (by simp [q2])]
        refine (ropen_good s hs w q1 q2).mono ?_
        rw [← q3]
        rintro e w' ⟨hbw, ⟨_, rfl⟩ | ⟨h, _⟩⟩
        · exact ⟨none, 0, rfl, Pdu.rd_none, hbw⟩
        · exact absurd h hc
end Go.Proofs.YthigcaakkjfghaaDoor.Wire
