/-
  Units: is the program's the document's?
-/
import Derived.Test.YthigcaakkjfghaaDoorPduOwn
namespace Go.Proofs.YthigcaakkjfghaaDoor.Pdu
open Go.ChangeShapes Go.WideShapes Go.RowKit Own

/-- are two the same, field by field -/
def sameU (u v : U) : Bool := decide (u.kind = v.kind ∧ u.sq = v.sq ∧ u.n = v.n ∧ u.ps = v.ps ∧ u.mr = v.mr ∧ u.self = v.self ∧ u.data = v.data ∧ u.list = v.list)
theorem bytes_ne (a b : ByteArray) : (a.toList != b.toList) = !(decide (a = b)) := by
  rw [bne, ByteArray.toList_eq, ByteArray.toList_eq]
  congr 1
  rw [Bool.eq_iff_iff, beq_iff_eq, decide_eq_true_eq]
  constructor
  · intro h; apply ByteArray.ext; apply Array.toList_inj.1; exact h
  · intro h; rw [h]
theorem same_any (kind sq n ps mr : Int) (a : Option Addr) (m cap : Nat) (L : List Int) (self : Bool) (data : ByteArray)
    (kind' sq' n' ps' mr' : Int) (a' : Option Addr) (m' cap' : Nat) (L' : List Int) (self' : Bool) (data' : ByteArray) (w : World) (hL : RdI .u32 w a m L) (hL' : RdI .i64 w a' m' L') (hm : m ≤ 1000000) (hm' : m' ≤ 1000000)
    (hn : 0 ≤ n ∧ n < 4294967296) (hps : 0 ≤ ps ∧ ps < 4294967296) (hmr : 0 ≤ mr ∧ mr < 4294967296) (hl : ∀ x ∈ L, 0 ≤ x ∧ x < 4294967296) :
    Calls Tryd.prog 17 #[.agg (aggU kind sq n ps mr (.slice a m cap) self data), .agg (aggR kind' sq' n' ps' mr' (.slice a' m' cap') self' data')] w fun e w' =>
      e = .returned (.bool (sameU ⟨kind, sq, n, ps, mr, L, self, data⟩ ⟨kind', sq', n', ps', mr', L', self', data'⟩)) ∧ Below w.heap.size w w' := by
  have hdd := bytes_ne data data'
  obtain ⟨W, hW⟩ : ∃ W, (w.alloc (.cells (aggU kind sq n ps mr (.slice a m cap) self data) 33)).alloc (.cells (aggR kind' sq' n' ps' mr' (.slice a' m' cap') self' data') 24) = W := ⟨_, rfl⟩
  have hbW : Below w.heap.size w W := by rw [← hW]; exact ((Below.refl w.heap.size w).alloc (Nat.le_refl _) _).alloc (by simp) _
  have e0 : W.heap[w.heap.size]? = some (.cells (aggU kind sq n ps mr (.slice a m cap) self data) 33 (0, 0)) := by rw [← hW]; exact heap_alloc2_old w _ _
  have e1 : W.heap[w.heap.size + 1]? = some (.cells (aggR kind' sq' n' ps' mr' (.slice a' m' cap') self' data') 24 (0, 0)) := by rw [← hW]; exact heap_alloc2_new w _ _
  have HRD := Lib.hid (hL.below hbW)
  have HRD' := Lib.hid (hL'.below hbW)
  have HBW := Lib.hid hbW
  have HML := Lib.hid hL.1
  have HML' := Lib.hid hL'.1
  have HHL := Lib.hid hl
  obtain ⟨R, hR⟩ : ∃ R, sameU ⟨kind, sq, n, ps, mr, L, self, data⟩ ⟨kind', sq', n', ps', mr', L', self', data'⟩ = R := ⟨_, rfl⟩
  rw [hR]
  have HR := Lib.hid hR
  clear hbW hL hL' hl hR
  have k0 : W.cell? ⟨w.heap.size, 0, none⟩ = some (.int .i64 kind) := Go.Joins.cell_of_block e0 0
  have k1 : W.cell? ⟨w.heap.size, 1, none⟩ = some (.int .i64 sq) := Go.Joins.cell_of_block e0 1
  have k2 : W.cell? ⟨w.heap.size, 2, none⟩ = some (.int .u32 n) := Go.Joins.cell_of_block e0 2
  have k3 : W.cell? ⟨w.heap.size, 3, none⟩ = some (.int .u32 ps) := Go.Joins.cell_of_block e0 3
  have k4 : W.cell? ⟨w.heap.size, 4, none⟩ = some (.int .u32 mr) := Go.Joins.cell_of_block e0 4
  have k5 : W.cell? ⟨w.heap.size, 5, none⟩ = some (.slice a m cap) := Go.Joins.cell_of_block e0 5
  have k6 : W.cell? ⟨w.heap.size, 6, none⟩ = some (.bool self) := Go.Joins.cell_of_block e0 6
  have k7 : W.cell? ⟨w.heap.size, 7, none⟩ = some (.string data) := Go.Joins.cell_of_block e0 7
  have r0 : W.cell? ⟨w.heap.size + 1, 0, none⟩ = some (.int .i64 kind') := Go.Joins.cell_of_block e1 0
  have r1 : W.cell? ⟨w.heap.size + 1, 1, none⟩ = some (.int .i64 sq') := Go.Joins.cell_of_block e1 1
  have r2 : W.cell? ⟨w.heap.size + 1, 2, none⟩ = some (.int .i64 n') := Go.Joins.cell_of_block e1 2
  have r3 : W.cell? ⟨w.heap.size + 1, 3, none⟩ = some (.int .i64 ps') := Go.Joins.cell_of_block e1 3
  have r4 : W.cell? ⟨w.heap.size + 1, 4, none⟩ = some (.int .i64 mr') := Go.Joins.cell_of_block e1 4
  have r5 : W.cell? ⟨w.heap.size + 1, 5, none⟩ = some (.slice a' m' cap') := Go.Joins.cell_of_block e1 5
  have r6 : W.cell? ⟨w.heap.size + 1, 6, none⟩ = some (.bool self') := Go.Joins.cell_of_block e1 6
  have r7 : W.cell? ⟨w.heap.size + 1, 7, none⟩ = some (.string data') := Go.Joins.cell_of_block e1 7
  have HNB : Hid ((0 ≤ n ∧ n < 4294967296) ∧ (0 ≤ ps ∧ ps < 4294967296) ∧ (0 ≤ mr ∧ mr < 4294967296)) := Lib.hid ⟨hn, hps, hmr⟩
  obtain ⟨n0, n1⟩ := hn
  obtain ⟨ps0, ps1⟩ := hps
  obtain ⟨mr0, mr1⟩ := hmr
  clear e0 e1
  go_enter Tryd.func17, Tryd.ntmps17
  go_upto_region 1 with (fail)
  clear hW
  generalize hgg : w.heap.size = g at *
  have HG := Lib.hid hgg
  clear hgg
  go_upto_if 65 with (fail)
  rotate_left 1
  all_goals go_wp2_with fail
  all_goals try
    (go_ret
     refine ⟨ret_bool ?_, by rw [HG.out]; exact HBW.out⟩
     rw [← HR.out]
     symm
     unfold sameU
     rw [decide_eq_false_iff_not]
     rintro ⟨e1, e2, e3, e4, e5, e6, e7, e8⟩
     dsimp only at e1 e2 e3 e4 e5 e6 e7 e8
     (have e9 : m = m' := by rw [HML.out, HML'.out, e8])
     first
       | (simp_all; done)
       | (subst e9; simp_all; done))
  have hkk : kind = kind' := by assumption
  have hsq : sq = sq' := by assumption
  have hnn : n = n' := by assumption
  have hpp : ps = ps' := by assumption
  have hmm : mr = mr' := by assumption
  have hse : self = self' := by assumption
  have hda : data.toList = data'.toList := by assumption
  have hne : ((m : Int) != (m' : Int)) = false := by assumption
  have hle : m = m' := by rw [bne_eq_false_iff_eq] at hne; omega
  have HREST : Hid (R = decide (L = L')) := Lib.hid (by
    rw [← HR.out]
    unfold sameU
    have hdd2 : data = data' := by
      have := bytes_ne data data'
      rw [hda] at this
      simpa using this
    simp [hkk, hsq, hnn, hpp, hmm, hse, hdd2])
  have HLE := Lib.hid hle
  clear hkk hsq hnn hpp hmm hse hda hdd
  subst hle
  clear k0 k1 k2 k3 k4 k6 k7 r0 r1 r2 r3 r4 r5 r6 r7 hne
  go_loop [69] (fun i => ∃ j : Nat, j ≤ m ∧ i = .int .i64 (j : Int) ∧ Hid (L.take j = L'.take j)) (fun i => m - (intOf i).toNat)
  case atStart => exact ⟨0, Nat.zero_le _, rfl, Lib.hid rfl⟩
  case round =>
    obtain ⟨j, hj, rfl, HT⟩ := hrel
    by_cases hlt : j < m
    · obtain ⟨b1, o1, rfl, _, c1⟩ := HRD.out.at_ hlt
      obtain ⟨b2, o2, rfl, _, c2⟩ := HRD'.out.at_ hlt
      obtain ⟨x, hx⟩ : ∃ x, L.getD j 0 = x := ⟨_, rfl⟩
      obtain ⟨y, hy⟩ : ∃ y, L'.getD j 0 = y := ⟨_, rfl⟩
      have hjl : j < L.length := by have := HML.out; omega
      have hjl' : j < L'.length := by have := HML'.out; omega
      have hxb : 0 ≤ x ∧ x < 4294967296 := HHL.out x (by rw [← hx]; simp [List.getD, hjl])
      rw [hx] at c1
      rw [hy] at c2
      have HX := Lib.hid hx
      have HY := Lib.hid hy
      have HLT := Lib.hid hlt
      have HJL := Lib.hid hjl
      have HJL' := Lib.hid hjl'
      obtain ⟨x0, x1⟩ := hxb
      clear hx hy hj hjl hjl'
      by_cases hxy : x = y
      · subst hxy
        have HT2 : Hid (L.take (j + 1) = L'.take (j + 1)) := Lib.hid (by rw [take_succ' L 0 j HJL.out, take_succ' L' 0 j HJL'.out, HT.out, HX.out, HY.out])
        go_wp2_with fail
        go_round
        case rel => exact ⟨j + 1, HLT.out, by go_num, HT2⟩
        case measure => simp [intOf]; have := HLT.out; omega
      · have hb : (x != y) = true := by rw [bne_iff_ne]; exact hxy
        have HN : Hid (decide (L = L') = false) := Lib.hid (by
          rw [decide_eq_false_iff_not]
          intro e
          exact hxy (by rw [← HX.out, ← HY.out, e]))
        clear hxy
        go_wp2_with fail
        all_goals first
          | (go_ret; exact ⟨ret_bool (by rw [HREST.out, HN.out]), by rw [HG.out]; exact HBW.out⟩)
          | (exfalso; simp_all; done)
    · obtain rfl : j = m := by omega
      have HE : Hid (decide (L = L') = true) := Lib.hid (by
        rw [decide_eq_true_eq]
        have h := HT.out
        rwa [List.take_of_length_le (by rw [← HML.out]; exact Nat.le_refl _), List.take_of_length_le (by rw [← HML'.out]; exact Nat.le_refl _)] at h)
      clear hlt hj
      go_wp2_with fail
      go_ret
      exact ⟨ret_bool (by rw [HREST.out, HE.out]), by rw [HG.out]; exact HBW.out⟩
end Go.Proofs.YthigcaakkjfghaaDoor.Pdu
