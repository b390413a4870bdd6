/-
  Units: the words ahead of the last one.
-/
import Derived.Test.YtaappdaolenkiaaDoorPduCheck
import Derived.Test.YtaappdaolenkiaaDoorOwn
namespace Go.Proofs.YtaappdaolenkiaaDoor.Pdu
open Go.ChangeShapes Go.WideShapes Go.RowKit Own

theorem infoW : Info .u32 25 4 := by unfold Info; kernel_rfl
theorem infoB : Info .u8 5 1 := by unfold Info; kernel_rfl

def wordsL (f : Form) (u : U) : List Int := (if 0 < f.sq then [u.sq] else []) ++ u.list ++ (if 0 < f.ps then [u.ps] else []) ++ (if 0 < f.mr then [u.mr] else [])

theorem Nums.rd {k : IntKind} {w : World} {a : Option Addr} {n cap : Nat} {l : List Int} (h : Nums k w (.slice a n cap) l) : RdI k w a n l := by
  obtain ⟨a', cap', e, h1, h2, h3⟩ := h
  cases e
  refine ⟨rfl, fun hn => ?_⟩
  rcases h3 with rfl | ⟨b, off, rfl, hb, hc⟩
  · simp at hn
  · exact ⟨b, off, rfl, hb, hc⟩


set_option maxHeartbeats 1000000 in
theorem words_S (k n0 cap : Nat) (a : Option Addr) (f1 f2 f5 f6 f8 : Int) (f7 : Bool) (sq n ps mr : Int) (list : List Int) (self : Bool) (data : ByteArray) (w : World) (hk : (k : Int) < 16) (hs : 0 < f1) (hs2 : 0 ≤ sq) (hs3 : sq ≤ 255)  
    (hR : ∀ w', Forms w' → w'.cell? ⟨0, k * 8, none⟩ = some (.int .i64 f1) ∧ w'.cell? ⟨0, k * 8 + 1, none⟩ = some (.int .u32 f2) ∧ w'.cell? ⟨0, k * 8 + 2, none⟩ = some (.int .u32 0) ∧ w'.cell? ⟨0, k * 8 + 3, none⟩ = some (.int .u32 0) ∧ w'.cell? ⟨0, k * 8 + 4, none⟩ = some (.int .i64 f5) ∧ w'.cell? ⟨0, k * 8 + 5, none⟩ = some (.int .i64 f6) ∧ w'.cell? ⟨0, k * 8 + 6, none⟩ = some (.bool f7) ∧ w'.cell? ⟨0, k * 8 + 7, none⟩ = some (.int .i64 f8)) (hF : Forms w) (hv : Nums .u32 w (.slice a n0 cap) list) (hl : n0 ≤ 1000) :
    Calls Tryd.prog 24 #[.agg #[.int .i64 (k : Int), .int .i64 sq, .int .u32 n, .int .u32 ps, .int .u32 mr, .slice a n0 cap, .bool self, .string data]] w fun e w' => ∃ v, e = .returned v ∧ OwnI .u32 25 w' w.heap.size v ([sq] ++ list) ∧ Below w.heap.size w w' := by
  have hF1 := Lib.hid (hF.alloc (.cells #[.int .i64 (k : Int), .int .i64 sq, .int .u32 n, .int .u32 ps, .int .u32 mr, .slice a n0 cap, .bool self, .string data] 32))
  have hv0 := ((hv.alloc (.cells #[.int .i64 (k : Int), .int .i64 sq, .int .u32 n, .int .u32 ps, .int .u32 mr, .slice a n0 cap, .bool self, .string data] 32)).alloc (.cells #[.int .i64 f1, .int .u32 f2, .int .u32 0, .int .u32 0, .int .i64 f5, .int .i64 f6, .bool f7, .int .i64 f8] 63)).rd
  obtain ⟨c0, c1, c2, c3, c4, c5, c6, c7⟩ := hR _ hF1.out
  have HLEN := Lib.hid hv.rd.1
  have hV : ∀ w', Below (w.heap.size + 2) ((w.alloc (.cells #[.int .i64 (k : Int), .int .i64 sq, .int .u32 n, .int .u32 ps, .int .u32 mr, .slice a n0 cap, .bool self, .string data] 32)).alloc (.cells #[.int .i64 f1, .int .u32 f2, .int .u32 0, .int .u32 0, .int .i64 f5, .int .i64 f6, .bool f7, .int .i64 f8] 63)) w' → RdI .u32 w' a n0 list := fun w' hb => hv0.below (by simpa using hb)
  have HV := Lib.hid hV
  have hK : ∀ w', Below (w.heap.size + 2) ((w.alloc (.cells #[.int .i64 (k : Int), .int .i64 sq, .int .u32 n, .int .u32 ps, .int .u32 mr, .slice a n0 cap, .bool self, .string data] 32)).alloc (.cells #[.int .i64 f1, .int .u32 f2, .int .u32 0, .int .u32 0, .int .i64 f5, .int .i64 f6, .bool f7, .int .i64 f8] 63)) w' →
      w'.cell? ⟨w.heap.size, 1, none⟩ = some (.int .i64 sq) ∧ w'.cell? ⟨w.heap.size, 3, none⟩ = some (.int .u32 ps) ∧ w'.cell? ⟨w.heap.size, 4, none⟩ = some (.int .u32 mr) ∧ w'.cell? ⟨w.heap.size, 5, none⟩ = some (.slice a n0 cap) ∧
      w'.cell? ⟨w.heap.size + 1, 0, none⟩ = some (.int .i64 f1) ∧ w'.cell? ⟨w.heap.size + 1, 2, none⟩ = some (.int .u32 0) ∧ w'.cell? ⟨w.heap.size + 1, 3, none⟩ = some (.int .u32 0) := by
    intro w' hb
    have hg1 := (hb.block w.heap.size (by omega)).trans (heap_alloc2_old w (.cells #[.int .i64 (k : Int), .int .i64 sq, .int .u32 n, .int .u32 ps, .int .u32 mr, .slice a n0 cap, .bool self, .string data] 32) (.cells #[.int .i64 f1, .int .u32 f2, .int .u32 0, .int .u32 0, .int .i64 f5, .int .i64 f6, .bool f7, .int .i64 f8] 63))
    have hg2 := (hb.block (w.heap.size + 1) (by omega)).trans (heap_alloc2_new w (.cells #[.int .i64 (k : Int), .int .i64 sq, .int .u32 n, .int .u32 ps, .int .u32 mr, .slice a n0 cap, .bool self, .string data] 32) (.cells #[.int .i64 f1, .int .u32 f2, .int .u32 0, .int .u32 0, .int .i64 f5, .int .i64 f6, .bool f7, .int .i64 f8] 63))
    exact ⟨Go.Joins.cell_of_block hg1 1, Go.Joins.cell_of_block hg1 3, Go.Joins.cell_of_block hg1 4, Go.Joins.cell_of_block hg1 5, Go.Joins.cell_of_block hg2 0, Go.Joins.cell_of_block hg2 2, Go.Joins.cell_of_block hg2 3⟩
  have HK := Lib.hid hK
  have hb00 : Below (w.heap.size + 2) ((w.alloc (.cells #[.int .i64 (k : Int), .int .i64 sq, .int .u32 n, .int .u32 ps, .int .u32 mr, .slice a n0 cap, .bool self, .string data] 32)).alloc (.cells #[.int .i64 f1, .int .u32 f2, .int .u32 0, .int .u32 0, .int .i64 f5, .int .i64 f6, .bool f7, .int .i64 f8] 63)) ((w.alloc (.cells #[.int .i64 (k : Int), .int .i64 sq, .int .u32 n, .int .u32 ps, .int .u32 mr, .slice a n0 cap, .bool self, .string data] 32)).alloc (.cells #[.int .i64 f1, .int .u32 f2, .int .u32 0, .int .u32 0, .int .i64 f5, .int .i64 f6, .bool f7, .int .i64 f8] 63)) := Below.refl _ _
  have HB00 := Lib.hid hb00
  have hb0 : Below w.heap.size w ((w.alloc (.cells #[.int .i64 (k : Int), .int .i64 sq, .int .u32 n, .int .u32 ps, .int .u32 mr, .slice a n0 cap, .bool self, .string data] 32)).alloc (.cells #[.int .i64 f1, .int .u32 f2, .int .u32 0, .int .u32 0, .int .i64 f5, .int .i64 f6, .bool f7, .int .i64 f8] 63)) := ((Below.refl w.heap.size w).alloc (Nat.le_refl _) _).alloc (by simp) _
  have HB0 := Lib.hid hb0
  clear hv hF hR hv0 hV hK hb00 hb0
  go_enter Tryd.func24, Tryd.ntmps24
  go_wp2_with (at_builtin; refine wpList_appI infoW (by decide) rfl (.tmp 14) (.tmp 18) 68 rfl Tryd.underlying68 (w.heap.size + 2) _ _ rfl OwnI.nil _ 1 1 [sq] rfl (rdI_lit1_at _ _ _ _ _ (by simp)) (fun h => by cases h) (by have := HLEN.out; simp <;> omega) (by simp <;> omega) ?_)
  intro v1 w1 hown1 hgrow
  have hb1 : Below (w.heap.size + 2) ((w.alloc (.cells #[.int .i64 (k : Int), .int .i64 sq, .int .u32 n, .int .u32 ps, .int .u32 mr, .slice a n0 cap, .bool self, .string data] 32)).alloc (.cells #[.int .i64 f1, .int .u32 f2, .int .u32 0, .int .u32 0, .int .i64 f5, .int .i64 f6, .bool f7, .int .i64 f8] 63)) w1 := own_grown (e := 25) (size := 1) (n := 0) (xs := []) (HB00.out.alloc (by simp) _) (by simp) hgrow (World.ownsRow_nil _ _ _ _)
  have hs1 : w.heap.size + 2 ≤ w1.heap.size := Nat.le_trans (by simp) hb1.size
  have hown1 : OwnI .u32 25 w1 (w.heap.size + 2) v1 [sq] := by simpa using hown1
  clear hgrow c0 c1 c2 c3 c4 c5 c6 c7 hF1
  obtain ⟨p1, p3, p4, p5, q0, q2, q3⟩ := HK.out _ hb1
  go_wp2_with fail
  go_loopw [4, 23] (fun v i wr => ∃ j : Nat, j ≤ n0 ∧ i = .int .i64 j ∧ OwnI .u32 25 wr (w.heap.size + 2) v ([sq] ++ list.take j) ∧ Below (w.heap.size + 2) ((w.alloc (.cells #[.int .i64 (k : Int), .int .i64 sq, .int .u32 n, .int .u32 ps, .int .u32 mr, .slice a n0 cap, .bool self, .string data] 32)).alloc (.cells #[.int .i64 f1, .int .u32 f2, .int .u32 0, .int .u32 0, .int .i64 f5, .int .i64 f6, .bool f7, .int .i64 f8] 63)) wr) (fun _ i _ => n0 - (intOf i).toNat)
  case atStart => exact ⟨0, by omega, rfl, by simpa using hown1, hb1⟩
  case round =>
    obtain ⟨j, hj, rfl, hown, hb⟩ := hrel
    have hsr : w.heap.size + 2 ≤ wr.heap.size := Nat.le_trans (by simp) hb.size
    by_cases hlt : j < n0
    · obtain ⟨b, off, rfl, hblt, hc⟩ := (HV.out wr hb).at_ hlt
      obtain ⟨x, hx⟩ : ∃ x, list.getD j 0 = x := ⟨_, rfl⟩
      rw [hx] at hc
      have HX := Lib.hid hx
      clear hx
      go_wp2_with (at_builtin; refine wpList_appI infoW (by decide) rfl (.tmp 27) (.tmp 29) 68 rfl Tryd.underlying68 (w.heap.size + 2) _ _ rfl (OwnI.below hown ((Below.refl _ _).alloc (Nat.le_refl _) _)) _ 1 1 [x] rfl (rdI_lit1_at _ _ _ _ _ (by simp)) (fun h => by cases h) (by have := HLEN.out; simp <;> omega) (by simp <;> omega) ?_)
      intro v' w1 hown' hgrow
      have hb2 := own_grown (hb.alloc hsr _) (by simp <;> omega) hgrow (own_below hown ((Below.refl _ _).alloc (Nat.le_refl _) _))
      have hown2 : OwnI .u32 25 w1 (w.heap.size + 2) v' ([sq] ++ list.take (j + 1)) := by rw [take_succ' list 0 j (by have := HLEN.out; omega), HX.out]; simpa using hown'
      clear hgrow hown hown' hb hc
      go_wp2_with fail
      go_roundw
      case rel => exact ⟨j + 1, by omega, by go_num, hown2, hb2⟩
      case measure => simp [intOf]; omega
    · have hjn : n0 = j := by omega
      subst hjn
      rw [List.take_of_length_le (by have := HLEN.out; omega)] at hown
      obtain ⟨p1, p3, p4, p5, q0, q2, q3⟩ := HK.out _ hb
      have hbF := HB0.out.trans (hb.mono (by omega))
      have hfin := OwnI.lower (base' := w.heap.size) hown (Nat.le_add_right _ 2)
      go_wp2_with fail
      go_ret
      exact ⟨_, rfl, by simpa using hfin, hbF⟩

set_option maxHeartbeats 1000000 in
theorem words_O (k n0 cap : Nat) (a : Option Addr) (f2 f5 f6 f8 : Int) (f7 : Bool) (sq n ps mr : Int) (list : List Int) (self : Bool) (data : ByteArray) (w : World) (hk : (k : Int) < 16)   
    (hR : ∀ w', Forms w' → w'.cell? ⟨0, k * 8, none⟩ = some (.int .i64 0) ∧ w'.cell? ⟨0, k * 8 + 1, none⟩ = some (.int .u32 f2) ∧ w'.cell? ⟨0, k * 8 + 2, none⟩ = some (.int .u32 0) ∧ w'.cell? ⟨0, k * 8 + 3, none⟩ = some (.int .u32 0) ∧ w'.cell? ⟨0, k * 8 + 4, none⟩ = some (.int .i64 f5) ∧ w'.cell? ⟨0, k * 8 + 5, none⟩ = some (.int .i64 f6) ∧ w'.cell? ⟨0, k * 8 + 6, none⟩ = some (.bool f7) ∧ w'.cell? ⟨0, k * 8 + 7, none⟩ = some (.int .i64 f8)) (hF : Forms w) (hv : Nums .u32 w (.slice a n0 cap) list) (hl : n0 ≤ 1000) :
    Calls Tryd.prog 24 #[.agg #[.int .i64 (k : Int), .int .i64 sq, .int .u32 n, .int .u32 ps, .int .u32 mr, .slice a n0 cap, .bool self, .string data]] w fun e w' => ∃ v, e = .returned v ∧ OwnI .u32 25 w' w.heap.size v (list) ∧ Below w.heap.size w w' := by
  have hF1 := Lib.hid (hF.alloc (.cells #[.int .i64 (k : Int), .int .i64 sq, .int .u32 n, .int .u32 ps, .int .u32 mr, .slice a n0 cap, .bool self, .string data] 32))
  have hv0 := ((hv.alloc (.cells #[.int .i64 (k : Int), .int .i64 sq, .int .u32 n, .int .u32 ps, .int .u32 mr, .slice a n0 cap, .bool self, .string data] 32)).alloc (.cells #[.int .i64 0, .int .u32 f2, .int .u32 0, .int .u32 0, .int .i64 f5, .int .i64 f6, .bool f7, .int .i64 f8] 63)).rd
  obtain ⟨c0, c1, c2, c3, c4, c5, c6, c7⟩ := hR _ hF1.out
  have HLEN := Lib.hid hv.rd.1
  have hV : ∀ w', Below (w.heap.size + 2) ((w.alloc (.cells #[.int .i64 (k : Int), .int .i64 sq, .int .u32 n, .int .u32 ps, .int .u32 mr, .slice a n0 cap, .bool self, .string data] 32)).alloc (.cells #[.int .i64 0, .int .u32 f2, .int .u32 0, .int .u32 0, .int .i64 f5, .int .i64 f6, .bool f7, .int .i64 f8] 63)) w' → RdI .u32 w' a n0 list := fun w' hb => hv0.below (by simpa using hb)
  have HV := Lib.hid hV
  have hK : ∀ w', Below (w.heap.size + 2) ((w.alloc (.cells #[.int .i64 (k : Int), .int .i64 sq, .int .u32 n, .int .u32 ps, .int .u32 mr, .slice a n0 cap, .bool self, .string data] 32)).alloc (.cells #[.int .i64 0, .int .u32 f2, .int .u32 0, .int .u32 0, .int .i64 f5, .int .i64 f6, .bool f7, .int .i64 f8] 63)) w' →
      w'.cell? ⟨w.heap.size, 1, none⟩ = some (.int .i64 sq) ∧ w'.cell? ⟨w.heap.size, 3, none⟩ = some (.int .u32 ps) ∧ w'.cell? ⟨w.heap.size, 4, none⟩ = some (.int .u32 mr) ∧ w'.cell? ⟨w.heap.size, 5, none⟩ = some (.slice a n0 cap) ∧
      w'.cell? ⟨w.heap.size + 1, 0, none⟩ = some (.int .i64 0) ∧ w'.cell? ⟨w.heap.size + 1, 2, none⟩ = some (.int .u32 0) ∧ w'.cell? ⟨w.heap.size + 1, 3, none⟩ = some (.int .u32 0) := by
    intro w' hb
    have hg1 := (hb.block w.heap.size (by omega)).trans (heap_alloc2_old w (.cells #[.int .i64 (k : Int), .int .i64 sq, .int .u32 n, .int .u32 ps, .int .u32 mr, .slice a n0 cap, .bool self, .string data] 32) (.cells #[.int .i64 0, .int .u32 f2, .int .u32 0, .int .u32 0, .int .i64 f5, .int .i64 f6, .bool f7, .int .i64 f8] 63))
    have hg2 := (hb.block (w.heap.size + 1) (by omega)).trans (heap_alloc2_new w (.cells #[.int .i64 (k : Int), .int .i64 sq, .int .u32 n, .int .u32 ps, .int .u32 mr, .slice a n0 cap, .bool self, .string data] 32) (.cells #[.int .i64 0, .int .u32 f2, .int .u32 0, .int .u32 0, .int .i64 f5, .int .i64 f6, .bool f7, .int .i64 f8] 63))
    exact ⟨Go.Joins.cell_of_block hg1 1, Go.Joins.cell_of_block hg1 3, Go.Joins.cell_of_block hg1 4, Go.Joins.cell_of_block hg1 5, Go.Joins.cell_of_block hg2 0, Go.Joins.cell_of_block hg2 2, Go.Joins.cell_of_block hg2 3⟩
  have HK := Lib.hid hK
  have hb00 : Below (w.heap.size + 2) ((w.alloc (.cells #[.int .i64 (k : Int), .int .i64 sq, .int .u32 n, .int .u32 ps, .int .u32 mr, .slice a n0 cap, .bool self, .string data] 32)).alloc (.cells #[.int .i64 0, .int .u32 f2, .int .u32 0, .int .u32 0, .int .i64 f5, .int .i64 f6, .bool f7, .int .i64 f8] 63)) ((w.alloc (.cells #[.int .i64 (k : Int), .int .i64 sq, .int .u32 n, .int .u32 ps, .int .u32 mr, .slice a n0 cap, .bool self, .string data] 32)).alloc (.cells #[.int .i64 0, .int .u32 f2, .int .u32 0, .int .u32 0, .int .i64 f5, .int .i64 f6, .bool f7, .int .i64 f8] 63)) := Below.refl _ _
  have HB00 := Lib.hid hb00
  have hb0 : Below w.heap.size w ((w.alloc (.cells #[.int .i64 (k : Int), .int .i64 sq, .int .u32 n, .int .u32 ps, .int .u32 mr, .slice a n0 cap, .bool self, .string data] 32)).alloc (.cells #[.int .i64 0, .int .u32 f2, .int .u32 0, .int .u32 0, .int .i64 f5, .int .i64 f6, .bool f7, .int .i64 f8] 63)) := ((Below.refl w.heap.size w).alloc (Nat.le_refl _) _).alloc (by simp) _
  have HB0 := Lib.hid hb0
  clear hv hF hR hv0 hV hK hb00 hb0
  go_enter Tryd.func24, Tryd.ntmps24
  go_wp2_with fail
  clear c0 c1 c2 c3 c4 c5 c6 c7 hF1
  go_loopw [4, 23] (fun v i wr => ∃ j : Nat, j ≤ n0 ∧ i = .int .i64 j ∧ OwnI .u32 25 wr (w.heap.size + 2) v (list.take j) ∧ Below (w.heap.size + 2) ((w.alloc (.cells #[.int .i64 (k : Int), .int .i64 sq, .int .u32 n, .int .u32 ps, .int .u32 mr, .slice a n0 cap, .bool self, .string data] 32)).alloc (.cells #[.int .i64 0, .int .u32 f2, .int .u32 0, .int .u32 0, .int .i64 f5, .int .i64 f6, .bool f7, .int .i64 f8] 63)) wr) (fun _ i _ => n0 - (intOf i).toNat)
  case atStart => exact ⟨0, by omega, rfl, OwnI.nil, HB00.out⟩
  case round =>
    obtain ⟨j, hj, rfl, hown, hb⟩ := hrel
    have hsr : w.heap.size + 2 ≤ wr.heap.size := Nat.le_trans (by simp) hb.size
    by_cases hlt : j < n0
    · obtain ⟨b, off, rfl, hblt, hc⟩ := (HV.out wr hb).at_ hlt
      obtain ⟨x, hx⟩ : ∃ x, list.getD j 0 = x := ⟨_, rfl⟩
      rw [hx] at hc
      have HX := Lib.hid hx
      clear hx
      go_wp2_with (at_builtin; refine wpList_appI infoW (by decide) rfl (.tmp 27) (.tmp 29) 68 rfl Tryd.underlying68 (w.heap.size + 2) _ _ rfl (OwnI.below hown ((Below.refl _ _).alloc (Nat.le_refl _) _)) _ 1 1 [x] rfl (rdI_lit1_at _ _ _ _ _ (by simp)) (fun h => by cases h) (by have := HLEN.out; simp <;> omega) (by simp <;> omega) ?_)
      intro v' w1 hown' hgrow
      have hb2 := own_grown (hb.alloc hsr _) (by simp <;> omega) hgrow (own_below hown ((Below.refl _ _).alloc (Nat.le_refl _) _))
      have hown2 : OwnI .u32 25 w1 (w.heap.size + 2) v' (list.take (j + 1)) := by rw [take_succ' list 0 j (by have := HLEN.out; omega), HX.out]; simpa using hown'
      clear hgrow hown hown' hb hc
      go_wp2_with fail
      go_roundw
      case rel => exact ⟨j + 1, by omega, by go_num, hown2, hb2⟩
      case measure => simp [intOf]; omega
    · have hjn : n0 = j := by omega
      subst hjn
      rw [List.take_of_length_le (by have := HLEN.out; omega)] at hown
      obtain ⟨p1, p3, p4, p5, q0, q2, q3⟩ := HK.out _ hb
      have hbF := HB0.out.trans (hb.mono (by omega))
      have hfin := OwnI.lower (base' := w.heap.size) hown (Nat.le_add_right _ 2)
      go_wp2_with fail
      go_ret
      exact ⟨_, rfl, by simpa using hfin, hbF⟩

set_option maxHeartbeats 1000000 in
theorem words_P (k n0 cap : Nat) (a : Option Addr) (f2 f3 f5 f6 f8 : Int) (f7 : Bool) (sq n ps mr : Int) (list : List Int) (self : Bool) (data : ByteArray) (w : World) (hk : (k : Int) < 16)  (hp : 0 < f3) 
    (hR : ∀ w', Forms w' → w'.cell? ⟨0, k * 8, none⟩ = some (.int .i64 0) ∧ w'.cell? ⟨0, k * 8 + 1, none⟩ = some (.int .u32 f2) ∧ w'.cell? ⟨0, k * 8 + 2, none⟩ = some (.int .u32 f3) ∧ w'.cell? ⟨0, k * 8 + 3, none⟩ = some (.int .u32 0) ∧ w'.cell? ⟨0, k * 8 + 4, none⟩ = some (.int .i64 f5) ∧ w'.cell? ⟨0, k * 8 + 5, none⟩ = some (.int .i64 f6) ∧ w'.cell? ⟨0, k * 8 + 6, none⟩ = some (.bool f7) ∧ w'.cell? ⟨0, k * 8 + 7, none⟩ = some (.int .i64 f8)) (hF : Forms w) (hv : Nums .u32 w (.slice a n0 cap) list) (hl : n0 ≤ 1000) :
    Calls Tryd.prog 24 #[.agg #[.int .i64 (k : Int), .int .i64 sq, .int .u32 n, .int .u32 ps, .int .u32 mr, .slice a n0 cap, .bool self, .string data]] w fun e w' => ∃ v, e = .returned v ∧ OwnI .u32 25 w' w.heap.size v (list ++ [ps]) ∧ Below w.heap.size w w' := by
  have hF1 := Lib.hid (hF.alloc (.cells #[.int .i64 (k : Int), .int .i64 sq, .int .u32 n, .int .u32 ps, .int .u32 mr, .slice a n0 cap, .bool self, .string data] 32))
  have hv0 := ((hv.alloc (.cells #[.int .i64 (k : Int), .int .i64 sq, .int .u32 n, .int .u32 ps, .int .u32 mr, .slice a n0 cap, .bool self, .string data] 32)).alloc (.cells #[.int .i64 0, .int .u32 f2, .int .u32 f3, .int .u32 0, .int .i64 f5, .int .i64 f6, .bool f7, .int .i64 f8] 63)).rd
  obtain ⟨c0, c1, c2, c3, c4, c5, c6, c7⟩ := hR _ hF1.out
  have HLEN := Lib.hid hv.rd.1
  have hV : ∀ w', Below (w.heap.size + 2) ((w.alloc (.cells #[.int .i64 (k : Int), .int .i64 sq, .int .u32 n, .int .u32 ps, .int .u32 mr, .slice a n0 cap, .bool self, .string data] 32)).alloc (.cells #[.int .i64 0, .int .u32 f2, .int .u32 f3, .int .u32 0, .int .i64 f5, .int .i64 f6, .bool f7, .int .i64 f8] 63)) w' → RdI .u32 w' a n0 list := fun w' hb => hv0.below (by simpa using hb)
  have HV := Lib.hid hV
  have hK : ∀ w', Below (w.heap.size + 2) ((w.alloc (.cells #[.int .i64 (k : Int), .int .i64 sq, .int .u32 n, .int .u32 ps, .int .u32 mr, .slice a n0 cap, .bool self, .string data] 32)).alloc (.cells #[.int .i64 0, .int .u32 f2, .int .u32 f3, .int .u32 0, .int .i64 f5, .int .i64 f6, .bool f7, .int .i64 f8] 63)) w' →
      w'.cell? ⟨w.heap.size, 1, none⟩ = some (.int .i64 sq) ∧ w'.cell? ⟨w.heap.size, 3, none⟩ = some (.int .u32 ps) ∧ w'.cell? ⟨w.heap.size, 4, none⟩ = some (.int .u32 mr) ∧ w'.cell? ⟨w.heap.size, 5, none⟩ = some (.slice a n0 cap) ∧
      w'.cell? ⟨w.heap.size + 1, 0, none⟩ = some (.int .i64 0) ∧ w'.cell? ⟨w.heap.size + 1, 2, none⟩ = some (.int .u32 f3) ∧ w'.cell? ⟨w.heap.size + 1, 3, none⟩ = some (.int .u32 0) := by
    intro w' hb
    have hg1 := (hb.block w.heap.size (by omega)).trans (heap_alloc2_old w (.cells #[.int .i64 (k : Int), .int .i64 sq, .int .u32 n, .int .u32 ps, .int .u32 mr, .slice a n0 cap, .bool self, .string data] 32) (.cells #[.int .i64 0, .int .u32 f2, .int .u32 f3, .int .u32 0, .int .i64 f5, .int .i64 f6, .bool f7, .int .i64 f8] 63))
    have hg2 := (hb.block (w.heap.size + 1) (by omega)).trans (heap_alloc2_new w (.cells #[.int .i64 (k : Int), .int .i64 sq, .int .u32 n, .int .u32 ps, .int .u32 mr, .slice a n0 cap, .bool self, .string data] 32) (.cells #[.int .i64 0, .int .u32 f2, .int .u32 f3, .int .u32 0, .int .i64 f5, .int .i64 f6, .bool f7, .int .i64 f8] 63))
    exact ⟨Go.Joins.cell_of_block hg1 1, Go.Joins.cell_of_block hg1 3, Go.Joins.cell_of_block hg1 4, Go.Joins.cell_of_block hg1 5, Go.Joins.cell_of_block hg2 0, Go.Joins.cell_of_block hg2 2, Go.Joins.cell_of_block hg2 3⟩
  have HK := Lib.hid hK
  have hb00 : Below (w.heap.size + 2) ((w.alloc (.cells #[.int .i64 (k : Int), .int .i64 sq, .int .u32 n, .int .u32 ps, .int .u32 mr, .slice a n0 cap, .bool self, .string data] 32)).alloc (.cells #[.int .i64 0, .int .u32 f2, .int .u32 f3, .int .u32 0, .int .i64 f5, .int .i64 f6, .bool f7, .int .i64 f8] 63)) ((w.alloc (.cells #[.int .i64 (k : Int), .int .i64 sq, .int .u32 n, .int .u32 ps, .int .u32 mr, .slice a n0 cap, .bool self, .string data] 32)).alloc (.cells #[.int .i64 0, .int .u32 f2, .int .u32 f3, .int .u32 0, .int .i64 f5, .int .i64 f6, .bool f7, .int .i64 f8] 63)) := Below.refl _ _
  have HB00 := Lib.hid hb00
  have hb0 : Below w.heap.size w ((w.alloc (.cells #[.int .i64 (k : Int), .int .i64 sq, .int .u32 n, .int .u32 ps, .int .u32 mr, .slice a n0 cap, .bool self, .string data] 32)).alloc (.cells #[.int .i64 0, .int .u32 f2, .int .u32 f3, .int .u32 0, .int .i64 f5, .int .i64 f6, .bool f7, .int .i64 f8] 63)) := ((Below.refl w.heap.size w).alloc (Nat.le_refl _) _).alloc (by simp) _
  have HB0 := Lib.hid hb0
  clear hv hF hR hv0 hV hK hb00 hb0
  go_enter Tryd.func24, Tryd.ntmps24
  go_wp2_with fail
  clear c0 c1 c2 c3 c4 c5 c6 c7 hF1
  go_loopw [4, 23] (fun v i wr => ∃ j : Nat, j ≤ n0 ∧ i = .int .i64 j ∧ OwnI .u32 25 wr (w.heap.size + 2) v (list.take j) ∧ Below (w.heap.size + 2) ((w.alloc (.cells #[.int .i64 (k : Int), .int .i64 sq, .int .u32 n, .int .u32 ps, .int .u32 mr, .slice a n0 cap, .bool self, .string data] 32)).alloc (.cells #[.int .i64 0, .int .u32 f2, .int .u32 f3, .int .u32 0, .int .i64 f5, .int .i64 f6, .bool f7, .int .i64 f8] 63)) wr) (fun _ i _ => n0 - (intOf i).toNat)
  case atStart => exact ⟨0, by omega, rfl, OwnI.nil, HB00.out⟩
  case round =>
    obtain ⟨j, hj, rfl, hown, hb⟩ := hrel
    have hsr : w.heap.size + 2 ≤ wr.heap.size := Nat.le_trans (by simp) hb.size
    by_cases hlt : j < n0
    · obtain ⟨b, off, rfl, hblt, hc⟩ := (HV.out wr hb).at_ hlt
      obtain ⟨x, hx⟩ : ∃ x, list.getD j 0 = x := ⟨_, rfl⟩
      rw [hx] at hc
      have HX := Lib.hid hx
      clear hx
      go_wp2_with (at_builtin; refine wpList_appI infoW (by decide) rfl (.tmp 27) (.tmp 29) 68 rfl Tryd.underlying68 (w.heap.size + 2) _ _ rfl (OwnI.below hown ((Below.refl _ _).alloc (Nat.le_refl _) _)) _ 1 1 [x] rfl (rdI_lit1_at _ _ _ _ _ (by simp)) (fun h => by cases h) (by have := HLEN.out; simp <;> omega) (by simp <;> omega) ?_)
      intro v' w1 hown' hgrow
      have hb2 := own_grown (hb.alloc hsr _) (by simp <;> omega) hgrow (own_below hown ((Below.refl _ _).alloc (Nat.le_refl _) _))
      have hown2 : OwnI .u32 25 w1 (w.heap.size + 2) v' (list.take (j + 1)) := by rw [take_succ' list 0 j (by have := HLEN.out; omega), HX.out]; simpa using hown'
      clear hgrow hown hown' hb hc
      go_wp2_with fail
      go_roundw
      case rel => exact ⟨j + 1, by omega, by go_num, hown2, hb2⟩
      case measure => simp [intOf]; omega
    · have hjn : n0 = j := by omega
      subst hjn
      rw [List.take_of_length_le (by have := HLEN.out; omega)] at hown
      obtain ⟨p1, p3, p4, p5, q0, q2, q3⟩ := HK.out _ hb
      have hbF := HB0.out.trans (hb.mono (by omega))
      go_wp2_with (at_builtin; refine wpList_appI infoW (by decide) rfl (.tmp 35) (.tmp 38) 68 rfl Tryd.underlying68 (w.heap.size + 2) _ _ rfl (OwnI.below hown ((Below.refl _ _).alloc (Nat.le_refl _) _)) _ 1 1 [ps] rfl (rdI_lit1_at _ _ _ _ _ (by simp)) (fun h => by cases h) (by have := HLEN.out; simp <;> omega) (by simp <;> omega) ?_)
      intro vP wP hownP hgrowP
      have hbP : Below (w.heap.size + 2) ((w.alloc (.cells #[.int .i64 (k : Int), .int .i64 sq, .int .u32 n, .int .u32 ps, .int .u32 mr, .slice a n0 cap, .bool self, .string data] 32)).alloc (.cells #[.int .i64 0, .int .u32 f2, .int .u32 f3, .int .u32 0, .int .i64 f5, .int .i64 f6, .bool f7, .int .i64 f8] 63)) wP := own_grown (hb.alloc hsr _) (by simp <;> omega) hgrowP (own_below hown ((Below.refl _ _).alloc (Nat.le_refl _) _))
      have hsP : w.heap.size + 2 ≤ wP.heap.size := Nat.le_trans (by simp) hbP.size
      obtain ⟨p1, p3, p4, p5, q0, q2, q3⟩ := HK.out _ hbP
      have hbF := HB0.out.trans (hbP.mono (by omega))
      have hfin := OwnI.lower (base' := w.heap.size) hownP (Nat.le_add_right _ 2)
      go_wp2_with fail
      go_ret
      exact ⟨_, rfl, by simpa using hfin, hbF⟩

set_option maxHeartbeats 1000000 in
theorem words_B (k n0 cap : Nat) (a : Option Addr) (f2 f3 f4 f5 f6 f8 : Int) (f7 : Bool) (sq n ps mr : Int) (list : List Int) (self : Bool) (data : ByteArray) (w : World) (hk : (k : Int) < 16)  (hp : 0 < f3) (hm : 0 < f4)
    (hR : ∀ w', Forms w' → w'.cell? ⟨0, k * 8, none⟩ = some (.int .i64 0) ∧ w'.cell? ⟨0, k * 8 + 1, none⟩ = some (.int .u32 f2) ∧ w'.cell? ⟨0, k * 8 + 2, none⟩ = some (.int .u32 f3) ∧ w'.cell? ⟨0, k * 8 + 3, none⟩ = some (.int .u32 f4) ∧ w'.cell? ⟨0, k * 8 + 4, none⟩ = some (.int .i64 f5) ∧ w'.cell? ⟨0, k * 8 + 5, none⟩ = some (.int .i64 f6) ∧ w'.cell? ⟨0, k * 8 + 6, none⟩ = some (.bool f7) ∧ w'.cell? ⟨0, k * 8 + 7, none⟩ = some (.int .i64 f8)) (hF : Forms w) (hv : Nums .u32 w (.slice a n0 cap) list) (hl : n0 ≤ 1000) :
    Calls Tryd.prog 24 #[.agg #[.int .i64 (k : Int), .int .i64 sq, .int .u32 n, .int .u32 ps, .int .u32 mr, .slice a n0 cap, .bool self, .string data]] w fun e w' => ∃ v, e = .returned v ∧ OwnI .u32 25 w' w.heap.size v (list ++ [ps] ++ [mr]) ∧ Below w.heap.size w w' := by
  have hF1 := Lib.hid (hF.alloc (.cells #[.int .i64 (k : Int), .int .i64 sq, .int .u32 n, .int .u32 ps, .int .u32 mr, .slice a n0 cap, .bool self, .string data] 32))
  have hv0 := ((hv.alloc (.cells #[.int .i64 (k : Int), .int .i64 sq, .int .u32 n, .int .u32 ps, .int .u32 mr, .slice a n0 cap, .bool self, .string data] 32)).alloc (.cells #[.int .i64 0, .int .u32 f2, .int .u32 f3, .int .u32 f4, .int .i64 f5, .int .i64 f6, .bool f7, .int .i64 f8] 63)).rd
  obtain ⟨c0, c1, c2, c3, c4, c5, c6, c7⟩ := hR _ hF1.out
  have HLEN := Lib.hid hv.rd.1
  have hV : ∀ w', Below (w.heap.size + 2) ((w.alloc (.cells #[.int .i64 (k : Int), .int .i64 sq, .int .u32 n, .int .u32 ps, .int .u32 mr, .slice a n0 cap, .bool self, .string data] 32)).alloc (.cells #[.int .i64 0, .int .u32 f2, .int .u32 f3, .int .u32 f4, .int .i64 f5, .int .i64 f6, .bool f7, .int .i64 f8] 63)) w' → RdI .u32 w' a n0 list := fun w' hb => hv0.below (by simpa using hb)
  have HV := Lib.hid hV
  have hK : ∀ w', Below (w.heap.size + 2) ((w.alloc (.cells #[.int .i64 (k : Int), .int .i64 sq, .int .u32 n, .int .u32 ps, .int .u32 mr, .slice a n0 cap, .bool self, .string data] 32)).alloc (.cells #[.int .i64 0, .int .u32 f2, .int .u32 f3, .int .u32 f4, .int .i64 f5, .int .i64 f6, .bool f7, .int .i64 f8] 63)) w' →
      w'.cell? ⟨w.heap.size, 1, none⟩ = some (.int .i64 sq) ∧ w'.cell? ⟨w.heap.size, 3, none⟩ = some (.int .u32 ps) ∧ w'.cell? ⟨w.heap.size, 4, none⟩ = some (.int .u32 mr) ∧ w'.cell? ⟨w.heap.size, 5, none⟩ = some (.slice a n0 cap) ∧
      w'.cell? ⟨w.heap.size + 1, 0, none⟩ = some (.int .i64 0) ∧ w'.cell? ⟨w.heap.size + 1, 2, none⟩ = some (.int .u32 f3) ∧ w'.cell? ⟨w.heap.size + 1, 3, none⟩ = some (.int .u32 f4) := by
    intro w' hb
    have hg1 := (hb.block w.heap.size (by omega)).trans (heap_alloc2_old w (.cells #[.int .i64 (k : Int), .int .i64 sq, .int .u32 n, .int .u32 ps, .int .u32 mr, .slice a n0 cap, .bool self, .string data] 32) (.cells #[.int .i64 0, .int .u32 f2, .int .u32 f3, .int .u32 f4, .int .i64 f5, .int .i64 f6, .bool f7, .int .i64 f8] 63))
    have hg2 := (hb.block (w.heap.size + 1) (by omega)).trans (heap_alloc2_new w (.cells #[.int .i64 (k : Int), .int .i64 sq, .int .u32 n, .int .u32 ps, .int .u32 mr, .slice a n0 cap, .bool self, .string data] 32) (.cells #[.int .i64 0, .int .u32 f2, .int .u32 f3, .int .u32 f4, .int .i64 f5, .int .i64 f6, .bool f7, .int .i64 f8] 63))
    exact ⟨Go.Joins.cell_of_block hg1 1, Go.Joins.cell_of_block hg1 3, Go.Joins.cell_of_block hg1 4, Go.Joins.cell_of_block hg1 5, Go.Joins.cell_of_block hg2 0, Go.Joins.cell_of_block hg2 2, Go.Joins.cell_of_block hg2 3⟩
  have HK := Lib.hid hK
  have hb00 : Below (w.heap.size + 2) ((w.alloc (.cells #[.int .i64 (k : Int), .int .i64 sq, .int .u32 n, .int .u32 ps, .int .u32 mr, .slice a n0 cap, .bool self, .string data] 32)).alloc (.cells #[.int .i64 0, .int .u32 f2, .int .u32 f3, .int .u32 f4, .int .i64 f5, .int .i64 f6, .bool f7, .int .i64 f8] 63)) ((w.alloc (.cells #[.int .i64 (k : Int), .int .i64 sq, .int .u32 n, .int .u32 ps, .int .u32 mr, .slice a n0 cap, .bool self, .string data] 32)).alloc (.cells #[.int .i64 0, .int .u32 f2, .int .u32 f3, .int .u32 f4, .int .i64 f5, .int .i64 f6, .bool f7, .int .i64 f8] 63)) := Below.refl _ _
  have HB00 := Lib.hid hb00
  have hb0 : Below w.heap.size w ((w.alloc (.cells #[.int .i64 (k : Int), .int .i64 sq, .int .u32 n, .int .u32 ps, .int .u32 mr, .slice a n0 cap, .bool self, .string data] 32)).alloc (.cells #[.int .i64 0, .int .u32 f2, .int .u32 f3, .int .u32 f4, .int .i64 f5, .int .i64 f6, .bool f7, .int .i64 f8] 63)) := ((Below.refl w.heap.size w).alloc (Nat.le_refl _) _).alloc (by simp) _
  have HB0 := Lib.hid hb0
  clear hv hF hR hv0 hV hK hb00 hb0
  go_enter Tryd.func24, Tryd.ntmps24
  go_wp2_with fail
  clear c0 c1 c2 c3 c4 c5 c6 c7 hF1
  go_loopw [4, 23] (fun v i wr => ∃ j : Nat, j ≤ n0 ∧ i = .int .i64 j ∧ OwnI .u32 25 wr (w.heap.size + 2) v (list.take j) ∧ Below (w.heap.size + 2) ((w.alloc (.cells #[.int .i64 (k : Int), .int .i64 sq, .int .u32 n, .int .u32 ps, .int .u32 mr, .slice a n0 cap, .bool self, .string data] 32)).alloc (.cells #[.int .i64 0, .int .u32 f2, .int .u32 f3, .int .u32 f4, .int .i64 f5, .int .i64 f6, .bool f7, .int .i64 f8] 63)) wr) (fun _ i _ => n0 - (intOf i).toNat)
  case atStart => exact ⟨0, by omega, rfl, OwnI.nil, HB00.out⟩
  case round =>
    obtain ⟨j, hj, rfl, hown, hb⟩ := hrel
    have hsr : w.heap.size + 2 ≤ wr.heap.size := Nat.le_trans (by simp) hb.size
    by_cases hlt : j < n0
    · obtain ⟨b, off, rfl, hblt, hc⟩ := (HV.out wr hb).at_ hlt
      obtain ⟨x, hx⟩ : ∃ x, list.getD j 0 = x := ⟨_, rfl⟩
      rw [hx] at hc
      have HX := Lib.hid hx
      clear hx
      go_wp2_with (at_builtin; refine wpList_appI infoW (by decide) rfl (.tmp 27) (.tmp 29) 68 rfl Tryd.underlying68 (w.heap.size + 2) _ _ rfl (OwnI.below hown ((Below.refl _ _).alloc (Nat.le_refl _) _)) _ 1 1 [x] rfl (rdI_lit1_at _ _ _ _ _ (by simp)) (fun h => by cases h) (by have := HLEN.out; simp <;> omega) (by simp <;> omega) ?_)
      intro v' w1 hown' hgrow
      have hb2 := own_grown (hb.alloc hsr _) (by simp <;> omega) hgrow (own_below hown ((Below.refl _ _).alloc (Nat.le_refl _) _))
      have hown2 : OwnI .u32 25 w1 (w.heap.size + 2) v' (list.take (j + 1)) := by rw [take_succ' list 0 j (by have := HLEN.out; omega), HX.out]; simpa using hown'
      clear hgrow hown hown' hb hc
      go_wp2_with fail
      go_roundw
      case rel => exact ⟨j + 1, by omega, by go_num, hown2, hb2⟩
      case measure => simp [intOf]; omega
    · have hjn : n0 = j := by omega
      subst hjn
      rw [List.take_of_length_le (by have := HLEN.out; omega)] at hown
      obtain ⟨p1, p3, p4, p5, q0, q2, q3⟩ := HK.out _ hb
      have hbF := HB0.out.trans (hb.mono (by omega))
      go_wp2_with (at_builtin; refine wpList_appI infoW (by decide) rfl (.tmp 35) (.tmp 38) 68 rfl Tryd.underlying68 (w.heap.size + 2) _ _ rfl (OwnI.below hown ((Below.refl _ _).alloc (Nat.le_refl _) _)) _ 1 1 [ps] rfl (rdI_lit1_at _ _ _ _ _ (by simp)) (fun h => by cases h) (by have := HLEN.out; simp <;> omega) (by simp <;> omega) ?_)
      intro vP wP hownP hgrowP
      have hbP : Below (w.heap.size + 2) ((w.alloc (.cells #[.int .i64 (k : Int), .int .i64 sq, .int .u32 n, .int .u32 ps, .int .u32 mr, .slice a n0 cap, .bool self, .string data] 32)).alloc (.cells #[.int .i64 0, .int .u32 f2, .int .u32 f3, .int .u32 f4, .int .i64 f5, .int .i64 f6, .bool f7, .int .i64 f8] 63)) wP := own_grown (hb.alloc hsr _) (by simp <;> omega) hgrowP (own_below hown ((Below.refl _ _).alloc (Nat.le_refl _) _))
      have hsP : w.heap.size + 2 ≤ wP.heap.size := Nat.le_trans (by simp) hbP.size
      obtain ⟨p1, p3, p4, p5, q0, q2, q3⟩ := HK.out _ hbP
      have hbF := HB0.out.trans (hbP.mono (by omega))
      go_wp2_with (at_builtin; refine wpList_appI infoW (by decide) rfl (.tmp 43) (.tmp 46) 68 rfl Tryd.underlying68 (w.heap.size + 2) _ _ rfl (OwnI.below hownP ((Below.refl _ _).alloc (Nat.le_refl _) _)) _ 1 1 [mr] rfl (rdI_lit1_at _ _ _ _ _ (by simp)) (fun h => by cases h) (by have := HLEN.out; simp <;> omega) (by simp <;> omega) ?_)
      intro vM wM hownM hgrowM
      have hbM : Below (w.heap.size + 2) ((w.alloc (.cells #[.int .i64 (k : Int), .int .i64 sq, .int .u32 n, .int .u32 ps, .int .u32 mr, .slice a n0 cap, .bool self, .string data] 32)).alloc (.cells #[.int .i64 0, .int .u32 f2, .int .u32 f3, .int .u32 f4, .int .i64 f5, .int .i64 f6, .bool f7, .int .i64 f8] 63)) wM := own_grown (hbP.alloc hsP _) (by simp <;> omega) hgrowM (own_below hownP ((Below.refl _ _).alloc (Nat.le_refl _) _))
      have hsM : w.heap.size + 2 ≤ wM.heap.size := Nat.le_trans (by simp) hbM.size
      obtain ⟨p1, p3, p4, p5, q0, q2, q3⟩ := HK.out _ hbM
      have hbF := HB0.out.trans (hbM.mono (by omega))
      have hfin := OwnI.lower (base' := w.heap.size) hownM (Nat.le_add_right _ 2)
      go_wp2_with fail
      go_ret
      exact ⟨_, rfl, by simpa using hfin, hbF⟩

set_option maxHeartbeats 1000000 in
theorem words_M (k n0 cap : Nat) (a : Option Addr) (f2 f4 f5 f6 f8 : Int) (f7 : Bool) (sq n ps mr : Int) (list : List Int) (self : Bool) (data : ByteArray) (w : World) (hk : (k : Int) < 16)   (hm : 0 < f4)
    (hR : ∀ w', Forms w' → w'.cell? ⟨0, k * 8, none⟩ = some (.int .i64 0) ∧ w'.cell? ⟨0, k * 8 + 1, none⟩ = some (.int .u32 f2) ∧ w'.cell? ⟨0, k * 8 + 2, none⟩ = some (.int .u32 0) ∧ w'.cell? ⟨0, k * 8 + 3, none⟩ = some (.int .u32 f4) ∧ w'.cell? ⟨0, k * 8 + 4, none⟩ = some (.int .i64 f5) ∧ w'.cell? ⟨0, k * 8 + 5, none⟩ = some (.int .i64 f6) ∧ w'.cell? ⟨0, k * 8 + 6, none⟩ = some (.bool f7) ∧ w'.cell? ⟨0, k * 8 + 7, none⟩ = some (.int .i64 f8)) (hF : Forms w) (hv : Nums .u32 w (.slice a n0 cap) list) (hl : n0 ≤ 1000) :
    Calls Tryd.prog 24 #[.agg #[.int .i64 (k : Int), .int .i64 sq, .int .u32 n, .int .u32 ps, .int .u32 mr, .slice a n0 cap, .bool self, .string data]] w fun e w' => ∃ v, e = .returned v ∧ OwnI .u32 25 w' w.heap.size v (list ++ [mr]) ∧ Below w.heap.size w w' := by
  have hF1 := Lib.hid (hF.alloc (.cells #[.int .i64 (k : Int), .int .i64 sq, .int .u32 n, .int .u32 ps, .int .u32 mr, .slice a n0 cap, .bool self, .string data] 32))
  have hv0 := ((hv.alloc (.cells #[.int .i64 (k : Int), .int .i64 sq, .int .u32 n, .int .u32 ps, .int .u32 mr, .slice a n0 cap, .bool self, .string data] 32)).alloc (.cells #[.int .i64 0, .int .u32 f2, .int .u32 0, .int .u32 f4, .int .i64 f5, .int .i64 f6, .bool f7, .int .i64 f8] 63)).rd
  obtain ⟨c0, c1, c2, c3, c4, c5, c6, c7⟩ := hR _ hF1.out
  have HLEN := Lib.hid hv.rd.1
  have hV : ∀ w', Below (w.heap.size + 2) ((w.alloc (.cells #[.int .i64 (k : Int), .int .i64 sq, .int .u32 n, .int .u32 ps, .int .u32 mr, .slice a n0 cap, .bool self, .string data] 32)).alloc (.cells #[.int .i64 0, .int .u32 f2, .int .u32 0, .int .u32 f4, .int .i64 f5, .int .i64 f6, .bool f7, .int .i64 f8] 63)) w' → RdI .u32 w' a n0 list := fun w' hb => hv0.below (by simpa using hb)
  have HV := Lib.hid hV
  have hK : ∀ w', Below (w.heap.size + 2) ((w.alloc (.cells #[.int .i64 (k : Int), .int .i64 sq, .int .u32 n, .int .u32 ps, .int .u32 mr, .slice a n0 cap, .bool self, .string data] 32)).alloc (.cells #[.int .i64 0, .int .u32 f2, .int .u32 0, .int .u32 f4, .int .i64 f5, .int .i64 f6, .bool f7, .int .i64 f8] 63)) w' →
      w'.cell? ⟨w.heap.size, 1, none⟩ = some (.int .i64 sq) ∧ w'.cell? ⟨w.heap.size, 3, none⟩ = some (.int .u32 ps) ∧ w'.cell? ⟨w.heap.size, 4, none⟩ = some (.int .u32 mr) ∧ w'.cell? ⟨w.heap.size, 5, none⟩ = some (.slice a n0 cap) ∧
      w'.cell? ⟨w.heap.size + 1, 0, none⟩ = some (.int .i64 0) ∧ w'.cell? ⟨w.heap.size + 1, 2, none⟩ = some (.int .u32 0) ∧ w'.cell? ⟨w.heap.size + 1, 3, none⟩ = some (.int .u32 f4) := by
    intro w' hb
    have hg1 := (hb.block w.heap.size (by omega)).trans (heap_alloc2_old w (.cells #[.int .i64 (k : Int), .int .i64 sq, .int .u32 n, .int .u32 ps, .int .u32 mr, .slice a n0 cap, .bool self, .string data] 32) (.cells #[.int .i64 0, .int .u32 f2, .int .u32 0, .int .u32 f4, .int .i64 f5, .int .i64 f6, .bool f7, .int .i64 f8] 63))
    have hg2 := (hb.block (w.heap.size + 1) (by omega)).trans (heap_alloc2_new w (.cells #[.int .i64 (k : Int), .int .i64 sq, .int .u32 n, .int .u32 ps, .int .u32 mr, .slice a n0 cap, .bool self, .string data] 32) (.cells #[.int .i64 0, .int .u32 f2, .int .u32 0, .int .u32 f4, .int .i64 f5, .int .i64 f6, .bool f7, .int .i64 f8] 63))
    exact ⟨Go.Joins.cell_of_block hg1 1, Go.Joins.cell_of_block hg1 3, Go.Joins.cell_of_block hg1 4, Go.Joins.cell_of_block hg1 5, Go.Joins.cell_of_block hg2 0, Go.Joins.cell_of_block hg2 2, Go.Joins.cell_of_block hg2 3⟩
  have HK := Lib.hid hK
  have hb00 : Below (w.heap.size + 2) ((w.alloc (.cells #[.int .i64 (k : Int), .int .i64 sq, .int .u32 n, .int .u32 ps, .int .u32 mr, .slice a n0 cap, .bool self, .string data] 32)).alloc (.cells #[.int .i64 0, .int .u32 f2, .int .u32 0, .int .u32 f4, .int .i64 f5, .int .i64 f6, .bool f7, .int .i64 f8] 63)) ((w.alloc (.cells #[.int .i64 (k : Int), .int .i64 sq, .int .u32 n, .int .u32 ps, .int .u32 mr, .slice a n0 cap, .bool self, .string data] 32)).alloc (.cells #[.int .i64 0, .int .u32 f2, .int .u32 0, .int .u32 f4, .int .i64 f5, .int .i64 f6, .bool f7, .int .i64 f8] 63)) := Below.refl _ _
  have HB00 := Lib.hid hb00
  have hb0 : Below w.heap.size w ((w.alloc (.cells #[.int .i64 (k : Int), .int .i64 sq, .int .u32 n, .int .u32 ps, .int .u32 mr, .slice a n0 cap, .bool self, .string data] 32)).alloc (.cells #[.int .i64 0, .int .u32 f2, .int .u32 0, .int .u32 f4, .int .i64 f5, .int .i64 f6, .bool f7, .int .i64 f8] 63)) := ((Below.refl w.heap.size w).alloc (Nat.le_refl _) _).alloc (by simp) _
  have HB0 := Lib.hid hb0
  clear hv hF hR hv0 hV hK hb00 hb0
  go_enter Tryd.func24, Tryd.ntmps24
  go_wp2_with fail
  clear c0 c1 c2 c3 c4 c5 c6 c7 hF1
  go_loopw [4, 23] (fun v i wr => ∃ j : Nat, j ≤ n0 ∧ i = .int .i64 j ∧ OwnI .u32 25 wr (w.heap.size + 2) v (list.take j) ∧ Below (w.heap.size + 2) ((w.alloc (.cells #[.int .i64 (k : Int), .int .i64 sq, .int .u32 n, .int .u32 ps, .int .u32 mr, .slice a n0 cap, .bool self, .string data] 32)).alloc (.cells #[.int .i64 0, .int .u32 f2, .int .u32 0, .int .u32 f4, .int .i64 f5, .int .i64 f6, .bool f7, .int .i64 f8] 63)) wr) (fun _ i _ => n0 - (intOf i).toNat)
  case atStart => exact ⟨0, by omega, rfl, OwnI.nil, HB00.out⟩
  case round =>
    obtain ⟨j, hj, rfl, hown, hb⟩ := hrel
    have hsr : w.heap.size + 2 ≤ wr.heap.size := Nat.le_trans (by simp) hb.size
    by_cases hlt : j < n0
    · obtain ⟨b, off, rfl, hblt, hc⟩ := (HV.out wr hb).at_ hlt
      obtain ⟨x, hx⟩ : ∃ x, list.getD j 0 = x := ⟨_, rfl⟩
      rw [hx] at hc
      have HX := Lib.hid hx
      clear hx
      go_wp2_with (at_builtin; refine wpList_appI infoW (by decide) rfl (.tmp 27) (.tmp 29) 68 rfl Tryd.underlying68 (w.heap.size + 2) _ _ rfl (OwnI.below hown ((Below.refl _ _).alloc (Nat.le_refl _) _)) _ 1 1 [x] rfl (rdI_lit1_at _ _ _ _ _ (by simp)) (fun h => by cases h) (by have := HLEN.out; simp <;> omega) (by simp <;> omega) ?_)
      intro v' w1 hown' hgrow
      have hb2 := own_grown (hb.alloc hsr _) (by simp <;> omega) hgrow (own_below hown ((Below.refl _ _).alloc (Nat.le_refl _) _))
      have hown2 : OwnI .u32 25 w1 (w.heap.size + 2) v' (list.take (j + 1)) := by rw [take_succ' list 0 j (by have := HLEN.out; omega), HX.out]; simpa using hown'
      clear hgrow hown hown' hb hc
      go_wp2_with fail
      go_roundw
      case rel => exact ⟨j + 1, by omega, by go_num, hown2, hb2⟩
      case measure => simp [intOf]; omega
    · have hjn : n0 = j := by omega
      subst hjn
      rw [List.take_of_length_le (by have := HLEN.out; omega)] at hown
      obtain ⟨p1, p3, p4, p5, q0, q2, q3⟩ := HK.out _ hb
      have hbF := HB0.out.trans (hb.mono (by omega))
      go_wp2_with (at_builtin; refine wpList_appI infoW (by decide) rfl (.tmp 43) (.tmp 46) 68 rfl Tryd.underlying68 (w.heap.size + 2) _ _ rfl (OwnI.below hown ((Below.refl _ _).alloc (Nat.le_refl _) _)) _ 1 1 [mr] rfl (rdI_lit1_at _ _ _ _ _ (by simp)) (fun h => by cases h) (by have := HLEN.out; simp <;> omega) (by simp <;> omega) ?_)
      intro vM wM hownM hgrowM
      have hbM : Below (w.heap.size + 2) ((w.alloc (.cells #[.int .i64 (k : Int), .int .i64 sq, .int .u32 n, .int .u32 ps, .int .u32 mr, .slice a n0 cap, .bool self, .string data] 32)).alloc (.cells #[.int .i64 0, .int .u32 f2, .int .u32 0, .int .u32 f4, .int .i64 f5, .int .i64 f6, .bool f7, .int .i64 f8] 63)) wM := own_grown (hb.alloc hsr _) (by simp <;> omega) hgrowM (own_below hown ((Below.refl _ _).alloc (Nat.le_refl _) _))
      have hsM : w.heap.size + 2 ≤ wM.heap.size := Nat.le_trans (by simp) hbM.size
      obtain ⟨p1, p3, p4, p5, q0, q2, q3⟩ := HK.out _ hbM
      have hbF := HB0.out.trans (hbM.mono (by omega))
      have hfin := OwnI.lower (base' := w.heap.size) hownM (Nat.le_add_right _ 2)
      go_wp2_with fail
      go_ret
      exact ⟨_, rfl, by simpa using hfin, hbF⟩

theorem words_any (u : U) (k : Nat) (lv : Value) (w : World) (hku : u.kind = (k : Int)) (hk1 : 1 ≤ k) (hk2 : k ≤ 15) (hs1 : 0 ≤ u.sq) (hs2 : u.sq ≤ 255) (hF : Forms w) (hv : Nums .u32 w lv u.list) (hl : u.list.length ≤ 1000) :
    Calls Tryd.prog 24 #[u.val .u32 lv] w fun e w' => ∃ v, e = .returned v ∧ OwnI .u32 25 w' w.heap.size v (wordsL (formOf k) u) ∧ Below w.heap.size w w' := by
  obtain ⟨kind, sq, n, ps, mr, list, self, data⟩ := u
  simp only [U.val, wordsL] at *
  subst hku
  obtain ⟨a, cap, rfl, h1, h2, h3⟩ := hv
  have hv : Nums .u32 w (.slice a list.length cap) list := ⟨a, cap, rfl, h1, h2, h3⟩
  match k, hk1, hk2 with
  | 1, _, _ => exact (words_S 1 _ cap a _ _ _ _ _ _ sq n ps mr list self data w (by decide) (by decide) hs1 hs2 (fun w' h => h.row 1 (by decide)) hF hv hl).mono fun e w' ⟨v, he, ho, hb⟩ => ⟨v, he, by simpa [formOf, top] using ho, hb⟩
  | 2, _, _ => exact (words_S 2 _ cap a _ _ _ _ _ _ sq n ps mr list self data w (by decide) (by decide) hs1 hs2 (fun w' h => h.row 2 (by decide)) hF hv hl).mono fun e w' ⟨v, he, ho, hb⟩ => ⟨v, he, by simpa [formOf, top] using ho, hb⟩
  | 3, _, _ => exact (words_S 3 _ cap a _ _ _ _ _ _ sq n ps mr list self data w (by decide) (by decide) hs1 hs2 (fun w' h => h.row 3 (by decide)) hF hv hl).mono fun e w' ⟨v, he, ho, hb⟩ => ⟨v, he, by simpa [formOf, top] using ho, hb⟩
  | 4, _, _ => exact (words_S 4 _ cap a _ _ _ _ _ _ sq n ps mr list self data w (by decide) (by decide) hs1 hs2 (fun w' h => h.row 4 (by decide)) hF hv hl).mono fun e w' ⟨v, he, ho, hb⟩ => ⟨v, he, by simpa [formOf, top] using ho, hb⟩
  | 5, _, _ => exact (words_S 5 _ cap a _ _ _ _ _ _ sq n ps mr list self data w (by decide) (by decide) hs1 hs2 (fun w' h => h.row 5 (by decide)) hF hv hl).mono fun e w' ⟨v, he, ho, hb⟩ => ⟨v, he, by simpa [formOf, top] using ho, hb⟩
  | 6, _, _ => exact (words_S 6 _ cap a _ _ _ _ _ _ sq n ps mr list self data w (by decide) (by decide) hs1 hs2 (fun w' h => h.row 6 (by decide)) hF hv hl).mono fun e w' ⟨v, he, ho, hb⟩ => ⟨v, he, by simpa [formOf, top] using ho, hb⟩
  | 7, _, _ => exact (words_S 7 _ cap a _ _ _ _ _ _ sq n ps mr list self data w (by decide) (by decide) hs1 hs2 (fun w' h => h.row 7 (by decide)) hF hv hl).mono fun e w' ⟨v, he, ho, hb⟩ => ⟨v, he, by simpa [formOf, top] using ho, hb⟩
  | 8, _, _ => exact (words_O 8 _ cap a _ _ _ _ _ sq n ps mr list self data w (by decide)  (fun w' h => h.row 8 (by decide)) hF hv hl).mono fun e w' ⟨v, he, ho, hb⟩ => ⟨v, he, by simpa [formOf, top] using ho, hb⟩
  | 9, _, _ => exact (words_S 9 _ cap a _ _ _ _ _ _ sq n ps mr list self data w (by decide) (by decide) hs1 hs2 (fun w' h => h.row 9 (by decide)) hF hv hl).mono fun e w' ⟨v, he, ho, hb⟩ => ⟨v, he, by simpa [formOf, top] using ho, hb⟩
  | 10, _, _ => exact (words_P 10 _ cap a _ _ _ _ _ _ sq n ps mr list self data w (by decide) (by decide) (fun w' h => h.row 10 (by decide)) hF hv hl).mono fun e w' ⟨v, he, ho, hb⟩ => ⟨v, he, by simpa [formOf, top] using ho, hb⟩
  | 11, _, _ => exact (words_B 11 _ cap a _ _ _ _ _ _ _ sq n ps mr list self data w (by decide) (by decide) (by decide) (fun w' h => h.row 11 (by decide)) hF hv hl).mono fun e w' ⟨v, he, ho, hb⟩ => ⟨v, he, by simpa [formOf, top] using ho, hb⟩
  | 12, _, _ => exact (words_M 12 _ cap a _ _ _ _ _ _ sq n ps mr list self data w (by decide) (by decide) (fun w' h => h.row 12 (by decide)) hF hv hl).mono fun e w' ⟨v, he, ho, hb⟩ => ⟨v, he, by simpa [formOf, top] using ho, hb⟩
  | 13, _, _ => exact (words_O 13 _ cap a _ _ _ _ _ sq n ps mr list self data w (by decide)  (fun w' h => h.row 13 (by decide)) hF hv hl).mono fun e w' ⟨v, he, ho, hb⟩ => ⟨v, he, by simpa [formOf, top] using ho, hb⟩
  | 14, _, _ => exact (words_O 14 _ cap a _ _ _ _ _ sq n ps mr list self data w (by decide)  (fun w' h => h.row 14 (by decide)) hF hv hl).mono fun e w' ⟨v, he, ho, hb⟩ => ⟨v, he, by simpa [formOf, top] using ho, hb⟩
  | 15, _, _ => exact (words_S 15 _ cap a _ _ _ _ _ _ sq n ps mr list self data w (by decide) (by decide) hs1 hs2 (fun w' h => h.row 15 (by decide)) hF hv hl).mono fun e w' ⟨v, he, ho, hb⟩ => ⟨v, he, by simpa [formOf, top] using ho, hb⟩
  | k + 16, _, h => exact absurd h (by omega)


end Go.Proofs.YtaappdaolenkiaaDoor.Pdu
