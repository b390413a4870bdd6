/-
  Units as the laws make them: numbers from 0 on, few of them, short data.
-/
import Derived.Test.YtaappdaolenkiaaDoorPduRAt
import Derived.Test.YtaappdaolenkiaaDoorQuietTail
import Derived.Deep.RegionWith
import Derived.Deep.RegionHeld3
import Derived.Laws.ResultCell
import Derived.Deep.DeepCutAuto
namespace Go.Proofs.YtaappdaolenkiaaDoor.Pdu
open Go.ChangeShapes Go.WideShapes Go.RowKit Own

def clampU (x : Int) : Int := max 0 (min x 4294967295)
theorem clampU_bounds (x : Int) : 0 ≤ clampU x ∧ clampU x ≤ 4294967295 := by unfold clampU; omega
theorem in_any' (x : Int) (w : World) :
    Calls Tryd.prog 19 #[.int .i64 x] w fun e w' => e = .returned (.int .i64 (clampU x)) ∧ w = w' := by
  have h : clampU x = max 0 (min x 4294967295) := rfl
  have H := Lib.hid h
  clear h
  go_enter Tryd.func19, Tryd.ntmps19
  go_wp2_with fail
  all_goals go_ret
  all_goals exact ⟨ret_int (by have := H.out; omega), rfl⟩
theorem num_any (x : Int) (w : World) :
    Calls Tryd.prog 18 #[.int .i64 x] w fun e w' => e = .returned (.int .u32 (clampU x)) ∧ w = w' := by
  have h : clampU x = max 0 (min x 4294967295) := rfl
  have H := Lib.hid h
  clear h
  go_enter Tryd.func18, Tryd.ntmps18
  go_wp2_with fail
  all_goals go_ret
  all_goals exact ⟨ret_int (by have := H.out; omega), rfl⟩
def cutL (s : ByteArray) (n : Nat) : ByteArray := if n < s.size then s.extract 0 n else s
theorem cutL_le (s : ByteArray) (n : Nat) : (cutL s n).size ≤ n ∧ (cutL s n).size ≤ s.size := by
  unfold cutL
  split
  · rw [ByteArray.size_extract]; omega
  · omega
theorem cut_any (s : ByteArray) (n : Int) (k : Nat) (w : World) (hn : n = (k : Int)) :
    Calls Tryd.prog 20 #[.string s, .int .i64 n] w fun e w' => e = .returned (.string (cutL s k)) ∧ w = w' := by
  subst hn
  by_cases h : k < s.size
  · go_enter Tryd.func20, Tryd.ntmps20
    go_wp2_with fail
    go_ret
    refine ⟨?_, rfl⟩
    unfold cutL
    rw [if_pos h]
    rfl
  · go_enter Tryd.func20, Tryd.ntmps20
    go_wp2_with fail
    go_ret
    refine ⟨?_, rfl⟩
    unfold cutL
    rw [if_neg h]
    rfl

theorem own_setCell {κ : IntKind} {τ : TypeId} {w : World} {B : Nat} {v : Value} {L : List Int} {p : Addr} {u : Value} (h : OwnI κ τ w B v L) (hp : p.block < B) : OwnI κ τ (w.setCell p u) B v L := by
  refine ⟨h.1, ?_⟩
  rcases h.2 with hn | ⟨g, cap, cur, rfl, hg, hh, rest⟩
  · exact .inl hn
  · exact .inr ⟨g, cap, cur, rfl, hg, (heap_setCell_other _ _ _ _ (by omega)).trans hh, rest⟩
theorem own_setRow {κ : IntKind} {τ : TypeId} {w : World} {B : Nat} {v : Value} {L : List Int} {g : Nat} {cs : Array Value} (h : OwnI κ τ w B v L) (hp : g < B) : OwnI κ τ (w.setRow g cs) B v L := by
  refine ⟨h.1, ?_⟩
  rcases h.2 with hn | ⟨g', cap, cur, rfl, hg, hh, rest⟩
  · exact .inl hn
  · exact .inr ⟨g', cap, cur, rfl, hg, (by rw [setRow_other _ _ _ _ (by omega)]; exact hh), rest⟩
theorem info_ref : (Tryd.prog.info? 36).map (·.size) = some 8 := by kernel_rfl
theorem infoI : Info .i64 3 8 := by unfold Info; kernel_rfl
def fewL (L : List Int) : List Int := (L.take 140).map clampU
set_option maxHeartbeats 40000000 in
theorem few_any (kind sq n ps mr : Int) (a : Option Addr) (m cap : Nat) (L : List Int) (self : Bool) (data : ByteArray) (w : World) (hL : RdI .i64 w a m L) (hll : m ≤ 140737488351232) :
    Calls Tryd.prog 7 #[.agg #[.int .i64 kind, .int .i64 sq, .int .i64 n, .int .i64 ps, .int .i64 mr, .slice a m cap, .bool self, .string data]] w fun e w' =>
      ∃ lv, e = .returned (.agg (aggR kind sq (clampU n) (clampU ps) (clampU mr) lv self (cutL data 210))) ∧ OwnI .i64 3 w' w.heap.size lv (fewL L) ∧ Below w.heap.size w w' := by
  have H0 : Hid (RAt w (w.alloc (.cells (aggR kind sq n ps mr (.slice a m cap) self data) 36)) w.heap.size kind sq n ps mr a m cap L self data) := Lib.hid (RAt.new hL)
  obtain ⟨k0, k1, k2, k3, k4, k5, k6, k7⟩ := H0.out.cells
  have HL := Lib.hid hL
  clear hL
  go_enter Tryd.func7, Tryd.ntmps7
  go_upto_region 2 with (fail)
  generalize hWW : (w.alloc (.cells (aggR kind sq n ps mr (.slice a m cap) self data) 36)).alloc (.cells #[.int .i64 0, .int .i64 0, .int .i64 0, .int .i64 0, .int .i64 0, .slice none 0 0, .bool false, .string ⟨#[]⟩] 36) = WW at *
  have hal : Below (w.alloc (.cells (aggR kind sq n ps mr (.slice a m cap) self data) 36)).heap.size (w.alloc (.cells (aggR kind sq n ps mr (.slice a m cap) self data) 36)) WW := by rw [← hWW]; exact (Below.refl _ _).alloc (Nat.le_refl _) _
  have H1 := Lib.hid (H0.out.below hal)
  have HZ : Hid (WW.heap[w.heap.size + 1]? = some (.cells #[.int .i64 0, .int .i64 0, .int .i64 0, .int .i64 0, .int .i64 0, .slice none 0 0, .bool false, .string ⟨#[]⟩] 36 (0, 0))) := Lib.hid (by rw [← hWW]; exact heap_alloc2_new w _ _)
  clear hal hWW k0 k1 k2 k3 k4 k5 k6 k7
  obtain ⟨k0, k1, k2, k3, k4, k5, k6, k7⟩ := H1.out.cells
  have z2 : WW.frozen? ⟨w.heap.size, 2, none⟩ = false := frozen_of_row _ _ _ _ _ H1.out.blk
  have z3 : WW.frozen? ⟨w.heap.size, 3, none⟩ = false := frozen_of_row _ _ _ _ _ H1.out.blk
  have z4 : WW.frozen? ⟨w.heap.size, 4, none⟩ = false := frozen_of_row _ _ _ _ _ H1.out.blk
  have z7 : WW.frozen? ⟨w.heap.size, 7, none⟩ = false := frozen_of_row _ _ _ _ _ H1.out.blk
  generalize hgg : w.heap.size = g at *
  have HG := Lib.hid hgg
  clear hgg
  have hal1 : Below g w WW := H1.out.bel
  have hzero : WW.heap[g + 1]? = some (.cells #[.int .i64 0, .int .i64 0, .int .i64 0, .int .i64 0, .int .i64 0, .slice none 0 0, .bool false, .string ⟨#[]⟩] 36 (0, 0)) := HZ.out
  have hblk1 := H1.out.blk
  clear H0 H1
  refine QT.region_quiet_tail 16 (by kernel_rfl) (by decide) (by kernel_rfl) ?_
  simp only [List.take_succ_cons, List.take_zero, List.drop_succ_cons, List.drop_zero]
  repeat (go_big_quiet_step (first
    | exact Calls.quiet_of_same ((in_any' _ _).mono fun e w' ⟨he, hw⟩ => ⟨he, hw.symm⟩)
    | exact Calls.quiet_of_same ((cut_any _ _ 210 _ rfl).mono fun e w' ⟨he, hw⟩ => ⟨he, hw.symm⟩)))
  refine wpQuiet_nil ?_
  intro _ hw'
  obtain ⟨nq, rfl⟩ := hw'
  have hblk2 : (WW.drewN nq).heap[g]? = some (.cells (aggR kind sq n ps mr (.slice a m cap) self data) 36 (0, 0)) := hblk1
  have hz2 : (WW.drewN nq).heap[g + 1]? = _ := hzero
  have hal2 : Below g w (WW.drewN nq) := Own.below_drewN hal1 _
  clear hblk1 hzero hal1 HZ k0 k1 k2 k3 k4 k5 k6 k7 z2 z3 z4 z7
  generalize WW.drewN nq = WV at *
  clear WW nq
  have k2 : WV.cell? ⟨g, 2, none⟩ = some (.int .i64 n) := Go.Joins.cell_of_block hblk2 2
  have k3 : WV.cell? ⟨g, 3, none⟩ = some (.int .i64 ps) := Go.Joins.cell_of_block hblk2 3
  have k4 : WV.cell? ⟨g, 4, none⟩ = some (.int .i64 mr) := Go.Joins.cell_of_block hblk2 4
  have k7 : WV.cell? ⟨g, 7, none⟩ = some (.string data) := Go.Joins.cell_of_block hblk2 7
  have z2 : WV.frozen? ⟨g, 2, none⟩ = false := frozen_of_row _ _ _ _ _ hblk2
  have z3 : WV.frozen? ⟨g, 3, none⟩ = false := frozen_of_row _ _ _ _ _ hblk2
  have z4 : WV.frozen? ⟨g, 4, none⟩ = false := frozen_of_row _ _ _ _ _ hblk2
  have z7 : WV.frozen? ⟨g, 7, none⟩ = false := frozen_of_row _ _ _ _ _ hblk2
  go_wp2_with fail
  have hblkX : ((((WV.setCell ⟨g, 2, none⟩ (.int .i64 (clampU n))).setCell ⟨g, 3, none⟩ (.int .i64 (clampU ps))).setCell ⟨g, 4, none⟩ (.int .i64 (clampU mr))).setCell ⟨g, 7, none⟩ (.string (cutL data 210))).heap[g]? = some (.cells (aggR kind sq (clampU n) (clampU ps) (clampU mr) (.slice a m cap) self (cutL data 210)) 36 (0, 0)) := by
    simpa [aggR] using Go.Joins.block_setCell (i := 7) (Go.Joins.block_setCell (i := 4) (Go.Joins.block_setCell (i := 3) (Go.Joins.block_setCell (i := 2) hblk2 (.int .i64 (clampU n))) (.int .i64 (clampU ps))) (.int .i64 (clampU mr))) (.string (cutL data 210))
  have hzX : ((((WV.setCell ⟨g, 2, none⟩ (.int .i64 (clampU n))).setCell ⟨g, 3, none⟩ (.int .i64 (clampU ps))).setCell ⟨g, 4, none⟩ (.int .i64 (clampU mr))).setCell ⟨g, 7, none⟩ (.string (cutL data 210))).heap[g + 1]? = some (.cells #[.int .i64 0, .int .i64 0, .int .i64 0, .int .i64 0, .int .i64 0, .slice none 0 0, .bool false, .string ⟨#[]⟩] 36 (0, 0)) := by
    rw [heap_setCell_other _ _ _ _ (by simp), heap_setCell_other _ _ _ _ (by simp), heap_setCell_other _ _ _ _ (by simp), heap_setCell_other _ _ _ _ (by simp)]; exact hz2
  have halX : Below g w ((((WV.setCell ⟨g, 2, none⟩ (.int .i64 (clampU n))).setCell ⟨g, 3, none⟩ (.int .i64 (clampU ps))).setCell ⟨g, 4, none⟩ (.int .i64 (clampU mr))).setCell ⟨g, 7, none⟩ (.string (cutL data 210))) := (((hal2.setCell (Nat.le_refl _) _).setCell (Nat.le_refl _) _).setCell (Nat.le_refl _) _).setCell (Nat.le_refl _) _
  clear hblk2 hz2 hal2 k2 k3 k4 k7 z2 z3 z4 z7
  generalize (((WV.setCell ⟨g, 2, none⟩ (.int .i64 (clampU n))).setCell ⟨g, 3, none⟩ (.int .i64 (clampU ps))).setCell ⟨g, 4, none⟩ (.int .i64 (clampU mr))).setCell ⟨g, 7, none⟩ (.string (cutL data 210)) = WX at *
  clear WV
  have hsX : g + 2 ≤ WX.heap.size := by have := (Array.getElem?_eq_some_iff.1 hzX).1; omega
  obtain ⟨B, hB⟩ : ∃ B, WX.heap.size = B := ⟨_, rfl⟩
  have hml : m = L.length := HL.out.1
  have HML := Lib.hid hml
  have HAL := Lib.hid halX
  have HBX := Lib.hid hblkX
  have HZX := Lib.hid hzX
  have HBS := Lib.hid hB
  have hB2 : g + 2 ≤ B := by omega
  have HB2 := Lib.hid hB2
  have HMAX : Hid (m ≤ 140737488351232) := Lib.hid hll
  clear halX hblkX hzX hB hml hsX
  have hbelow0 : Below B WX WX := Below.refl _ _
  go_loopw [4, 5] (fun v i wr => ∃ k : Nat, k ≤ m ∧ k ≤ 140 ∧ i = .int .i64 k ∧ OwnI .i64 3 wr B v ((L.take k).map clampU) ∧ Below B WX wr) (fun _ i _ => m - (intOf i).toNat)
  case atStart => exact ⟨0, by omega, by omega, rfl, OwnI.nil, hbelow0⟩
  case round =>
    obtain ⟨k, hk, hk140, rfl, hown, hbr⟩ := hrel
    have hsr : B ≤ wr.heap.size := by have := hbr.size; have := HBS.out; omega
    have hblkr := (hbr.block g (by omega)).trans HBX.out
    have k5 : wr.cell? ⟨g, 5, none⟩ = some (.slice a m cap) := Go.Joins.cell_of_block hblkr 5
    have hrdr : RdI .i64 wr a m L := HL.out.below (by rw [HG.out]; exact HAL.out.trans (hbr.mono (by omega)))
    obtain ⟨av, nv, cv, rfl, _⟩ := hown.form
    by_cases hlt : k < m ∧ k < 140
    · obtain ⟨hlt, hl140⟩ := hlt
      obtain ⟨b, off, rfl, hblt, hc⟩ := hrdr.at_ hlt
      obtain ⟨x, hx⟩ : ∃ x, L.getD k 0 = x := ⟨_, rfl⟩
      rw [hx] at hc
      have HX := Lib.hid hx
      have HLT := Lib.hid hlt
      have hk2 : (k : Int) < 140 := by omega
      have hk3 : (k : Int) < (m : Int) := by omega
      have HK2 : Hid (k + 1 ≤ 140) := Lib.hid (by omega)
      have HLEN : Hid (((L.take k).map clampU).length + 1 ≤ 1000000) := Lib.hid (by rw [List.length_map, List.length_take]; omega)
      clear hx hk hk140 hl140 hrdr
      go_wp2_with (first
        | (go_at_call 19
           refine (in_any' _ _).mono ?_; rintro e w' ⟨rfl, rfl⟩)
        | (at_builtin; refine wpList_appI infoI (by decide) rfl (.tmp 36) (.tmp 44) 34 rfl Tryd.underlying34 B _ _ rfl (hown.below ((Below.refl _ _).alloc (Nat.le_refl _) _)) _ 1 1 [_] rfl (rdI_lit1_at _ _ _ _ _ rfl) (fun h => by cases h) HLEN.out (by simp; omega) ?_))
      intro v5 w5 hown5 hgrow5
      have hb5 : Below B WX w5 := own_grown (hbr.alloc hsr _) (by simp; omega) hgrow5 (hown.below ((Below.refl _ _).alloc (Nat.le_refl _) _))
      have hown6 : OwnI .i64 3 w5 B v5 ((L.take (k + 1)).map clampU) := by
        rw [take_succ' L 0 k (by have := HLT.out; have := HML.out; omega), HX.out]
        simpa using hown5
      clear hown5 hgrow5
      go_wp2_with fail
      go_roundw
      case rel => exact ⟨k + 1, HLT.out, HK2.out, by go_num, hown6, hb5⟩
      case measure => simp [intOf]; have := HLT.out; omega
    · have hfew : (L.take k).map clampU = fewL L := by
        unfold fewL
        have h1 := HML.out
        rcases (show k = m ∨ k = 140 by omega) with h2 | h2
        · rw [List.take_of_length_le (by omega), List.take_of_length_le (by omega)]
        · rw [h2]
      rw [hfew] at hown
      have u5 : wr.frozen? ⟨g, 5, none⟩ = false := frozen_of_row _ _ _ _ _ hblkr
      have hzr := (hbr.block (g + 1) (by have := HB2.out; omega)).trans HZX.out
      have hblk6 : (wr.setCell ⟨g, 5, none⟩ (.slice av nv cv)).heap[g]? = some (.cells (aggR kind sq (clampU n) (clampU ps) (clampU mr) (.slice av nv cv) self (cutL data 210)) 36 (0, 0)) := by
        simpa [aggR] using Go.Joins.block_setCell (i := 5) hblkr (.slice av nv cv)
      have hz6 : (wr.setCell ⟨g, 5, none⟩ (.slice av nv cv)).heap[g + 1]? = _ := (heap_setCell_other _ _ _ _ (by simp)).trans hzr
      have hb6 : Below g w (wr.setCell ⟨g, 5, none⟩ (.slice av nv cv)) := (HAL.out.trans (hbr.mono (by have := HB2.out; omega))).setCell (Nat.le_refl _) _
      have hown6 : OwnI .i64 3 (wr.setCell ⟨g, 5, none⟩ (.slice av nv cv)) B (.slice av nv cv) (fewL L) := own_setCell hown (by have := HB2.out; show g < B; omega)
      have hlast : k < m → ¬ (k : Int) < 140 := fun h1 h2 => hlt ⟨h1, by omega⟩
      have hq : (k : Int) = m ∨ ((k : Int) = 140 ∧ (140 : Int) < (m : Int)) := by omega
      clear hlt hlast hk hk140 hfew hown hbr hblkr hzr hrdr hsr
      rcases hq with hq | ⟨hq, hq2⟩
      all_goals
        go_upto_region 9 with (fail)
        change Code.wp _ _ _ _ (wr.setCell ⟨g, 5, none⟩ (.slice av nv cv))
        generalize wr.setCell ⟨g, 5, none⟩ (.slice av nv cv) = W9 at *
        have r0 : W9.cell? ⟨g, 0, none⟩ = some (.int .i64 kind) := Go.Joins.cell_of_block hblk6 0
        have r1 : W9.cell? ⟨g, 1, none⟩ = some (.int .i64 sq) := Go.Joins.cell_of_block hblk6 1
        have r2 : W9.cell? ⟨g, 2, none⟩ = some (.int .i64 (clampU n)) := Go.Joins.cell_of_block hblk6 2
        have r3 : W9.cell? ⟨g, 3, none⟩ = some (.int .i64 (clampU ps)) := Go.Joins.cell_of_block hblk6 3
        have r4 : W9.cell? ⟨g, 4, none⟩ = some (.int .i64 (clampU mr)) := Go.Joins.cell_of_block hblk6 4
        have r5 : W9.cell? ⟨g, 5, none⟩ = some (.slice av nv cv) := Go.Joins.cell_of_block hblk6 5
        have r6 : W9.cell? ⟨g, 6, none⟩ = some (.bool self) := Go.Joins.cell_of_block hblk6 6
        have r7 : W9.cell? ⟨g, 7, none⟩ = some (.string (cutL data 210)) := Go.Joins.cell_of_block hblk6 7
        go_wp2_with (refine wpList_store_row rfl 36 _ _ rfl (g + 1) (aggR kind sq (clampU n) (clampU ps) (clampU mr) (.slice av nv cv) self (cutL data 210)) rfl rfl 36 _ hz6 info_ref rfl (by simp [aggR, Value.oneCell']) ?_)
        refine bodyPost_ret (results_cell_row rfl _ _ (g + 1) 36 _ (0, 0) _ rfl (setRow_heap _ _ _ _ 36 (0, 0) hz6) Tryd.underlying36 rfl info_ref) rfl ?_
        refine ⟨.slice av nv cv, rfl, ?_, by rw [HG.out]; exact below_setRow hb6 (Nat.le_succ _) _⟩
        exact own_base (own_setRow hown6 (by have := HB2.out; omega)) (by have := HB2.out; have := HG.out; omega)
end Go.Proofs.YtaappdaolenkiaaDoor.Pdu
