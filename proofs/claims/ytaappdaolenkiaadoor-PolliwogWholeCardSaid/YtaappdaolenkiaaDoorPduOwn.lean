/-
  Units as the laws hand them over: the program's own, of the document's.
-/
import Derived.Test.YtaappdaolenkiaaDoorPduFew
import Derived.Test.YtaappdaolenkiaaDoorPduRead2
namespace Go.Proofs.YtaappdaolenkiaaDoor.Pdu
open Go.ChangeShapes Go.WideShapes Go.RowKit Own

abbrev aggU (k sq n ps mr : Int) (lv : Value) (sf : Bool) (d : ByteArray) : Array Value := #[.int .i64 k, .int .i64 sq, .int .u32 n, .int .u32 ps, .int .u32 mr, lv, .bool sf, .string d]
set_option maxHeartbeats 40000000 in
theorem own_any (kind sq n ps mr : Int) (a : Option Addr) (m cap : Nat) (L : List Int) (self : Bool) (data : ByteArray) (w : World) (hL : RdI .i64 w a m L) (hll : m ≤ 1000) :
    Calls Tryd.prog 6 #[.agg #[.int .i64 kind, .int .i64 sq, .int .i64 n, .int .i64 ps, .int .i64 mr, .slice a m cap, .bool self, .string data]] w fun e w' =>
      ∃ lv, e = .returned (.agg (aggU kind sq (clampU n) (clampU ps) (clampU mr) lv self data)) ∧ OwnI .u32 29 w' w.heap.size lv (L.map clampU) ∧ Below w.heap.size w w' := by
  have H0 : Hid (RAt w (w.alloc (.cells (aggR kind sq n ps mr (.slice a m cap) self data) 36)) w.heap.size kind sq n ps mr a m cap L self data) := Lib.hid (RAt.new hL)
  have HL := Lib.hid hL
  clear hL
  go_enter Tryd.func6, Tryd.ntmps6
  go_upto_region 1 with (fail)
  generalize hWW : (w.alloc (.cells (aggR kind sq n ps mr (.slice a m cap) self data) 36)).alloc (.cells #[.int .i64 0, .int .i64 0, .int .u32 0, .int .u32 0, .int .u32 0, .slice none 0 0, .bool false, .string ⟨#[]⟩] 32) = WW at *
  have hal : Below (w.alloc (.cells (aggR kind sq n ps mr (.slice a m cap) self data) 36)).heap.size (w.alloc (.cells (aggR kind sq n ps mr (.slice a m cap) self data) 36)) WW := by rw [← hWW]; exact (Below.refl _ _).alloc (Nat.le_refl _) _
  have H1 := Lib.hid (H0.out.below hal)
  have HZ : Hid (WW.heap[w.heap.size + 1]? = some (.cells #[.int .i64 0, .int .i64 0, .int .u32 0, .int .u32 0, .int .u32 0, .slice none 0 0, .bool false, .string ⟨#[]⟩] 32 (0, 0))) := Lib.hid (by rw [← hWW]; exact heap_alloc2_new w _ _)
  have HSZ : Hid (WW.heap.size = w.heap.size + 2) := Lib.hid (by rw [← hWW]; simp)
  clear hal hWW H0
  obtain ⟨k0, k1, k2, k3, k4, k5, k6, k7⟩ := H1.out.cells
  generalize hgg : w.heap.size = g at *
  have HG := Lib.hid hgg
  clear hgg k5
  go_cut [3] (fun s3 wx => s3 = .pointer (some ⟨g + 2, 0, none⟩) ∧ wx = (WW.alloc (.cells (aggU kind sq (clampU n) (clampU ps) (clampU mr) (.slice none 0 0) self data) 32)).drew)
  case first =>
    go_region_held3 (fun w' => w'.cell? ⟨g, 0, none⟩ = some (.int .i64 kind) ∧ w'.cell? ⟨g, 1, none⟩ = some (.int .i64 sq) ∧ w'.cell? ⟨g, 2, none⟩ = some (.int .i64 n) ∧ w'.cell? ⟨g, 3, none⟩ = some (.int .i64 ps) ∧ w'.cell? ⟨g, 4, none⟩ = some (.int .i64 mr) ∧ w'.cell? ⟨g, 6, none⟩ = some (.bool self) ∧ w'.cell? ⟨g, 7, none⟩ = some (.string data) ∧ True)
      (first | (with_reducible assumption) | exact ⟨k0, k1, k2, k3, k4, k6, k7, trivial⟩ | go_keep)
      (first
        | (go_at_call 18
           refine (num_any _ _).mono ?_
           rintro e w' ⟨rfl, rfl⟩))
    all_goals go_wp2_with fail
    all_goals go_meet
    all_goals exact ⟨by rw [HSZ.out], rfl⟩
  case rest =>
    obtain ⟨rfl, rfl⟩ := hcut
    have hblk : (WW.alloc (.cells (aggU kind sq (clampU n) (clampU ps) (clampU mr) (.slice none 0 0) self data) 32)).drew.heap[g + 2]? = some (.cells (aggU kind sq (clampU n) (clampU ps) (clampU mr) (.slice none 0 0) self data) 32 (0, 0)) := by
      rw [← HSZ.out]; exact heap_alloc_new WW _
    have hbA : Below (g + 2) WW (WW.alloc (.cells (aggU kind sq (clampU n) (clampU ps) (clampU mr) (.slice none 0 0) self data) 32)).drew := ((Below.refl _ _).alloc (by rw [HSZ.out]; exact Nat.le_refl _) _).drew
    have hsA : (WW.alloc (.cells (aggU kind sq (clampU n) (clampU ps) (clampU mr) (.slice none 0 0) self data) 32)).drew.heap.size = g + 3 := by show (WW.alloc _).heap.size = g + 3; simp [HSZ.out]
    clear k0 k1 k2 k3 k4 k6 k7
    generalize (WW.alloc (.cells (aggU kind sq (clampU n) (clampU ps) (clampU mr) (.slice none 0 0) self data) 32)).drew = W1 at *
    have hb0 : Below (g + 2) WW W1 := hbA
    have H2 : Hid (∀ W, Below (g + 2) WW W → RdI .i64 W a m L ∧ W.cell? ⟨g, 5, none⟩ = some (.slice a m cap) ∧ W.heap[g + 1]? = some (.cells #[.int .i64 0, .int .i64 0, .int .u32 0, .int .u32 0, .int .u32 0, .slice none 0 0, .bool false, .string ⟨#[]⟩] 32 (0, 0)) ∧ Below g w W) := Lib.hid fun W hb => by
      have h1 : Below g w W := H1.out.bel.trans (hb.mono (by omega))
      refine ⟨HL.out.below (by rw [HG.out]; exact h1), ?_, (hb.block _ (by omega)).trans HZ.out, h1⟩
      exact Go.Joins.cell_of_block ((hb.block g (by omega)).trans H1.out.blk) 5
    obtain ⟨_, k5, _, _⟩ := H2.out _ hbA
    have HML := Lib.hid HL.out.1
    have hnil : OwnI .u32 29 W1 (g + 3) (.slice none 0 0) (([] : List Int).map clampU) := OwnI.nil
    go_wp2_with fail
    clear k5
    go_loopw [27] (fun i wr => ∃ (j : Nat) (v : Value), j ≤ m ∧ i = .int .i64 (j : Int) ∧ wr.heap[g + 2]? = some (.cells (aggU kind sq (clampU n) (clampU ps) (clampU mr) v self data) 32 (0, 0)) ∧ OwnI .u32 29 wr (g + 3) v ((L.take j).map clampU) ∧ Below (g + 2) WW wr ∧ g + 3 ≤ wr.heap.size) (fun i _ => m - (intOf i).toNat)
    case atStart => exact ⟨0, _, Nat.zero_le _, rfl, hblk, hnil, hb0, by omega⟩
    case round =>
      obtain ⟨j, v, hj, rfl, hblkr, hown, hbr, hsr⟩ := hrel
      obtain ⟨av, nv, cv, rfl, _⟩ := hown.form
      obtain ⟨hrd, k5, hz, hbw⟩ := H2.out _ hbr
      by_cases hlt : j < m
      · obtain ⟨bb, off, rfl, hblt, hcell⟩ := hrd.at_ hlt
        obtain ⟨x, hx⟩ : ∃ x, L.getD j 0 = x := ⟨_, rfl⟩
        rw [hx] at hcell
        have HX := Lib.hid hx
        have HLT := Lib.hid hlt
        have p5 : wr.cell? ⟨g + 2, 5, none⟩ = some (.slice av nv cv) := Go.Joins.cell_of_block hblkr 5
        have pA : ∀ o, (wr.alloc o).cell? ⟨g + 2, 5, none⟩ = some (.slice av nv cv) := fun o => (World.cell?_alloc_some _ _ _ (by rw [p5]; rfl)).trans p5
        have HLEN : Hid (((L.take j).map clampU).length + 1 ≤ 1000000) := Lib.hid (by rw [List.length_map, List.length_take]; omega)
        clear hx hj hnil hb0 hbA hblk hsA hrd hz hbw
        go_wp2_with fail
        go_region_law (first
          | (refine step_appI infoN (by decide) rfl (.tmp 32) (.tmp 35) 30 rfl Tryd.underlying30 (g + 3) _ _ rfl (OwnI.below hown (((Below.refl _ _).drew).alloc (by simp) _)) _ 1 1 [_] rfl (rdI_lit1_at _ _ _ _ _ (by simp)) (fun h => by cases h) HLEN.out (by simp; omega) ?_
             intro v5 w5 hown5 hgrow5
             (have hb5 : Below (g + 3) wr w5 := own_grown (((Below.refl _ _).drew).alloc hsr _) (by simp; omega) hgrow5 (OwnI.below hown (((Below.refl _ _).drew).alloc (by simp) _)))
             (have hblk5 := (hb5.block (g + 2) (by omega)).trans hblkr)
             (have q5 := Go.Joins.cell_of_block hblk5 5)
             (have z5 : w5.frozen? ⟨g + 2, 5, none⟩ = false := frozen_of_row _ _ _ _ _ hblk5)
             obtain ⟨a5, n5, c5, rfl, _⟩ := hown5.form
             (have hblk9 := Go.Joins.block_setCell (i := 5) hblk5 (.slice a5 n5 c5)))
          | (go_simp
             go_at_call 18
             refine (num_any _ _).mono ?_
             rintro e w' ⟨rfl, rfl⟩))
        all_goals
          have hown9 : OwnI .u32 29 (w5.setCell ⟨g + 2, 5, none⟩ (.slice a5 n5 c5)) (g + 3) (.slice a5 n5 c5) ((L.take (j + 1)).map clampU) := by
            refine own_setCell ?_ (by show g + 2 < g + 3; omega)
            rw [take_succ' L 0 j (by have := HLT.out; have := HML.out; omega), HX.out]
            simpa using hown5
          have hb9 : Below (g + 2) WW (w5.setCell ⟨g + 2, 5, none⟩ (.slice a5 n5 c5)) := (hbr.trans (hb5.mono (by omega))).setCell (Nat.le_refl _) _
          have hs9 : g + 3 ≤ (w5.setCell ⟨g + 2, 5, none⟩ (.slice a5 n5 c5)).heap.size := by have := hb5.size; simp; omega
          go_wp2_with fail
          go_roundw
        all_goals first
          | exact ⟨j + 1, _, HLT.out, by go_num, by simpa using hblk9, hown9, hb9, hs9⟩
          | (simp [intOf]; have := HLT.out; omega)
      · obtain rfl : j = m := by omega
        have hfull : (L.take j).map clampU = L.map clampU := by rw [List.take_of_length_le (by have := HML.out; omega)]
        rw [hfull] at hown
        have p0 : wr.cell? ⟨g + 2, 0, none⟩ = some (.int .i64 kind) := Go.Joins.cell_of_block hblkr 0
        have p1 : wr.cell? ⟨g + 2, 1, none⟩ = some (.int .i64 sq) := Go.Joins.cell_of_block hblkr 1
        have p2 : wr.cell? ⟨g + 2, 2, none⟩ = some (.int .u32 (clampU n)) := Go.Joins.cell_of_block hblkr 2
        have p3 : wr.cell? ⟨g + 2, 3, none⟩ = some (.int .u32 (clampU ps)) := Go.Joins.cell_of_block hblkr 3
        have p4 : wr.cell? ⟨g + 2, 4, none⟩ = some (.int .u32 (clampU mr)) := Go.Joins.cell_of_block hblkr 4
        have p5 : wr.cell? ⟨g + 2, 5, none⟩ = some (.slice av nv cv) := Go.Joins.cell_of_block hblkr 5
        have p6 : wr.cell? ⟨g + 2, 6, none⟩ = some (.bool self) := Go.Joins.cell_of_block hblkr 6
        have p7 : wr.cell? ⟨g + 2, 7, none⟩ = some (.string data) := Go.Joins.cell_of_block hblkr 7
        clear hnil hb0 hbA hblk hsA hrd k5 hfull
        go_wp2_with (refine wpList_store_row rfl 32 _ _ rfl (g + 1) (aggU kind sq (clampU n) (clampU ps) (clampU mr) (.slice av nv cv) self data) rfl rfl 32 _ hz info_pdu rfl (by simp [aggU, Value.oneCell']) ?_)
        refine bodyPost_ret (results_cell_row rfl _ _ (g + 1) 32 _ (0, 0) _ rfl (setRow_heap _ _ _ _ 32 (0, 0) hz) Tryd.underlying32 rfl info_pdu) rfl ?_
        refine ⟨.slice av nv cv, rfl, ?_, by rw [HG.out]; exact below_setRow hbw (Nat.le_succ _) _⟩
        exact own_base (own_setRow hown (by omega)) (by have := HG.out; omega)
end Go.Proofs.YtaappdaolenkiaaDoor.Pdu
