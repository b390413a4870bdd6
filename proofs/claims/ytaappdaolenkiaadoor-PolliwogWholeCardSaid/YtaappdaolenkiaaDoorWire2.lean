/-
  Units in frames: a unit is packed; bytes are opened.
-/
import Derived.Test.YtaappdaolenkiaaDoorWire1
import Derived.Test.YtaappdaolenkiaaDoorPduRef5
namespace Go.Proofs.YtaappdaolenkiaaDoor.Wire
open Go.ChangeShapes Go.WideShapes Go.RowKit CrcMath CrcCalls FrameMath
open FrameCalls (frameB)

set_option maxRecDepth 100000 in
set_option maxHeartbeats 4000000 in
theorem pack_any (B : Nat) (k sq n ps mr : Int) (a : Option Addr) (m cap : Nat) (L : List Int) (self : Bool) (data : ByteArray) (w : World) (hT : Tab w B) (hF : Pdu.Forms w) (hv : Own.RdI .u32 w a m L) (hl : m ≤ 100000) (hb : ∀ z ∈ L, 0 ≤ z ∧ z ≤ 4294967295) (hn0 : 0 ≤ n) :
    Calls Tryd.prog 8 #[.pointer (some ⟨B, 0, none⟩), .agg (Pdu.aggU k sq n ps mr (.slice a m cap) self data)] w fun e w' => e = .returned (.tuple #[.string (packW ⟨k, sq, n, ps, mr, L, self, data⟩), .int .i64 (Pdu.checkU ⟨k, sq, n, ps, mr, L, self, data⟩)]) ∧ Below w.heap.size w w' := by
  have H0 : Hid (Below w.heap.size w (w.alloc (.cells (Pdu.aggU k sq n ps mr (.slice a m cap) self data) 32))) := Lib.hid ((Below.refl _ _).alloc (Nat.le_refl _) _)
  have HU : Hid ((w.alloc (.cells (Pdu.aggU k sq n ps mr (.slice a m cap) self data) 32)).heap[w.heap.size]? = some (.cells (Pdu.aggU k sq n ps mr (.slice a m cap) self data) 32 (0, 0))) := Lib.hid (heap_alloc_new w _)
  have HCK := Lib.hid (fun (w' : World) (h : Below w.heap.size w w') => Pdu.checkV k sq n ps mr a m cap L self data w' (hF.below h (Nat.le_refl _)) (hv.below h) hl hb)
  have HBY := Lib.hid (fun (w' : World) (h : Below w.heap.size w w') => Pdu.bytesV k sq n ps mr a m cap L self data w' (hF.below h (Nat.le_refl _)) (hv.below h) hl hb hn0)
  have HTB := Lib.hid (fun (w' : World) (h : Below w.heap.size w w') => hT.below h)
  have hBlt : B < w.heap.size := hT.lt
  obtain ⟨C, hC⟩ : ∃ C, Pdu.checkU ⟨k, sq, n, ps, mr, L, self, data⟩ = C := ⟨_, rfl⟩
  have HC := Lib.hid hC
  have HSM : Hid (C = 0 → (Pdu.bytesU ⟨k, sq, n, ps, mr, L, self, data⟩).size ≤ 2000) := Lib.hid (fun h => bytes_small _ (hC.trans h))
  obtain ⟨S, hS⟩ : ∃ S, Pdu.bytesU ⟨k, sq, n, ps, mr, L, self, data⟩ = S := ⟨_, rfl⟩
  have HS := Lib.hid hS
  have HSZ : Hid (packW ⟨k, sq, n, ps, mr, L, self, data⟩ = if C = 0 then frameB 0 S else ⟨#[]⟩) := Lib.hid (by unfold packW; rw [hC, hS])
  rw [hS] at HSM
  obtain ⟨PW, hPW⟩ : ∃ PW, packW ⟨k, sq, n, ps, mr, L, self, data⟩ = PW := ⟨_, rfl⟩
  have HPW := Lib.hid hPW
  rw [hPW] at HSZ
  have HCV := Lib.hid hC
  clear hC hS hF hv hl hb hn0 hPW hT
  by_cases hc : C = 0
  · subst hc
    have HF0 : Hid (frameB 0 S = PW) := Lib.hid (by rw [HSZ.out, if_pos rfl])
    have HSS : Hid (S.size ≤ 65535) := Lib.hid (by have := HSM.out rfl; omega)
    have HBF : Hid (∀ w' : World, Below w.heap.size w w' → Calls Tryd.prog 11 #[.agg #[.int .u8 0, .string S], .pointer (some ⟨B, 0, none⟩)] w' fun e w2 => e = .returned (.tuple #[.string PW, .int .i64 0]) ∧ Below w'.heap.size w' w2) := Lib.hid (fun w' h => by
      have := FrameCalls.bytes_frame B 0 (by decide) S w' (HTB.out w' h) HSS.out
      rw [← HF0.out]; exact this)
    clear HSM HSZ
    go_enter Tryd.func8, Tryd.ntmps8
    go_upto_region 4 with (go_at_call 9; refine (HCK.out _ H0.out).mono ?_; rintro e w1 ⟨rfl, h1⟩; rw [HC.out])
    have H1 := Lib.hid (H0.out.trans (h1.mono H0.out.size))
    have HU1 := Lib.hid ((h1.block w.heap.size (by simp)).trans HU.out)
    have HB1 : Hid (∀ w', Below w1.heap.size w1 w' → Below w.heap.size w w') := Lib.hid (fun w' h => H1.out.trans (h.mono H1.out.size))
    clear h1 H0 HU
    have HB1' := HB1
    have HBY' := HBY
    have HBF' := HBF
    generalize hgg : w.heap.size = g at *
    have HG := Lib.hid hgg
    clear hgg HB1' HBY' HBF'
    have HO : Hid (∀ w' : World, Below w1.heap.size w1 w' → w'.cell? ⟨g, 0, none⟩ = some (.int .i64 k) ∧ w'.cell? ⟨g, 1, none⟩ = some (.int .i64 sq) ∧ w'.cell? ⟨g, 2, none⟩ = some (.int .u32 n) ∧ w'.cell? ⟨g, 3, none⟩ = some (.int .u32 ps) ∧ w'.cell? ⟨g, 4, none⟩ = some (.int .u32 mr) ∧ w'.cell? ⟨g, 5, none⟩ = some (.slice a m cap) ∧ w'.cell? ⟨g, 6, none⟩ = some (.bool self) ∧ w'.cell? ⟨g, 7, none⟩ = some (.string data) ∧ Below w1.heap.size w1 w') := Lib.hid (fun w' hb => by
      have e := (hb.block g (Array.getElem?_eq_some_iff.1 HU1.out).1).trans HU1.out
      exact ⟨Go.Joins.cell_of_block e 0, Go.Joins.cell_of_block e 1, Go.Joins.cell_of_block e 2, Go.Joins.cell_of_block e 3, Go.Joins.cell_of_block e 4, Go.Joins.cell_of_block e 5, Go.Joins.cell_of_block e 6, Go.Joins.cell_of_block e 7, hb⟩)
    obtain ⟨k0, k1, k2, k3, k4, k5, k6, k7, _⟩ := HO.out w1 (Below.refl _ _)
    go_region_held3 (fun w' => w'.cell? ⟨g, 0, none⟩ = some (.int .i64 k) ∧ w'.cell? ⟨g, 1, none⟩ = some (.int .i64 sq) ∧ w'.cell? ⟨g, 2, none⟩ = some (.int .u32 n) ∧ w'.cell? ⟨g, 3, none⟩ = some (.int .u32 ps) ∧ w'.cell? ⟨g, 4, none⟩ = some (.int .u32 mr) ∧ w'.cell? ⟨g, 5, none⟩ = some (.slice a m cap) ∧ w'.cell? ⟨g, 6, none⟩ = some (.bool self) ∧ w'.cell? ⟨g, 7, none⟩ = some (.string data) ∧ Below w1.heap.size w1 w')
      (first | (with_reducible assumption) | exact HO.out _ (Below.refl _ _).drew | exact HO.out _ hb2 | exact HO.out _ hb3)
      (first
        | ((have _s := hb2)
           go_at_call 11
           refine (HBF.out _ (HB1.out _ hb2)).mono ?_
           rintro e w3 ⟨rfl, h3⟩
           (have hb3 := hb2.trans (h3.mono hb2.size)))
        | (go_at_call 10
           (have hb0 : Below w1.heap.size w1 w1.drew := (Below.refl _ _).drew)
           refine (HBY.out _ (HB1.out _ hb0)).mono ?_
           rintro e w2 ⟨rfl, h2⟩
           rw [HS.out]
           (have hb2 := hb0.trans (h2.mono hb0.size))))
    all_goals go_wp2_with fail
    all_goals go_ret2
    all_goals exact ⟨by rw [HPW.out, HCV.out]; rfl, by rw [HG.out]; exact HB1.out _ hb3⟩
  · have hcb : (C != 0) = true := by simp [hc]
    have HP0 : Hid (PW = ⟨#[]⟩) := Lib.hid (by rw [HSZ.out, if_neg hc])
    go_enter Tryd.func8, Tryd.ntmps8
    go_wp2_with (go_at_call 9; refine (HCK.out _ H0.out).mono ?_; rintro e w1 ⟨rfl, h1⟩; rw [HC.out])
    go_ret2
    exact ⟨by rw [HPW.out, HCV.out, HP0.out]; rfl, H0.out.trans (h1.mono H0.out.size)⟩

/-! ### opening -/
def dataW (s : ByteArray) : ByteArray := ⟨(parseL s.data.toList).2.1.toArray⟩
def codeW (s : ByteArray) : Int := if (parseL s.data.toList).2.2 ≠ 0 then (parseL s.data.toList).2.2 else if (parseL s.data.toList).1 ≠ 0 then 3 else Pdu.codeP (dataW s)
theorem dataW_size (s : ByteArray) : (dataW s).size ≤ s.size := by
  have : (parseL s.data.toList).2.1.length ≤ s.data.toList.length := by
    unfold parseL
    split
    · simp
    · split
      · simp
      · dsimp only
        split
        · simp
        · split
          · simp
          · rw [List.length_take]; omega
  unfold dataW
  show (List.toArray _).size ≤ s.data.size
  simpa using this
theorem parse_cs (D : ByteArray) (w : World) (hF : Pdu.Forms w) (hm : D.size ≤ 100000) :
    Calls Tryd.prog 13 #[.string D] w fun e w' => Below w.heap.size w w' ∧ ∃ (cs : Array Value) (c : Int), e = .returned (.tuple #[.agg cs, .int .i64 c]) ∧ cs.size = 8 ∧ cs.all (·.oneCell') = true ∧
      ((Pdu.codeP D ≠ 0 ∧ cs = Pdu.zeroC ∧ c = Pdu.codeP D) ∨ (Pdu.codeP D = 0 ∧ c = 0 ∧ ∃ lv, .agg cs = (Pdu.unitP D).val .u32 lv ∧ Own.OwnI .u32 29 w' w.heap.size lv (Pdu.unitP D).list)) :=
  (Pdu.parse_any D w hF hm).mono fun e w' ⟨h1, h⟩ => ⟨h1, by
    rcases h with ⟨h, rfl⟩ | ⟨h, lv, rfl, ho⟩
    · exact ⟨_, _, rfl, rfl, by simp [Value.oneCell'], .inl ⟨h, rfl, rfl⟩⟩
    · obtain ⟨la, lc, rfl, _⟩ := Pdu.owned ho
      exact ⟨_, _, rfl, rfl, by simp [Value.oneCell'], .inr ⟨h, rfl, _, rfl, ho⟩⟩⟩
set_option maxRecDepth 100000 in
set_option maxHeartbeats 4000000 in
theorem open_any (B : Nat) (s : ByteArray) (w : World) (hT : Tab w B) (hF : Pdu.Forms w) (hs : s.size ≤ 100000) :
    Calls Tryd.prog 14 #[.pointer (some ⟨B, 0, none⟩), .string s] w fun e w' => Below w.heap.size w w' ∧ ((codeW s ≠ 0 ∧ e = .returned (Pdu.told (.agg Pdu.zeroC) (codeW s))) ∨ (codeW s = 0 ∧ ∃ lv, e = .returned (Pdu.told ((Pdu.unitP (dataW s)).val .u32 lv) 0) ∧ Own.OwnI .u32 29 w' w.heap.size lv (Pdu.unitP (dataW s)).list)) := by
  have HT := Lib.hid hT
  have HF := Lib.hid hF
  have hlt := hT.lt
  have HPA : Hid (∀ w' : World, Tab w' B → Calls Tryd.prog 12 #[.pointer (some ⟨B, 0, none⟩), .string s] w' fun e w2 => e = .returned (.tuple #[.agg #[.int .u8 ((parseL s.data.toList).1.toNat : Int), .string (dataW s)], .int .i64 (parseL s.data.toList).2.2]) ∧ Below w'.heap.size w' w2) := Lib.hid (fun w' h => FrameCalls.parse_any B s w' h (by omega))
  have HDS : Hid ((dataW s).size ≤ 100000) := Lib.hid (Nat.le_trans (dataW_size s) hs)
  have HCW : Hid (codeW s = if (parseL s.data.toList).2.2 ≠ 0 then (parseL s.data.toList).2.2 else if (parseL s.data.toList).1 ≠ 0 then 3 else Pdu.codeP (dataW s)) := Lib.hid rfl
  obtain ⟨cw, hcw⟩ : ∃ cw, codeW s = cw := ⟨_, rfl⟩
  have HCV := Lib.hid hcw
  rw [hcw] at HCW ⊢
  generalize dataW s = D at *
  generalize (parseL s.data.toList).2.2 = E at *
  generalize (parseL s.data.toList).1 = U at *
  clear hcw hT hF
  have info_f : (Tryd.prog.info? 44).map (·.size) = some 2 := by kernel_rfl
  go_enter Tryd.func14, Tryd.ntmps14
  go_upto_region 1 with (fail)
  have HW0 : Hid (Below w.heap.size w (w.alloc (.cells Pdu.zeroC 32))) := Lib.hid ((Below.refl _ _).alloc (Nat.le_refl _) _)
  have HZ0 : Hid ((w.alloc (.cells Pdu.zeroC 32)).heap[w.heap.size]? = some (.cells Pdu.zeroC 32 (0, 0))) := Lib.hid (heap_alloc_new w _)
  have HT0 := Lib.hid (HT.out.below HW0.out)
  have HF0 := Lib.hid (HF.out.below HW0.out (Nat.le_refl _))
  have HLT : Hid (w.heap.size < (w.alloc (.cells Pdu.zeroC 32)).heap.size) := Lib.hid (by simp)
  clear HT HF hlt
  generalize (w.alloc (.cells Pdu.zeroC 32)) = W0 at *
  generalize hgg : w.heap.size = g at *
  have HG := Lib.hid hgg
  clear hgg
  go_upto_region 2 with (first
    | (go_at_call 12; refine (HPA.out _ HT0.out).mono ?_; rintro e w1 ⟨rfl, h1⟩; have t1 : True := trivial)
    | ((have _s := t1); refine wpList_store_row rfl 44 _ _ rfl w1.heap.size #[.int .u8 (U.toNat : Int), .string D] rfl rfl 44 #[.int .u8 0, .string ⟨#[]⟩] (heap_alloc_new w1 _) info_f rfl (by simp [Value.oneCell']) ?_; rw [World.setRow_alloc_new]))
  have HB2 : Hid (Below g w (w1.alloc (.cells #[.int .u8 (U.toNat : Int), .string D] 44))) := Lib.hid ((HW0.out.trans (h1.mono (Nat.le_of_lt HLT.out))).alloc (Nat.le_trans (Nat.le_of_lt HLT.out) h1.size) _)
  have HZ2 : Hid ((w1.alloc (.cells #[.int .u8 (U.toNat : Int), .string D] 44)).heap[g]? = some (.cells Pdu.zeroC 32 (0, 0))) := Lib.hid ((((Below.refl w1.heap.size w1).alloc (Nat.le_refl _) _).block g (Nat.lt_of_lt_of_le HLT.out h1.size)).trans ((h1.block g HLT.out).trans HZ0.out))
  have HF2 : Hid (Pdu.Forms (w1.alloc (.cells #[.int .u8 (U.toNat : Int), .string D] 44))) := Lib.hid ((HF0.out.below h1 (Nat.le_refl _)).alloc _)
  have hfb := heap_alloc_new w1 (.cells #[.int .u8 (U.toNat : Int), .string D] 44)
  have f0 : (w1.alloc (.cells #[.int .u8 (U.toNat : Int), .string D] 44)).cell? ⟨w1.heap.size, 0, none⟩ = some (.int .u8 (U.toNat : Int)) := Go.Joins.cell_of_block hfb 0
  have f1 : (w1.alloc (.cells #[.int .u8 (U.toNat : Int), .string D] 44)).cell? ⟨w1.heap.size, 1, none⟩ = some (.string D) := Go.Joins.cell_of_block hfb 1
  have HL2 : Hid (g < (w1.alloc (.cells #[.int .u8 (U.toNat : Int), .string D] 44)).heap.size) := Lib.hid (by have := HLT.out; have := h1.size; simp; omega)
  clear h1 HW0 HZ0 HT0 HF0 HLT hfb t1 _s
  generalize w1.alloc (.cells #[.int .u8 (U.toNat : Int), .string D] 44) = W2 at *
  generalize w1.heap.size = gf at *
  by_cases hE : E = 0
  · subst hE
    obtain ⟨u, hu⟩ : ∃ u : Int, (U.toNat : Int) = u := ⟨_, rfl⟩
    have HU0 : Hid (U = 0 ↔ u = 0) := Lib.hid (by
      rw [← hu]
      constructor
      · rintro rfl; rfl
      · intro h; apply UInt8.toNat_inj.1; have : U.toNat = 0 := by omega
        rw [this]; rfl)
    rw [hu] at f0 ⊢
    clear hu
    by_cases hU : u = 0
    · have HCO : Hid (cw = Pdu.codeP D) := Lib.hid (by rw [HCW.out, if_neg (by decide), if_neg (by intro h; exact h (HU0.out.2 hU))])
      have hub : (u != 0) = false := by simp [hU]
      clear hU HCW HU0
      go_wp2_with (first
        | ((have _s := t1); (refine wpList_store_row rfl 32 _ _ rfl g cs rfl rfl 32 _ HZ3.out (by rw [hcs8]; exact Pdu.info_pdu) (by rw [hcs8]; rfl) hcs1 ?_))
        | (go_at_call 13
           refine (parse_cs D _ HF2.out HDS.out).mono ?_
           rintro e W3 ⟨h3, cs, c, rfl, hcs8, hcs1, hgood⟩
           (have HB3 := Lib.hid (HB2.out.trans (h3.mono (Nat.le_of_lt HL2.out))))
           (have HZ3 := Lib.hid ((h3.block g HL2.out).trans HZ2.out))
           (have HGOOD := Lib.hid hgood)
           (have t1 : True := trivial)
           (clear h3 hgood)))
      refine bodyPost_ret (Pdu.results_row_tmp rfl _ _ g 32 _ (0, 0) _ rfl (setRow_heap _ _ _ _ 32 (0, 0) HZ3.out) Tryd.underlying32 rfl (by rw [hcs8]; exact Pdu.info_pdu)) rfl ⟨by rw [HG.out]; exact below_setRow HB3.out (Nat.le_refl _) _, ?_⟩
      rw [HCO.out]
      rcases HGOOD.out with ⟨h, rfl, rfl⟩ | ⟨h, rfl, lv, he, ho⟩
      · exact .inl ⟨h, rfl⟩
      · refine .inr ⟨h, lv, ?_, ?_⟩
        · rw [← he]; rfl
        · rw [HG.out]
          exact (Pdu.own_setRow ho HL2.out).lower (Nat.le_of_lt HL2.out)
    · have HCO : Hid (cw = 3) := Lib.hid (by rw [HCW.out, if_neg (by decide), if_pos (fun h => hU (HU0.out.1 h))])
      have hub : (u != 0) = true := by simp [hU]
      clear hU HCW HU0
      go_wp2_with (refine wpList_store_row rfl 32 _ _ rfl g Pdu.zeroC rfl rfl 32 _ HZ2.out Pdu.info_pdu rfl (by simp [Value.oneCell']) ?_)
      refine bodyPost_ret (Pdu.results_row_tmp rfl _ _ g 32 _ (0, 0) _ rfl (setRow_heap _ _ _ _ 32 (0, 0) HZ2.out) Tryd.underlying32 rfl Pdu.info_pdu) rfl ⟨by rw [HG.out]; exact below_setRow HB2.out (Nat.le_refl _) _, .inl ⟨by rw [HCO.out]; decide, by rw [HCO.out]; rfl⟩⟩
  · have HCO : Hid (cw = E) := Lib.hid (by rw [HCW.out, if_pos hE])
    have heb : (E != 0) = true := by simp [hE]
    have HE := Lib.hid hE
    clear hE HCW
    go_wp2_with (refine wpList_store_row rfl 32 _ _ rfl g Pdu.zeroC rfl rfl 32 _ HZ2.out Pdu.info_pdu rfl (by simp [Value.oneCell']) ?_)
    refine bodyPost_ret (Pdu.results_row_tmp rfl _ _ g 32 _ (0, 0) _ rfl (setRow_heap _ _ _ _ 32 (0, 0) HZ2.out) Tryd.underlying32 rfl Pdu.info_pdu) rfl ⟨by rw [HG.out]; exact below_setRow HB2.out (Nat.le_refl _) _, .inl ⟨by rw [HCO.out]; exact HE.out, by rw [HCO.out]; rfl⟩⟩
end Go.Proofs.YtaappdaolenkiaaDoor.Wire
