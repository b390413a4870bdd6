/-
  PduUnlike is proved: unlike units have unlike bytes; for every input the law returns true.
-/
import Derived.Test.YtpegnobijnhbmaaDoorLaid
import Derived.Test.YtpegnobijnhbmaaDoorCards
import Derived.Test.YtpegnobijnhbmaaDoorPduLaw2
import Derived.Test.YtpegnobijnhbmaaDoorPduAwake
namespace Go.Proofs.YtpegnobijnhbmaaDoor.pduUnlike
open Go.ChangeShapes Go.WideShapes Go.ChangeAt Go.RowKit
set_option linter.unusedVariables false      -- a walk need not use every bound of an argument

open Pdu Own
set_option maxRecDepth 100000 in
set_option maxHeartbeats 8000000 in
theorem walk (w : World) (v : Value) (x : Base.Dat) (h0 : Base.RdV w (.struct [.int .i64, .int .i64, .int .i64, .int .i64, .int .i64, .slice (.int .i64), .bool, .str]) x v) (v' : Value) (x' : Base.Dat) (h0' : Base.RdV w (.struct [.int .i64, .int .i64, .int .i64, .int .i64, .int .i64, .slice (.int .i64), .bool, .str]) x' v') (hL : laidMetH Tryd.prog Rows.pduUnlikeRow.laid w) :
    Calls Tryd.prog 6 #[v, v'] w fun e w' => e = .returned (.bool true) ∧ Below w.heap.size w w' := by
  obtain ⟨k, sq, n, ps, mr, a, cap, L, self, data, rfl, hL0, hll⟩ := open_pdu w v x h0
  obtain ⟨k', sq', n', ps', mr', a', cap', L', self', data', rfl, hL0', hll'⟩ := open_pdu w v' x' h0'
  have HF := Lib.hid (forms_laid (by kernel_rfl) hL (by simp [Rows.pduUnlikeRow]))
  clear hL h0 x h0' x'
  have H0 := Lib.hid (cels_new (w := w) (k := k) (sq := sq) (n := n) (ps := ps) (mr := mr) (k' := k') (sq' := sq') (n' := n') (ps' := ps') (mr' := mr') (cap := cap) (cap' := cap') (sf := self) (sf' := self') (d := data) (d' := data') hL0 hL0')
  have HLL := Lib.hid hll
  have HLL' := Lib.hid hll'
  have hal : Below w.heap.size w ((w.alloc (.cells (aggR k sq n ps mr (.slice a L.length cap) self data) 24)).alloc (.cells (aggR k' sq' n' ps' mr' (.slice a' L'.length cap') self' data') 24)) := ((Below.refl _ _).alloc (Nat.le_refl _) _).alloc (by simp) _
  clear hL0 hll hL0' hll'
  go_enter Tryd.func6, Tryd.ntmps6
  go_wp2_with fail
  refine (awake_any _ ((HF.out.alloc _).alloc _)).mono ?_; rintro e W1 ⟨rfl, hb1⟩
  have X1 := Lib.hid (H0.out.1.below hb1)
  have Y1 := Lib.hid (H0.out.2.below hb1)
  have HB1 : Hid (Below w.heap.size w W1) := Lib.hid (hal.trans (hb1.mono (by simp; omega)))
  clear hb1 H0 hal
  generalize hgg : w.heap.size = g at *
  have HG := Lib.hid hgg
  clear hgg
  go_upto_region 3 with (fail)
  go_cut [7, 8, 9, 10] (fun s7 s8 s9 s10 wx => ∃ a2 cap2 a2' cap2', Hid (Cel wx g k sq (clampU n) (clampU ps) (clampU mr) a2 (fewL L).length cap2 (fewL L) self (cutL data 210)) ∧
    Hid (Cel wx (g + 1) k' sq' (clampU n') (clampU ps') (clampU mr') a2' (fewL L').length cap2' (fewL L') self' (cutL data' 210)) ∧ Hid (Below g w wx))
  case first =>
    obtain ⟨k0, k1, k2, k3, k4, k5, k6, k7⟩ := X1.out.cells
    obtain ⟨l0, l1, l2, l3, l4, l5, l6, l7⟩ := Y1.out.cells
    go_region_with (first
      | ((have _s := hb2)
         go_at_call 9
         refine (few_any k' sq' n' ps' mr' a' L'.length cap' L' self' data' _ Y2.out.rd HLL'.out).mono ?_; rintro e W3 ⟨lv', rfl, ho', hb3⟩
         obtain ⟨a2', cap2', rfl, _⟩ := owned ho'
         (have hx3 := (X2.out.below hb3).blk)
         (have hy3 := (Y2.out.below hb3).blk)
         obtain ⟨c0, c1, c2, c3, c4, c5, c6, c7⟩ := unfrozen hx3
         obtain ⟨e0, e1, e2, e3, e4, e5, e6, e7⟩ := unfrozen hy3
         obtain ⟨k0, k1, k2, k3, k4, k5, k6, k7⟩ := (X2.out.below hb3).cells
         obtain ⟨l0, l1, l2, l3, l4, l5, l6, l7⟩ := (Y2.out.below hb3).cells)
      | (go_at_call 9
         (have X1' := X1.out.below (Below.refl _ W1).drew)
         (have Y1' := Y1.out.below (Below.refl _ W1).drew)
         refine (few_any k sq n ps mr a L.length cap L self data _ X1'.rd HLL.out).mono ?_; rintro e W2 ⟨lv, rfl, ho, hb2⟩
         obtain ⟨a2, cap2, rfl, _⟩ := owned ho
         (have X2 := Lib.hid (X1'.below hb2))
         (have Y2 := Lib.hid (Y1'.below hb2))
         clear k0 k1 k2 k3 k4 k5 k6 k7
         obtain ⟨l0, l1, l2, l3, l4, l5, l6, l7⟩ := Y2.out.cells))
    all_goals
      have hy4 := (setRow_other W3 g (g + 1) #[.int .i64 k, .int .i64 sq, .int .i64 (clampU n), .int .i64 (clampU ps), .int .i64 (clampU mr), .slice a2 (fewL L).length cap2, .bool self, .string (cutL data 210)] (by omega)).trans hy3
      rw [set8 hx3, set8 hy4]
      obtain ⟨hc1, hc2, hc3⟩ := cels_set (k := k) (sq := sq) (n := clampU n) (ps := clampU ps) (mr := clampU mr) (k' := k') (sq' := sq') (n' := clampU n') (ps' := clampU ps') (mr' := clampU mr') (sf := self) (sf' := self') (d := cutL data 210) (d' := cutL data' 210) (w := w) (B := W1.heap.size) hx3 hy3 (ho.below hb3) (ho'.lower hb2.size) Y1.out.lt ((HB1.out.drew.trans (hb2.mono (Nat.le_of_lt X1.out.lt))).trans (hb3.mono (Nat.le_trans (Nat.le_of_lt X1.out.lt) hb2.size)))
      have HH := Lib.hid (And.intro hc1 (And.intro hc2 hc3))
      clear hc1 hc2 hc3 hy4 hx3 hy3 k0 k1 k2 k3 k4 k5 k6 k7 l0 l1 l2 l3 l4 l5 l6 l7
      go_wp2_with fail
      go_meet
      exact ⟨a2, cap2, a2', cap2', Lib.hid HH.out.1, Lib.hid HH.out.2.1, Lib.hid HH.out.2.2⟩
  case rest =>
    obtain ⟨a2, cap2, a2', cap2', X3, Y3, HB3⟩ := hcut
    clear X1 Y1 HB1 HLL HLL'
    have HF3 : Hid (Forms wc) := Lib.hid (HF.out.below HB3.out (by rw [HG.out]; exact Nat.le_refl _))
    obtain ⟨BN, BP, BM, BL⟩ : (0 ≤ clampU n ∧ clampU n ≤ 4294967295) ∧ (0 ≤ clampU ps ∧ clampU ps ≤ 4294967295) ∧ (0 ≤ clampU mr ∧ clampU mr ≤ 4294967295) ∧ (∀ z ∈ fewL L, 0 ≤ z ∧ z ≤ 4294967295) := ⟨clampU_bounds _, clampU_bounds _, clampU_bounds _, fewL_bounds _⟩
    obtain ⟨BN', BP', BM', BL'⟩ : (0 ≤ clampU n' ∧ clampU n' ≤ 4294967295) ∧ (0 ≤ clampU ps' ∧ clampU ps' ≤ 4294967295) ∧ (0 ≤ clampU mr' ∧ clampU mr' ≤ 4294967295) ∧ (∀ z ∈ fewL L', 0 ≤ z ∧ z ≤ 4294967295) := ⟨clampU_bounds _, clampU_bounds _, clampU_bounds _, fewL_bounds _⟩
    have HM : Hid ((fewL L).length ≤ 140) := Lib.hid (fewL_len L)
    have HM' : Hid ((fewL L').length ≤ 140) := Lib.hid (fewL_len L')
    generalize clampU n = N at *
    generalize clampU ps = PS at *
    generalize clampU mr = MR at *
    generalize fewL L = F at *
    generalize cutL data 210 = D at *
    generalize clampU n' = N' at *
    generalize clampU ps' = PS' at *
    generalize clampU mr' = MR' at *
    generalize fewL L' = F' at *
    generalize cutL data' 210 = D' at *
    generalize hm : F.length = m at *
    generalize hm' : F'.length = m' at *
    have HML := Lib.hid hm
    have HML' := Lib.hid hm'
    clear hm hm'
    have HB := Lib.hid (And.intro BN (And.intro BP (And.intro BM BL)))
    have HB' := Lib.hid (And.intro BN' (And.intro BP' (And.intro BM' BL')))
    clear BN BP BM BL BN' BP' BM' BL'
    have HN : Hid (m ≤ 1000 ∧ m ≤ 100000 ∧ m ≤ 1000000 ∧ m' ≤ 1000 ∧ m' ≤ 100000 ∧ m' ≤ 1000000) := Lib.hid (by have h1 := HM.out; have h2 := HM'.out; omega)
    obtain ⟨C, hC⟩ : ∃ C, checkU ⟨k, sq, N, PS, MR, F, self, D⟩ = C := ⟨_, rfl⟩
    obtain ⟨C', hC'⟩ : ∃ C', checkU ⟨k', sq', N', PS', MR', F', self', D'⟩ = C' := ⟨_, rfl⟩
    have HC := Lib.hid hC
    have HC' := Lib.hid hC'
    clear hC hC'
    obtain ⟨k0, k1, k2, k3, k4, k5, k6, k7⟩ := X3.out.cells
    have hchk := fun (W : World) (hX : Cel W g k sq N PS MR a2 m cap2 F self D) => rcheck_any k sq N PS MR a2 m cap2 F self D W hX.rd HN.out.2.2.1 HB.out.1.1 HB.out.2.1.1 HB.out.2.2.1.1 (fun z hz => (HB.out.2.2.2 z hz).1)
    have hchk' := fun (W : World) (hX : Cel W (g + 1) k' sq' N' PS' MR' a2' m' cap2' F' self' D') => rcheck_any k' sq' N' PS' MR' a2' m' cap2' F' self' D' W hX.rd HN.out.2.2.2.2.2 HB'.out.1.1 HB'.out.2.1.1 HB'.out.2.2.1.1 (fun z hz => (HB'.out.2.2.2 z hz).1)
    have HK := Lib.hid hchk
    have HK' := Lib.hid hchk'
    clear hchk hchk'
    by_cases hc : C = 0
    · subst hc
      by_cases hc' : C' = 0
      · subst hc'
        have HE := Lib.hid (unlike ⟨k, sq, N, PS, MR, F, self, D⟩ ⟨k', sq', N', PS', MR', F', self', D'⟩ HC.out HC'.out ⟨HB.out.1.1, HB.out.2.1.1, HB.out.2.2.1.1, fun z hz => (HB.out.2.2.2 z hz).1⟩ ⟨HB'.out.1.1, HB'.out.2.1.1, HB'.out.2.2.1.1, fun z hz => (HB'.out.2.2.2 z hz).1⟩)
        obtain ⟨S, hS⟩ : ∃ S, bytesU ⟨k, sq, N, PS, MR, F, self, D⟩ = S := ⟨_, rfl⟩
        obtain ⟨S', hS'⟩ : ∃ S', bytesU ⟨k', sq', N', PS', MR', F', self', D'⟩ = S' := ⟨_, rfl⟩
        obtain ⟨T, hT⟩ : ∃ T, sameU ⟨k, sq, N, PS, MR, F, self, D⟩ ⟨k', sq', N', PS', MR', F', self', D'⟩ = T := ⟨_, rfl⟩
        rw [hS, hS', hT] at HE
        have HS := Lib.hid hS
        have HS' := Lib.hid hS'
        have HT := Lib.hid hT
        clear hS hS' hT
        go_upto_region 6 with (first
          | ((have _s := hb4)
             go_at_call 12
             refine (HK'.out _ Y4).mono ?_; rintro e W5 ⟨rfl, hb5⟩; rw [HC'.out])
          | (go_at_call 12
             refine (HK.out _ X3.out).mono ?_; rintro e W4 ⟨rfl, hb4⟩; rw [HC.out]
             (have Y4 := Y3.out.below hb4)
             obtain ⟨l0, l1, l2, l3, l4, l5, l6, l7⟩ := Y4.cells))
        have X5 := Lib.hid ((X3.out.below hb4).below hb5)
        have Y5 := Lib.hid (Y4.below hb5)
        have HB5 := Lib.hid ((HB3.out.trans (hb4.mono (Nat.le_of_lt X3.out.lt))).trans (hb5.mono (Nat.le_trans (Nat.le_of_lt X3.out.lt) hb4.size)))
        have HF5 := Lib.hid ((HF3.out.below hb4 (Nat.le_refl _)).below hb5 (Nat.le_refl _))
        clear hb4 hb5 Y4 k0 k1 k2 k3 k4 k5 k6 k7 l0 l1 l2 l3 l4 l5 l6 l7 X3 Y3 HB3 HF3
        obtain ⟨k0, k1, k2, k3, k4, k5, k6, k7⟩ := X5.out.cells
        obtain ⟨l0, l1, l2, l3, l4, l5, l6, l7⟩ := Y5.out.cells
        have hold : ∀ w' : World, Below W5.heap.size W5 w' → w'.cell? ⟨g, 0, none⟩ = some (.int .i64 k) ∧ w'.cell? ⟨g, 1, none⟩ = some (.int .i64 sq) ∧ w'.cell? ⟨g, 2, none⟩ = some (.int .i64 N) ∧ w'.cell? ⟨g, 3, none⟩ = some (.int .i64 PS) ∧ w'.cell? ⟨g, 4, none⟩ = some (.int .i64 MR) ∧ w'.cell? ⟨g, 5, none⟩ = some (.slice a2 m cap2) ∧ w'.cell? ⟨g, 6, none⟩ = some (.bool self) ∧ w'.cell? ⟨g, 7, none⟩ = some (.string D) ∧
            w'.cell? ⟨g + 1, 0, none⟩ = some (.int .i64 k') ∧ w'.cell? ⟨g + 1, 1, none⟩ = some (.int .i64 sq') ∧ w'.cell? ⟨g + 1, 2, none⟩ = some (.int .i64 N') ∧ w'.cell? ⟨g + 1, 3, none⟩ = some (.int .i64 PS') ∧ w'.cell? ⟨g + 1, 4, none⟩ = some (.int .i64 MR') ∧ w'.cell? ⟨g + 1, 5, none⟩ = some (.slice a2' m' cap2') ∧ w'.cell? ⟨g + 1, 6, none⟩ = some (.bool self') ∧ w'.cell? ⟨g + 1, 7, none⟩ = some (.string D') ∧ Below W5.heap.size W5 w' := fun w' hb => by
          obtain ⟨k0, k1, k2, k3, k4, k5, k6, k7⟩ := (X5.out.below hb).cells
          obtain ⟨l0, l1, l2, l3, l4, l5, l6, l7⟩ := (Y5.out.below hb).cells
          exact ⟨k0, k1, k2, k3, k4, k5, k6, k7, l0, l1, l2, l3, l4, l5, l6, l7, hb⟩
        have HO := Lib.hid hold
        clear hold
        go_region_held3 (fun w' => w'.cell? ⟨g, 0, none⟩ = some (.int .i64 k) ∧ w'.cell? ⟨g, 1, none⟩ = some (.int .i64 sq) ∧ w'.cell? ⟨g, 2, none⟩ = some (.int .i64 N) ∧ w'.cell? ⟨g, 3, none⟩ = some (.int .i64 PS) ∧ w'.cell? ⟨g, 4, none⟩ = some (.int .i64 MR) ∧ w'.cell? ⟨g, 5, none⟩ = some (.slice a2 m cap2) ∧ w'.cell? ⟨g, 6, none⟩ = some (.bool self) ∧ w'.cell? ⟨g, 7, none⟩ = some (.string D) ∧
            w'.cell? ⟨g + 1, 0, none⟩ = some (.int .i64 k') ∧ w'.cell? ⟨g + 1, 1, none⟩ = some (.int .i64 sq') ∧ w'.cell? ⟨g + 1, 2, none⟩ = some (.int .i64 N') ∧ w'.cell? ⟨g + 1, 3, none⟩ = some (.int .i64 PS') ∧ w'.cell? ⟨g + 1, 4, none⟩ = some (.int .i64 MR') ∧ w'.cell? ⟨g + 1, 5, none⟩ = some (.slice a2' m' cap2') ∧ w'.cell? ⟨g + 1, 6, none⟩ = some (.bool self') ∧ w'.cell? ⟨g + 1, 7, none⟩ = some (.string D') ∧ Below W5.heap.size W5 w')
          (first | (with_reducible assumption) | exact HO.out _ (Below.refl _ _).drew | exact HO.out _ hb20 | exact HO.out _ hb21 | exact HO.out _ hb23 | exact HO.out _ hb24 | exact HO.out _ hb27 | exact HO.out _ hb29)
          (first
            | ((have _s := hb27)
               go_at_call 16
               refine (same_any k sq N PS MR a27 m c27 F self D k' sq' N' PS' MR' a2' m' cap2' F' self' D' _ hr27 (Y5.out.below hb27).rd HN.out.2.2.1 HN.out.2.2.2.2.2 (by have := HB.out.1; omega) (by have := HB.out.2.1; omega) (by have := HB.out.2.2.1; omega) (fun z hz => by have := HB.out.2.2.2 z hz; omega)).mono ?_
               rintro e w29 ⟨rfl, h29⟩
               rw [HT.out]
               (have hb29 := hb27.trans (h29.mono hb27.size)))
            | ((have _s := hb24)
               go_at_call 10
               refine (own_few k sq N PS MR a2 m cap2 F self D _ (X5.out.below hb24).rd HN.out.1 HB.out.1 HB.out.2.1 HB.out.2.2.1 HB.out.2.2.2).mono ?_
               rintro e w27 ⟨a27, c27, rfl, hr27, h27⟩
               (have hb27 := hb24.trans (h27.mono hb24.size)))
            | ((have _s := hb23)
               go_at_call 13
               refine (bytesV k' sq' N' PS' MR' a23 m' c23 F' self' D' _ (HF5.out.below hb23 (Nat.le_refl _)) hr23 HN.out.2.2.2.2.1 HB'.out.2.2.2 HB'.out.1.1).mono ?_
               rintro e w24 ⟨rfl, h24⟩
               rw [HS'.out]
               (have hb24 := hb23.trans (h24.mono hb23.size)))
            | ((have _s := hb21)
               go_at_call 10
               refine (own_few k' sq' N' PS' MR' a2' m' cap2' F' self' D' _ (Y5.out.below hb21).rd HN.out.2.2.2.1 HB'.out.1 HB'.out.2.1 HB'.out.2.2.1 HB'.out.2.2.2).mono ?_
               rintro e w23 ⟨a23, c23, rfl, hr23, h23⟩
               (have hb23 := hb21.trans (h23.mono hb21.size)))
            | ((have _s := hb20)
               go_at_call 13
               refine (bytesV k sq N PS MR a20 m c20 F self D _ (HF5.out.below hb20 (Nat.le_refl _)) hr20 HN.out.2.1 HB.out.2.2.2 HB.out.1.1).mono ?_
               rintro e w21 ⟨rfl, h21⟩
               rw [HS.out]
               (have hb21 := hb20.trans (h21.mono hb20.size)))
            | (go_at_call 10
               (have X6 := X5.out.below (by first | exact (Below.refl _ _).drew | assumption))
               refine (own_few k sq N PS MR a2 m cap2 F self D _ X6.rd HN.out.1 HB.out.1 HB.out.2.1 HB.out.2.2.1 HB.out.2.2.2).mono ?_
               rintro e w20 ⟨a20, c20, rfl, hr20, h20⟩
               (have hb20 : Below W5.heap.size W5 w20 := ((Below.refl _ _).drew).trans (h20.mono (by simp)))))
        all_goals go_wp2_with fail
        all_goals go_ret
        all_goals refine ⟨congrArg (fun b => Ending.returned (Value.bool b)) ?_, by rw [HG.out]; exact HB5.out.trans (hb29.mono (Nat.le_of_lt X5.out.lt))⟩
        all_goals
          have e := bytes_ne S S'
          rw [bne] at e
          rw [Bool.not_inj e, HE.out]
          exact beq_self_eq_true _
      · have hcb : (C' != 0) = true := by simp [hc']
        go_wp2_with (first
          | ((have _s := hb4)
             go_at_call 12
             refine (HK'.out _ Y4).mono ?_; rintro e W5 ⟨rfl, hb5⟩; rw [HC'.out])
          | (go_at_call 12
             refine (HK.out _ X3.out).mono ?_; rintro e W4 ⟨rfl, hb4⟩; rw [HC.out]
             (have Y4 := Y3.out.below hb4)
             obtain ⟨l0, l1, l2, l3, l4, l5, l6, l7⟩ := Y4.cells))
        go_ret
        exact ⟨rfl, by rw [HG.out]; exact (HB3.out.trans (hb4.mono (Nat.le_of_lt X3.out.lt))).trans (hb5.mono (Nat.le_trans (Nat.le_of_lt X3.out.lt) hb4.size))⟩
    · have hcb : (C != 0) = true := by simp [hc]
      go_wp2_with (first
        | (go_at_call 12
           refine (HK.out _ X3.out).mono ?_; rintro e W4 ⟨rfl, hb4⟩; rw [HC.out]))
      go_ret
      exact ⟨rfl, by rw [HG.out]; exact HB3.out.trans (hb4.mono (Nat.le_of_lt X3.out.lt))⟩

theorem own : ownKnob Tryd.prog.godebug = none := by kernel_rfl
theorem laidOut : laidOutB Tryd.prog = true := by kernel_rfl

set_option maxRecDepth 100000 in
theorem lifted (os : Os) (started : os.Started) (H : Type) (enc : TypeId × Value → H) :
    ReturnsInHanded {} Tryd.checked os 6 .any (fun w args => (Rows.pduUnlikeSpec.pre enc Tryd.prog Tryd.f6 Rows.pduUnlikeRow.domain false w args ∧ laidMetH Tryd.prog Rows.pduUnlikeRow.laid w) ∧ sizedMet enc Tryd.prog Tryd.f6 (OpenSpec.ofChange Rows.pduUnlikeSpec) false w args) (Rows.pduUnlikeSpec.post enc Tryd.prog Tryd.f6 false true false false) := by
  refine Base.law_laid (C := Tryd.checked) own started (by kernel_rfl) Tryd.func6 laidOut (by kernel_rfl) rfl Tryd.underlying4 rfl ?_
    (Base.laid_witness #[.agg #[.int .i64 0, .int .i64 0, .int .i64 0, .int .i64 0, .int .i64 0, .slice none 0 0, .bool false, .string ⟨#[]⟩], .agg #[.int .i64 0, .int .i64 0, .int .i64 0, .int .i64 0, .int .i64 0, .slice none 0 0, .bool false, .string ⟨#[]⟩]] (World.shaped_of_ZipB (by kernel_rfl) (by kernel_rfl)) (by kernel_rfl) (by kernel_rfl) (by kernel_rfl) (by rw [MakeChecks.laidMetH_plain _ _ _ (by kernel_rfl)]; exact laidMet_laidAll _ (by kernel_rfl) (by kernel_rfl))) ?_
  · intro ds h
    match ds, h with
    | [_d0, _d1], _ => exact ⟨rfl, rfl, rfl⟩
  · intro W base args ds before hval0 hA0 hlt hsz hL
    have hval : ∀ (j : Nat) t v, Tryd.f6.params[j]? = some t → args[j]? = some v → Value.okWide Tryd.prog W .any base t v := hval0
    have hA : DataW.TrodAll enc Tryd.prog W 0 (fun _ => true) true Tryd.f6.params.toList args.toList ds before := hA0
    clear hval0 hA0
    rw [Tryd.params6] at hA hval hsz
    obtain ⟨v0, vs0, d0, ds0, p0, q0, hargs, rfl, rfl, h0, r0⟩ := trodAll_cons hA
    obtain ⟨v1, vs1, d1, ds1, p1, q1, rfl, rfl, rfl, h1, r1⟩ := trodAll_cons r0
    obtain ⟨rfl, rfl, rfl⟩ := trodAll_nil r1
    obtain rfl : args = #[v0, v1] := by cases args; simp_all
    obtain ⟨x0, w0⟩ := Base.open_shape (s := (.struct [(.int .i64), (.int .i64), (.int .i64), (.int .i64), (.int .i64), (.slice (.int .i64)), .bool, .str])) (by kernel_rfl) (hval 0 24 v0 rfl rfl) h0 (fun x hx => hlt x (by simp [hx])) hsz (j := 0) rfl rfl
    obtain ⟨x1, w1⟩ := Base.open_shape (s := (.struct [(.int .i64), (.int .i64), (.int .i64), (.int .i64), (.int .i64), (.slice (.int .i64)), .bool, .str])) (by kernel_rfl) (hval 1 24 v1 rfl rfl) h1 (fun x hx => hlt x (by simp [hx])) hsz (j := 1) rfl rfl
    exact walk W v0 x0 w0 v1 x1 w1 hL

theorem over : Rows.pduUnlikeRow.holds Tryd.pinned (OpenSpec.ofChange Rows.pduUnlikeSpec) :=
  OpenClaim.holds_of_wide 6 Tryd.f6 rfl rfl rfl rfl rfl rfl rfl ⟨rfl, rfl, rfl, rfl, rfl⟩ rfl rfl rfl rfl rfl (by kernel_rfl) Tryd.func6 (by kernel_rfl)
    (of_decide_eq_true (by kernel_rfl)) (by unfold Func.isWrapper; first | (rw [if_pos (by decide +kernel)]; kernel_rfl) | (rw [if_neg (by decide +kernel)]; exact ⟨rfl, rfl⟩))
    (fun os started H enc _ => lifted os started H enc)

theorem proved : Rows.PduUnlikeCardSaid :=
  Claim7.holds_tied_plain_at .later [] [.data] true Rows.pduUnlikeCard.stood.harness false over (fun _ h => by cases h) (by kernel_rfl) (fun _ h => by cases h) pduUnlike_row_tie rfl ⟨rfl, rfl⟩ (by kernel_rfl) rfl
    (fun f fn hf hfn => by
      obtain rfl : f = 6 := Option.some.inj ((show Tryd.prog.funcNamed Rows.pduUnlikeRow.func = some 6 by kernel_rfl).symm.trans hf) |>.symm
      obtain rfl : fn = Tryd.f6 := (Option.some.inj (Tryd.func6.symm.trans hfn)).symm
      exact ⟨by kernel_rfl, fun j t ht => by
        rw [Tryd.params6] at ht
        have hm : t ∈ [24, 24] := by simpa using Array.mem_of_getElem? ht
        have hall : ([24, 24].all fun u => !Tryd.prog.wantsStandIn u) = true := by kernel_rfl
        exact (show Tryd.prog.wantsStandIn t = false by simpa using List.all_eq_true.1 hall t hm)⟩)
    (by kernel_rfl)
#print axioms proved
end Go.Proofs.YtpegnobijnhbmaaDoor.pduUnlike
