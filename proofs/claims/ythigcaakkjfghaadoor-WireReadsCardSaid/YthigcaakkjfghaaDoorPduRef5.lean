/-
  The document's own words on units: a unit's bytes: the walk.
-/
import Derived.Test.YthigcaakkjfghaaDoorPduRef3
import Derived.Test.YthigcaakkjfghaaDoorPduRef4
import Derived.Deep.DeepCutAuto
namespace Go.Proofs.YthigcaakkjfghaaDoor.Pdu
open Go.ChangeShapes Go.WideShapes Go.RowKit Own

theorem add_ok (A B : List Int) (h : A.length + B.length ≤ 100000) (w : World) : (Op.stringOp .add (strOfNums A) (strOfNums B)).run Tryd.prog w = .ok (.string (strOfNums (A ++ B))) w := by
  rw [run_string_add_sum _ _ _ (by rw [str_size, str_size]; omega), str_app]
theorem be4_len (x : Int) : (be4 x).length = 4 := rfl
theorem part0_len (u : U) (z : Nat) : (part0 u z).length = u.data.size + z := by simp [part0, dataI]
theorem partQ_len (u : U) : (partQ u).length ≤ u.data.size + padU u + 4 := by
  unfold partQ; rw [List.length_append, part0_len]; split <;> simp [be4_len]
theorem partL_len (u : U) (j : Nat) : (partL u j).length ≤ u.data.size + padU u + 4 + 4 * u.list.length := by
  have h := partQ_len u
  unfold partL
  rw [List.length_append, be4_length]
  have := List.length_take_le j u.list
  have h2 : (u.list.take j).length ≤ u.list.length := by rw [List.length_take]; omega
  omega
theorem partP_len (u : U) : (partP u).length ≤ u.data.size + padU u + 8 + 4 * u.list.length := by
  have h := partL_len u u.list.length
  unfold partP; rw [List.length_append]; split <;> simp [be4_len] <;> omega
theorem partM_len (u : U) : (partM u).length ≤ u.data.size + padU u + 12 + 4 * u.list.length := by
  have h := partP_len u
  unfold partM; rw [List.length_append]; split <;> simp [be4_len] <;> omega
theorem padU_lt (u : U) : padU u ≤ 3 := by unfold padU; omega
theorem part0_succ (u : U) (z : Nat) : part0 u z ++ [0] = part0 u (z + 1) := by
  unfold part0; rw [List.append_assoc, List.replicate_succ']
theorem partL_succ (u : U) (j : Nat) (h : j < u.list.length) : partL u j ++ be4 (u.list.getD j 0) = partL u (j + 1) := by
  unfold partL; rw [List.append_assoc, take_succ' u.list 0 j h, List.flatMap_append]; simp
theorem partL_zero (u : U) : partL u 0 = partQ u := by simp [partL]
theorem pad_at {z n : Nat} (hz : z < (4 - n % 4) % 4) : ((n + z : Nat) : Int) % 4 ≠ 0 := by omega
theorem pad_end (n : Nat) : ((n + (4 - n % 4) % 4 : Nat) : Int) % 4 = 0 := by omega

theorem word_eq (x y : Int) (w : World) (h : x = y) (h0 : 0 ≤ y) (h1 : y < 4294967296) :
    Calls Tryd.prog 51 #[.int .i64 x] w fun e w' => e = .returned (.string (strOfNums (be4 y))) ∧ Below w.heap.size w w' := by
  subst h; exact word_any' x w h0 h1

set_option maxRecDepth 100000 in
set_option maxHeartbeats 40000000 in
theorem rbytes_any (kind sq n ps mr : Int) (a : Option Addr) (m cap : Nat) (L : List Int) (self : Bool) (data : ByteArray) (w : World) (hL : RdI .i64 w a m L) (hll : m ≤ 1000000)
    (hn : 0 ≤ n) (hps : 0 ≤ ps) (hmr : 0 ≤ mr) (hpos : ∀ z ∈ L, 0 ≤ z) :
    Calls Tryd.prog 37 #[.agg #[.int .i64 kind, .int .i64 sq, .int .i64 n, .int .i64 ps, .int .i64 mr, .slice a m cap, .bool self, .string data]] w fun e w' => e = .returned (.string (bytesU ⟨kind, sq, n, ps, mr, L, self, data⟩)) ∧ Below w.heap.size w w' := by
  have H0 : Hid (RAt w (w.alloc (.cells (aggR kind sq n ps mr (.slice a m cap) self data) 24)) w.heap.size kind sq n ps mr a m cap L self data) := Lib.hid (RAt.new hL)
  have hm := hL.1
  have HPOS := Lib.hid hpos
  clear hL hpos
  obtain ⟨k0, k1, k2, k3, k4, k5, k6, k7⟩ := H0.out.cells
  have hcv := conv1
  obtain ⟨c, hc⟩ : ∃ c, checkU ⟨kind, sq, n, ps, mr, L, self, data⟩ = c := ⟨_, rfl⟩
  have HC := Lib.hid hc
  have HM := Lib.hid hm
  clear hc hm
  by_cases hc0 : c = 0
  · have hok := check_ok _ (by rw [HC.out]; exact hc0)
    dsimp only at hok
    obtain ⟨k, hk, hk1, hk2, hs1, hs2, hn1, hp1, hm1, hll2, hd200, hbig⟩ := hok
    subst hk
    have HBI : Hid (bytesU ⟨(k : Int), sq, n, ps, mr, L, self, data⟩ = strOfNums (partM ⟨(k : Int), sq, n, ps, mr, L, self, data⟩ ++ be4 (lastI (padU ⟨(k : Int), sq, n, ps, mr, L, self, data⟩) ⟨(k : Int), sq, n, ps, mr, L, self, data⟩))) := Lib.hid (by
      unfold bytesU; rw [HC.out, if_pos hc0, bytes_parts _ k rfl hk1 hk2])
    have HBIG := Lib.hid hbig
    have hm128 : m ≤ 128 := by have := HM.out; omega
    obtain ⟨u, hu⟩ : ∃ u : U, u = ⟨(k : Int), sq, n, ps, mr, L, self, data⟩ := ⟨_, rfl⟩
    have HU := Lib.hid hu
    rw [← hu] at HBI
    have HUL : Hid (bytesU u = strOfNums (partM u ++ be4 (lastI (padU u) u))) := HBI
    have HUL2 : Hid (u = ⟨(k : Int), sq, n, ps, mr, L, self, data⟩) := Lib.hid hu
    clear hll2 hbig hu
    go_enter Tryd.func37, Tryd.ntmps37
    go_wp2_with fail
    refine (rcheck_any (k : Int) sq n ps mr a m cap L self data _ H0.out.rd hll hn hps hmr HPOS.out).mono ?_; rintro e W1 ⟨rfl, hb1⟩
    rw [HC.out, hc0]
    have H1 := Lib.hid (H0.out.below hb1)
    clear hb1 H0 k0 k1 k2 k3 k4 k5 k6 k7
    obtain ⟨k0, k1, k2, k3, k4, k5, k6, k7⟩ := H1.out.cells
    generalize hg : w.heap.size = g at *
    have HG := Lib.hid hg
    clear hg hc0
    have HUD : Hid (u.data = data ∧ u.kind = (k : Int) ∧ u.sq = sq ∧ u.n = n ∧ u.ps = ps ∧ u.mr = mr ∧ u.list = L ∧ u.self = self) := Lib.hid (by rw [HU.out]; exact ⟨rfl, rfl, rfl, rfl, rfl, rfl, rfl, rfl⟩)
    obtain ⟨pd, hpd⟩ : ∃ pd, padU u = pd := ⟨_, rfl⟩
    have hpd3 : pd ≤ 3 := by rw [← hpd]; exact padU_lt u
    have hpe : pd = (4 - data.size % 4) % 4 := by rw [← hpd]; unfold padU; rw [HUD.out.1]
    have HPD := Lib.hid hpd
    have HPE := Lib.hid hpe
    have H0l : Hid (data = strOfNums (part0 u 0)) := Lib.hid (by unfold part0; rw [HUD.out.1, List.replicate_zero, List.append_nil, str_data])
    clear hpd hpe k0 k1 k2 k3 k4 k5 k6
    go_wp2_with fail
    clear k7
    go_loopw [3, 4] (fun s3 s4 wx => ∃ z : Nat, z ≤ pd ∧ s4 = .int .i64 (z : Int) ∧ s3 = .string (strOfNums (part0 u z)) ∧ Hid (RAt w wx g (k : Int) sq n ps mr a m cap L self data)) (fun _ s4 _ => pd - (intOf s4).toNat)
    case atStart => exact ⟨0, Nat.zero_le _, rfl, congrArg Value.string H0l.out, H1⟩
    case round =>
      obtain ⟨z, hz, rfl, rfl, hr⟩ := hrel
      obtain ⟨q, hq⟩ : ∃ q, data.size + z = q := ⟨_, rfl⟩
      have hsz : (strOfNums (part0 u z)).size = q := by rw [str_size, part0_len, HUD.out.1, hq]
      have hq9 : q ≤ 1000 := by omega
      by_cases hlt : z < pd
      · have hm4 : ((q : Int) % 4 != 0) = true := by rw [bne_iff_ne]; have := HPE.out; omega
        have hadd := fun w => add_ok (part0 u z) [0] (by rw [part0_len, HUD.out.1]; simp; omega) w
        rw [part0_succ] at hadd
        have HS := Lib.hid hsz
        have HLT := Lib.hid hlt
        have hz3 : (z : Int) ≤ 3 := by omega
        have hz0 : (0 : Int) ≤ (z : Int) := by omega
        clear hsz hq hlt hz
        generalize hXX : strOfNums (part0 u z) = X at *
        have hsz : X.size = q := HS.out
        have HXX := Lib.hid hXX
        clear hXX
        go_wp2_with fail
        go_roundw
        case rel => exact ⟨z + 1, HLT.out, by go_num, rfl, Lib.hid (hr.out.below ((Below.refl _ _).alloc (Nat.le_refl _) _))⟩
        case measure => have := HLT.out; simp [intOf]; omega
      · have hzp : z = pd := by omega
        have hm4 : ((q : Int) % 4 != 0) = false := by rw [bne_eq_false_iff_eq]; have := HPE.out; omega
        have HS := Lib.hid hsz
        have HZ := Lib.hid hzp
        clear hsz hq hlt hz hzp
        generalize hXX : strOfNums (part0 u z) = X at *
        have hsz : X.size = q := HS.out
        have HXX := Lib.hid hXX
        clear hXX
        obtain ⟨k0, k1, k2, k3, k4, k5, k6, k7⟩ := hr.out.cells
        have hz3 : (z : Int) ≤ 3 := by have := HZ.out; omega
        have hz00 : (0 : Int) ≤ (z : Int) := by omega
        have HXP : Hid (X = strOfNums (part0 u pd)) := Lib.hid (by rw [← HXX.out, HZ.out])
        have HB1 : Hid (∀ x : Int, (be4 x).length = 4) := Lib.hid be4_len
        clear k1 k2 k3 k4 k5 k6 k7
        go_upto_if 25 with (refine (hasSQ_any (k : Int) _).mono ?_; rintro e W2 ⟨rfl, hb2⟩)
        have hr2 := Lib.hid (hr.out.below hb2)
        clear hr hb2 k0 hm4 hsz
        obtain ⟨b, hb⟩ : ∃ b, hasSQ (k : Int) = b := ⟨_, rfl⟩
        have HBQ := Lib.hid hb
        rw [hb]
        go_cut [3] (fun s3 wx => s3 = .string (strOfNums (partQ u)) ∧ Hid (RAt w wx g (k : Int) sq n ps mr a m cap L self data))
        case first =>
          obtain ⟨k0, k1, k2, k3, k4, k5, k6, k7⟩ := hr2.out.cells
          have HPQ : Hid (partQ u = part0 u pd ++ (if b then be4 sq else [])) := Lib.hid (by unfold partQ; rw [HPD.out, HUD.out.2.1, HUD.out.2.2.1, HBQ.out])
          rw [HXP.out]
          clear hb
          cases b
          · go_wp2_with fail
            go_meet
            exact ⟨by rw [HPQ.out]; simp, hr2⟩
          · have hadd := fun w => add_ok (part0 u pd) (be4 sq) (by rw [part0_len, HUD.out.1, be4_len]; omega) w
            have HPQ2 : Hid (partQ u = part0 u pd ++ be4 sq) := Lib.hid (by rw [HPQ.out]; rfl)
            rw [← HPQ2.out] at hadd
            have hws : wordS sq = strOfNums (be4 sq) := rfl
            have HWS := Lib.hid hws
            clear hws
            go_wp2_with (refine (word_any' sq _ hs1 (by omega)).mono ?_; rintro e W3 ⟨rfl, hb3⟩; rw [HWS.out])
            go_meet
            exact ⟨rfl, Lib.hid (hr2.out.below hb3)⟩
        case rest =>
          obtain ⟨rfl, hr3⟩ := hcut
          clear hr2 hb
          obtain ⟨k0, k1, k2, k3, k4, k5, k6, k7⟩ := hr3.out.cells
          have hz0 : partQ u = partL u 0 := (partL_zero u).symm
          rw [hz0]
          clear k1 k2 k3 k4 k6 k7 hz0
          have HPLEN : Hid (∀ j, (partL u j).length ≤ 800) := Lib.hid (fun j => by
            have h1 := partL_len u j
            have h2 := HUD.out
            have h3 := HM.out
            rw [h2.1, h2.2.2.2.2.2.2.1, HPD.out] at h1
            omega)
          go_wp2_with fail
          clear k0 k5
          go_loopw [3, 34] (fun s3 s34 wx => ∃ j : Nat, j ≤ m ∧ s34 = .int .i64 (j : Int) ∧ s3 = .string (strOfNums (partL u j)) ∧ Hid (RAt w wx g (k : Int) sq n ps mr a m cap L self data)) (fun _ i _ => m - (intOf i).toNat)
          case atStart => exact ⟨0, Nat.zero_le _, rfl, rfl, hr3⟩
          case round =>
            obtain ⟨j, hj, rfl, rfl, hrj⟩ := hrel
            by_cases hlt : j < m
            · obtain ⟨bb, off, rfl, hblt, hcell⟩ := hrj.out.rd.at_ hlt
              obtain ⟨x, hx⟩ : ∃ x, L.getD j 0 = x := ⟨_, rfl⟩
              rw [hx] at hcell
              have hx0 : 0 ≤ x ∧ x < 4294967296 := by
                have hjl : j < L.length := by have := HM.out; omega
                have hmem : x ∈ L := by rw [← hx]; simp [List.getD, hjl]
                have h1 := HPOS.out x hmem
                have h2 := HBIG.out
                unfold anyBig at h2
                have h3 := List.any_eq_false.1 h2 x hmem
                simp at h3
                omega
              have hadd := fun w => add_ok (partL u j) (be4 x) (by have := HPLEN.out j; rw [be4_len]; omega) w
              have HSUC : Hid (partL u j ++ be4 x = partL u (j + 1)) := Lib.hid (by rw [← hx, ← HUD.out.2.2.2.2.2.2.1]; exact partL_succ u j (by rw [HUD.out.2.2.2.2.2.2.1]; have := HM.out; omega))
              rw [HSUC.out] at hadd
              have HWS : Hid (wordS x = strOfNums (be4 x)) := Lib.hid rfl
              have HLT := Lib.hid hlt
              have HX0 := Lib.hid hx0
              clear hx hx0 hj hblt
              go_wp2_with (refine (word_any' x _ HX0.out.1 HX0.out.2).mono ?_; rintro e W3 ⟨rfl, hb3⟩; rw [HWS.out])
              go_roundw
              case rel => exact ⟨j + 1, HLT.out, by go_num, rfl, Lib.hid (hrj.out.below hb3)⟩
              case measure => simp [intOf]; have := HLT.out; omega
            · obtain rfl : j = m := by omega
              have HML : Hid (partL u j = partL u u.list.length) := Lib.hid (by rw [HUD.out.2.2.2.2.2.2.1, HM.out])
              rw [HML.out]
              obtain ⟨k0, k1, k2, k3, k4, k5, k6, k7⟩ := hrj.out.cells
              have HLL : Hid ((partL u u.list.length).length ≤ 800) := Lib.hid (HPLEN.out _)
              clear hj hlt k0 k1 k2 k3 k4 k5 k6 k7
              have HLA : Hid (lastI (padU u) u = (z : Int) * 1073741824 + (if self then 536870912 else 0) + (k : Int) * 16777216 + n) := Lib.hid (by unfold lastI; rw [HPD.out, HZ.out, HUD.out.2.1, HUD.out.2.2.2.1, HUD.out.2.2.2.2.2.2.2])
              obtain ⟨Y, hY⟩ : ∃ Y, lastI (padU u) u = Y := ⟨_, rfl⟩
              rw [hY] at HLA
              rw [hY] at HBI
              have HYB : Hid (0 ≤ Y ∧ Y < 4294967296) := Lib.hid (by rw [HLA.out]; cases self <;> simp <;> omega)
              have HPP : Hid (partP u = partL u u.list.length ++ (if (k : Int) = 10 ∨ (k : Int) = 11 then be4 ps else [])) := Lib.hid (by unfold partP; rw [HUD.out.2.1, HUD.out.2.2.2.2.1])
              have HPM : Hid (partM u = partP u ++ (if (k : Int) = 11 ∨ (k : Int) = 12 then be4 mr else [])) := Lib.hid (by unfold partM; rw [HUD.out.2.1, HUD.out.2.2.2.2.2.1])
              have HWP : Hid (wordS ps = strOfNums (be4 ps)) := Lib.hid rfl
              have HWM : Hid (wordS mr = strOfNums (be4 mr)) := Lib.hid rfl
              have HPS : Hid (0 ≤ ps ∧ ps < 4294967296) := Lib.hid ⟨hps, by omega⟩
              have HMR : Hid (0 ≤ mr ∧ mr < 4294967296) := Lib.hid ⟨hmr, by omega⟩
              obtain ⟨PL, hPL⟩ : ∃ PL, partL u u.list.length = PL := ⟨_, rfl⟩
              rw [hPL] at HPP HLL ⊢
              obtain ⟨P, hP⟩ : ∃ P, decide ((k : Int) = 10 ∨ (k : Int) = 11) = P := ⟨_, rfl⟩
              obtain ⟨R, hR⟩ : ∃ R, decide ((k : Int) = 11 ∨ (k : Int) = 12) = R := ⟨_, rfl⟩
              have HP := Lib.hid hP
              have HR := Lib.hid hR
              obtain ⟨PP, hPP⟩ : ∃ PP, partP u = PP := ⟨_, rfl⟩
              obtain ⟨PM, hPM⟩ : ∃ PM, partM u = PM := ⟨_, rfl⟩
              rw [hPP] at HPP HPM
              rw [hPM] at HPM HBI
              have HP2 : Hid (PP = PL ++ (if P then be4 ps else [])) := Lib.hid (by rw [HPP.out, ← hP]; by_cases h : (k : Int) = 10 ∨ (k : Int) = 11 <;> simp [h])
              have HM2 : Hid (PM = PP ++ (if R then be4 mr else [])) := Lib.hid (by rw [HPM.out, ← hR]; by_cases h : (k : Int) = 11 ∨ (k : Int) = 12 <;> simp [h])
              have HLP : Hid (PP.length ≤ 804) := Lib.hid (by rw [HP2.out]; have := HLL.out; split <;> simp [be4_len] <;> omega)
              have HLM : Hid (PM.length ≤ 808) := Lib.hid (by rw [HM2.out]; have := HLP.out; split <;> simp [be4_len] <;> omega)
              have HEND : Hid (strOfNums (PM ++ be4 Y) = bytesU u) := Lib.hid HBI.out.symm
              clear hP hR hPP hPM hPL HPP HPM
              obtain ⟨k0, k1, k2, k3, k4, k5, k6, k7⟩ := hrj.out.cells
              clear k1 k2 k3 k4 k5 k6 k7
              go_upto_region 15 with (fail)
              go_cut [50] (fun s50 wx => s50 = .bool P ∧ wx = wr)
              case first =>
                by_cases h10 : (k : Int) = 10
                · have hb : ((k : Int) == 10) = true := by simp [h10]
                  have H10 := Lib.hid h10
                  clear h10
                  go_wp2_with fail
                  go_meet
                  exact ⟨by rw [← HP.out]; simp [H10.out], rfl⟩
                · have hb : ((k : Int) == 10) = false := by simp [h10]
                  have H10 := Lib.hid h10
                  clear h10
                  go_wp2_with fail
                  go_meet
                  exact ⟨by rw [← HP.out]; have h := H10.out; by_cases h11 : (k : Int) = 11 <;> simp [h, h11], rfl⟩
              case rest =>
                obtain ⟨rfl, rfl⟩ := hcut
                go_upto_if 50 with (fail)
                clear k0
                go_cut [3] (fun s3 wx => s3 = .string (strOfNums PP) ∧ Hid (RAt w wx g (k : Int) sq n ps mr a j cap L self data))
                case first =>
                  obtain ⟨_, _, _, k3, _, _, _, _⟩ := hrj.out.cells
                  cases P
                  · go_wp2_with fail
                    go_meet
                    exact ⟨by rw [HP2.out]; simp, hrj⟩
                  · have hadd := fun w => add_ok PL (be4 ps) (by have := HLL.out; rw [be4_len]; omega) w
                    have HPX : Hid (PP = PL ++ be4 ps) := Lib.hid (by rw [HP2.out]; simp)
                    rw [← HPX.out] at hadd
                    go_wp2_with (refine (word_any' ps _ HPS.out.1 HPS.out.2).mono ?_; rintro e W3 ⟨rfl, hb3⟩; rw [HWP.out])
                    go_meet
                    exact ⟨rfl, Lib.hid (hrj.out.below hb3)⟩
                case rest =>
                  obtain ⟨rfl, hr6⟩ := hcut
                  clear hrj
                  obtain ⟨k0, _, _, _, _, _, _, _⟩ := hr6.out.cells
                  go_upto_region 17 with (fail)
                  go_cut [63] (fun s63 wx => s63 = .bool R ∧ wx = wc)
                  case first =>
                    by_cases h10 : (k : Int) = 11
                    · have hb : ((k : Int) == 11) = true := by simp [h10]
                      have H10 := Lib.hid h10
                      clear h10
                      go_wp2_with fail
                      go_meet
                      exact ⟨by rw [← HR.out]; simp [H10.out], rfl⟩
                    · have hb : ((k : Int) == 11) = false := by simp [h10]
                      have H10 := Lib.hid h10
                      clear h10
                      go_wp2_with fail
                      go_meet
                      exact ⟨by rw [← HR.out]; have h := H10.out; by_cases h11 : (k : Int) = 12 <;> simp [h, h11], rfl⟩
                  case rest =>
                    obtain ⟨rfl, rfl⟩ := hcut
                    go_upto_if 63 with (fail)
                    clear k0
                    go_cut [3] (fun s3 wx => s3 = .string (strOfNums PM) ∧ Hid (RAt w wx g (k : Int) sq n ps mr a j cap L self data))
                    case first =>
                      obtain ⟨_, _, _, _, k4, _, _, _⟩ := hr6.out.cells
                      cases R
                      · go_wp2_with fail
                        go_meet
                        exact ⟨by rw [HM2.out]; simp, hr6⟩
                      · have hadd := fun w => add_ok PP (be4 mr) (by have := HLP.out; rw [be4_len]; omega) w
                        have HPX : Hid (PM = PP ++ be4 mr) := Lib.hid (by rw [HM2.out]; simp)
                        rw [← HPX.out] at hadd
                        go_wp2_with (refine (word_any' mr _ HMR.out.1 HMR.out.2).mono ?_; rintro e W3 ⟨rfl, hb3⟩; rw [HWM.out])
                        go_meet
                        exact ⟨rfl, Lib.hid (hr6.out.below hb3)⟩
                    case rest =>
                      obtain ⟨rfl, hr7⟩ := hcut
                      clear hr6
                      obtain ⟨k0, _, k2, _, _, _, k6, _⟩ := hr7.out.cells
                      have hadd3 := fun w => add_ok PM (be4 Y) (by have := HLM.out; rw [be4_len]; omega) w
                      cases self
                      all_goals
                        simp at HLA
                        go_upto_region 22 with (fail)
                        go_wp2_with (refine (word_eq _ Y _ (by have := HLA.out; omega) HYB.out.1 HYB.out.2).mono ?_; rintro e W3 ⟨rfl, hb3⟩)
                        go_ret
                        have e := HEND.out
                        rw [HUL2.out] at e
                        refine ⟨congrArg (fun s => Ending.returned (Value.string s)) e, by rw [HG.out]; exact (hr7.out.below hb3).bel⟩
  · go_enter Tryd.func37, Tryd.ntmps37
    go_wp2_with fail
    refine (rcheck_any kind sq n ps mr a m cap L self data _ H0.out.rd hll hn hps hmr HPOS.out).mono ?_; rintro e W1 ⟨rfl, hb1⟩
    rw [HC.out]
    have hcb : (c != 0) = true := by rw [bne_iff_ne]; exact hc0
    have HBU : Hid (bytesU ⟨kind, sq, n, ps, mr, L, self, data⟩ = ⟨#[]⟩) := Lib.hid (by unfold bytesU; rw [HC.out, if_neg hc0])
    have H1 := Lib.hid (H0.out.below hb1)
    clear hb1 hc0
    go_wp2_with fail
    go_ret
    exact ⟨by rw [HBU.out]; rfl, H1.out.bel⟩
end Go.Proofs.YthigcaakkjfghaaDoor.Pdu
