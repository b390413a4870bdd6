/-
  Gaps: the document's own set of pairs.
-/
import Derived.Test.YtdnikjjcgoilfaaGapsC
import Derived.Test.YtdnikjjcgoilfaaSpanList
namespace Go.Proofs.Ytdnikjjcgoilfaa.Gaps
open Go.ChangeShapes Go.WideShapes Go.RowKit SpanMath

def lastI (b : Int) (L : List Int) : Nat → Int
  | 0 => -1
  | i + 1 => wayI b (L.getD i 0)
def outTo (b : Int) (L : List Int) : Nat → List Int
  | 0 => []
  | i + 1 => outTo b L i ++ (if i % 2 = 1 then SpanCalls.head (lastI b L i) (wayI b (L.getD i 0) - lastI b L i).toNat else [])
def outL (b t : Int) (L : List Int) : List Int := if goodS b t L = true then outTo b L L.length else []
theorem outL_bad {b t : Int} {L : List Int} (h : goodS b t L = false) : outL b t L = [] := by unfold outL; rw [h]; rfl
theorem outL_good {b t : Int} {L : List Int} (h : goodS b t L = true) : outL b t L = outTo b L L.length := if_pos h
set_option maxRecDepth 100000 in
set_option maxHeartbeats 4000000 in
theorem rset_any (b t : Int) (a : Option Addr) (n cap : Nat) (L : List Int) (w : World) (h : Own.RdI .i64 w a n L) (hn : n ≤ 20) (hb : 0 ≤ b ∧ b < 16777216) (ht : 0 ≤ t ∧ t < 16777216)
    (hp : ∀ z ∈ L, 0 ≤ z ∧ z < 16777216 ∧ (wayI b z ≤ 300 ∨ 8388608 < wayI b z)) :
    Calls Try.prog 23 #[.int .i64 b, .int .i64 t, .slice a n cap] w fun e w' => ∃ v, e = .returned (.tuple #[v, .bool (goodS b t L)]) ∧ Own.OwnI .i64 3 w' w.heap.size v (outL b t L) ∧ (outL b t L).length ≤ 301 ∧ Below w.heap.size w w' := by
  have HL := Lib.hid h
  have HLN := Lib.hid h.1
  have HP := Lib.hid hp
  obtain ⟨q, hq⟩ : ∃ q, wayI b t = q := ⟨_, rfl⟩
  have hqb := way_bounds b t
  rw [hq] at hqb
  obtain ⟨q0, q1⟩ := hqb
  have HQ : Hid ((t - b) % 16777216 = q) := Lib.hid hq
  have HG : Hid (goodS b t L = (decide (q ≤ 8388608) && (decide (n % 2 = 0) && riseL b q 0 L))) := Lib.hid (by unfold goodS; rw [hq, ← h.1])
  obtain ⟨b0, b1⟩ := hb
  obtain ⟨t0, t1⟩ := ht
  have hn2 : (n : Int) ≤ 20 := by omega
  clear h hp hq
  go_enter Try.func23, Try.ntmps23
  go_wp2_with fail
  refine (SeqCalls.rto_any b t w (by omega) (by omega) (by omega) (by omega)).mono ?_; rintro e w2 ⟨rfl, rfl⟩
  rw [HQ.out]
  by_cases hodd : n % 2 = 1
  · have hm : ((n : Int) % 2 == 1) = true := by have : (n : Int) % 2 = 1 := by omega
                                                rw [this]; rfl
    have HF : Hid (goodS b t L = false) := Lib.hid (by rw [HG.out, decide_eq_false (show ¬ n % 2 = 0 by omega)]; simp)
    go_wp2_with fail
    go_ret2
    exact ⟨.slice none 0 0, by rw [HF.out]; rfl, by rw [outL_bad HF.out]; exact Own.OwnI.nil, by rw [outL_bad HF.out]; simp, Below.refl _ _⟩
  · have hm : ((n : Int) % 2 == 1) = false := by have : (n : Int) % 2 = 0 := by omega
                                                 rw [this]; rfl
    by_cases hfar : 8388608 < q
    · have HF : Hid (goodS b t L = false) := Lib.hid (by rw [HG.out, decide_eq_false (show ¬ q ≤ 8388608 by omega)]; simp)
      go_wp2_with fail
      go_ret2
      exact ⟨.slice none 0 0, by rw [HF.out]; rfl, by rw [outL_bad HF.out]; exact Own.OwnI.nil, by rw [outL_bad HF.out]; simp, Below.refl _ _⟩
    · have HG2 : Hid (goodS b t L = riseL b q 0 L) := Lib.hid (by rw [HG.out, decide_eq_true (show q ≤ 8388608 by omega), decide_eq_true (show n % 2 = 0 by omega)]; simp)
      clear HG
      go_wp2_with fail
      clear hm
      go_loopw [9, 10, 29] (fun s9 s10 s29 wr => ∃ (i : Nat) (y : Int), i ≤ n ∧ s29 = .int .i64 (i : Int) ∧ s10 = .int .i64 y ∧ Hid (lastI b L i = y) ∧ -1 ≤ y ∧ y ≤ 300 ∧ Hid (Own.OwnI .i64 3 wr w.heap.size s9 (outTo b L i)) ∧ Hid (((outTo b L i).length : Int) ≤ y + 1) ∧ Hid (riseL b q 0 L = riseL b q (y + 1) (L.drop i)) ∧ Hid (Below w.heap.size w wr)) (fun _ _ s29 _ => n - (intOf s29).toNat)
      case atStart => exact ⟨0, -1, Nat.zero_le _, rfl, rfl, Lib.hid rfl, by omega, by omega, Lib.hid (Own.ownI_empty w _ (Nat.le_refl _) rfl), Lib.hid (by simp [outTo]), Lib.hid (by simp), Lib.hid ((Below.refl _ _).alloc (Nat.le_refl _) _)⟩
      case round =>
        obtain ⟨i, y, hi, rfl, rfl, HY, y0, y1, ho, HOL, HR, hb⟩ := hrel
        obtain ⟨av, nv, cv, rfl, hfv, hrv⟩ := ho.out.form
        clear hfv hrv
        by_cases hlt : i < n
        · obtain ⟨bb, of, rfl, _, hc⟩ := (HL.out.below hb.out).at_ hlt
          have hil : i < L.length := by have := HLN.out; omega
          obtain ⟨x, hx⟩ : ∃ x, L.getD i 0 = x := ⟨_, rfl⟩
          have hxp := HP.out x (by rw [← hx]; simp [List.getD, hil])
          obtain ⟨x0, x1, x2⟩ := hxp
          rw [hx] at hc
          obtain ⟨u, hu⟩ : ∃ u, wayI b x = u := ⟨_, rfl⟩
          have hub := way_bounds b x
          rw [hu] at hub x2
          obtain ⟨u0, u1⟩ := hub
          have HU : Hid ((x - b) % 16777216 = u) := Lib.hid hu
          have HR2 : Hid (riseL b q 0 L = if u < y + 1 ∨ u > q then false else riseL b q (u + 1) (L.drop (i + 1))) := Lib.hid (by rw [HR.out, drop_cons L i hil, riseL, hx, hu])
          have HY2 : Hid (lastI b L (i + 1) = u) := Lib.hid (by rw [lastI, hx, hu])
          have HO2 : Hid (outTo b L (i + 1) = outTo b L i ++ (if i % 2 = 1 then SpanCalls.head y (u - y).toNat else [])) := Lib.hid (by rw [outTo, hx, hu, HY.out])
          have HLT := Lib.hid hlt
          have HX2 := Lib.hid x2
          have hki : (i : Int) < (n : Int) := by omega
          clear hx hu hil hlt hi HR x2
          go_wp2_with fail
          refine (SeqCalls.rto_any b x _ (by omega) (by omega) (by omega) (by omega)).mono ?_; rintro e w2 ⟨rfl, rfl⟩
          rw [HU.out]
          clear hc
          by_cases hlow : u ≤ y
          · have HF : Hid (goodS b t L = false) := Lib.hid (by rw [HG2.out, HR2.out, if_pos (by omega)])
            go_wp2_with fail
            go_ret2
            exact ⟨.slice none 0 0, by rw [HF.out]; rfl, by rw [outL_bad HF.out]; exact Own.OwnI.nil, by rw [outL_bad HF.out]; simp, hb.out⟩
          · by_cases hhigh : q < u
            · have HF : Hid (goodS b t L = false) := Lib.hid (by rw [HG2.out, HR2.out, if_pos (by omega)])
              go_wp2_with fail
              go_ret2
              exact ⟨.slice none 0 0, by rw [HF.out]; rfl, by rw [outL_bad HF.out]; exact Own.OwnI.nil, by rw [outL_bad HF.out]; simp, hb.out⟩
            · have HR3 : Hid (riseL b q 0 L = riseL b q (u + 1) (L.drop (i + 1))) := Lib.hid (by rw [HR2.out, if_neg (by omega)])
              have hu3 : u ≤ 300 := by have := HX2.out; omega
              clear HR2
              obtain ⟨T, hT⟩ : ∃ T, outTo b L i = T := ⟨_, rfl⟩
              rw [hT] at ho HO2 HOL
              clear hT
              by_cases hpar : i % 2 = 1
              · have hpp : ((i : Int) % 2 == 1) = true := by have : (i : Int) % 2 = 1 := by omega
                                                             rw [this]; rfl
                have HO3 : Hid (outTo b L (i + 1) = T ++ SpanCalls.head y (u - y).toNat) := Lib.hid (by rw [HO2.out, if_pos hpar])
                clear hpar
                go_wp2_with fail
                obtain ⟨W0, hW0⟩ : ∃ W0, W0 = wr := ⟨_, rfl⟩
                rw [← hW0] at ho hb ⊢
                clear hW0
                go_loopw [9, 14] (fun s9 s14 wi => ∃ j : Nat, (j : Int) ≤ u - y ∧ s14 = .int .i64 (y + (j : Int)) ∧ Hid (Own.OwnI .i64 3 wi w.heap.size s9 (T ++ SpanCalls.head y j)) ∧ Hid (Below w.heap.size w wi)) (fun _ s14 _ => (u - intOf s14).toNat)
                case atStart => exact ⟨0, by omega, by go_num, Lib.hid (by simpa [SpanCalls.head] using ho.out), hb⟩
                case round =>
                  obtain ⟨j, hj, rfl, hoi, hbi⟩ := hrel
                  obtain ⟨a5, n5, c5, rfl, hf5, hr5⟩ := hoi.out.form
                  clear hf5 hr5
                  by_cases hjl : y + (j : Int) < u
                  · have HLEN : Hid ((T ++ SpanCalls.head y j).length + 1 ≤ 1000000) := Lib.hid (by rw [List.length_append, SpanCalls.head_len]; have := HOL.out; omega)
                    have HW : Hid (w.heap.size ≤ wr.heap.size) := Lib.hid hbi.out.size
                    go_wp2_with (at_builtin; refine Own.wpList_appI infoI (by decide) rfl (.tmp 56) (.tmp 58) 24 rfl Try.underlying24 w.heap.size _ _ rfl (hoi.out.below ((Below.refl _ _).alloc (Nat.le_refl _) _)) _ 1 1 [_] rfl (Own.rdI_lit1_at _ _ _ _ _ rfl) (fun h => by cases h) HLEN.out (by have := HW.out; simp; omega) ?_; intro v8 w8 hown8 hgrow8; have HO8 := Lib.hid hown8; have HB8 : Hid (Below w.heap.size w w8) := Lib.hid (Own.own_grown (hbi.out.alloc HW.out _) (by have := HW.out; simp; omega) hgrow8 (hoi.out.below ((Below.refl _ _).alloc (Nat.le_refl _) _))); clear hown8 hgrow8)
                    go_roundw
                    case rel => exact ⟨j + 1, by omega, by go_num, Lib.hid (by have := HO8.out; rw [SpanCalls.head_succ, ← List.append_assoc]; exact this), HB8⟩
                    case measure => simp [intOf]; omega
                  · have hje : (u - y).toNat = j := by omega
                    have HO4 : Hid (outTo b L (i + 1) = T ++ SpanCalls.head y j) := Lib.hid (by rw [HO3.out, hje])
                    clear hje
                    go_wp2_with fail
                    go_roundw
                    case rel => exact ⟨i + 1, u, HLT.out, by go_num, rfl, HY2, by omega, by omega, Lib.hid (by rw [HO4.out]; exact hoi.out), Lib.hid (by rw [HO4.out, List.length_append, SpanCalls.head_len]; have := HOL.out; omega), HR3, hbi⟩
                    case measure => simp [intOf]; have := HLT.out; omega
              · have hpp : ((i : Int) % 2 == 1) = false := by have : (i : Int) % 2 = 0 := by omega
                                                              rw [this]; rfl
                have HO3 : Hid (outTo b L (i + 1) = T) := Lib.hid (by rw [HO2.out, if_neg hpar, List.append_nil])
                clear hpar
                go_wp2_with fail
                go_loop [9, 14] (fun s9 s14 => s9 = .slice av nv cv ∧ s14 = .int .i64 y) (fun _ _ => 0)
                case atStart => exact ⟨rfl, rfl⟩
                case round =>
                  obtain ⟨rfl, rfl⟩ := hrel
                  go_wp2_with fail
                  go_roundw
                  case rel => exact ⟨i + 1, u, HLT.out, by go_num, rfl, HY2, by omega, by omega, Lib.hid (by rw [HO3.out]; exact ho.out), Lib.hid (by rw [HO3.out]; have := HOL.out; omega), HR3, hb⟩
                  case measure => simp [intOf]; have := HLT.out; omega
        · obtain rfl : i = n := by omega
          have HT : Hid (goodS b t L = true) := Lib.hid (by rw [HG2.out, HR.out, List.drop_of_length_le (by have := HLN.out; omega)]; rfl)
          clear hi hlt
          go_wp2_with fail
          go_ret2
          exact ⟨_, by rw [HT.out]; rfl, by rw [outL_good HT.out, ← HLN.out]; exact ho.out, by rw [outL_good HT.out, ← HLN.out]; have := HOL.out; omega, hb.out⟩
end Go.Proofs.Ytdnikjjcgoilfaa.Gaps
