/-
  PipePlays is proved: behind any calls a pipe has what the document says, and what comes of a frame is what was chosen; for every input the law returns true.
-/
import Derived.Test.YtoeoigclleijmaaBase
import Derived.Test.YtoeoigclleijmaaPipe6
import Derived.Test.YtoeoigclleijmaaViewR
import Derived.IntWalk
import Derived.Deep.DeepCutAuto
import Derived.Deep.CutBlock
namespace Go.Proofs.Ytoeoigclleijmaa.pipePlays
open Go.ChangeShapes Go.WideShapes Go.ChangeAt Go.RowKit
set_option linter.unusedVariables false      -- a walk need not use every bound of an argument

open PipeS RingS ViewT TurnP CrcCalls

theorem sub_wrap (m n : Nat) (h : m ≤ 4096) (hn : n ≤ m) : ∃ d : Nat, (m : Int) - ((n : Nat) : Int) = (d : Int) ∧ wrap64 ((m : Int) - ((n : Nat) : Int)) = (d : Int) ∧ IntKind.i64.wrap ((m : Int) - ((n : Nat) : Int)) = (d : Int) :=
  ⟨m - n, by omega, by unfold wrap64; omega, by rw [IntKind.wrap_i64]; omega⟩
structure St (w : World) (B R mm i : Nat) (n cap : Nat) (a : Option Addr) (L : List V) (G : Option Nat) (p c h : Nat) (x : World) : Prop where
  pat : PAt w w.heap.size B R mm L G p c h x
  rd : RdI x a n L
  away : Away B R G a n
  fit : Fit a n cap
  small : ∀ y ∈ L, y.size ≤ 20
  le : p ≤ i ∧ c ≤ i ∧ h ≤ i
theorem St.below {w x x' : World} {B R mm i n cap : Nat} {a : Option Addr} {L : List V} {G : Option Nat} {p c h : Nat} (H : St w B R mm i n cap a L G p c h x) (hb : Below x.heap.size x x') : St w B R mm i n cap a L G p c h x' :=
  ⟨H.pat.below hb, H.rd.below hb, H.away, H.fit, H.small, H.le⟩
theorem St.next {w x : World} {B R mm i n cap : Nat} {a : Option Addr} {L : List V} {G : Option Nat} {p c h : Nat} (H : St w B R mm i n cap a L G p c h x) : St w B R mm (i + 1) n cap a L G p c h x :=
  ⟨H.pat, H.rd, H.away, H.fit, H.small, by have := H.le; omega⟩

set_option maxRecDepth 100000 in
set_option maxHeartbeats 40000000 in
theorem walk (w : World) (a0 : Int) (w0 : (Lit.int .i64 a0).wf = true) (v1 : Value) (x1 : Base.Dat) (w1 : Base.RdV w (.slice (.struct [.int .i64, .str, .struct [.int .i64, .int .i64, .int .u32]])) x1 v1) :
    Calls Try.prog 3 #[.int .i64 a0, v1] w fun e w' => e = .returned (.bool true) ∧ Below w.heap.size w w' := by
  obtain ⟨y1, y2⟩ := bounds_i64 w0
  obtain ⟨ad, M, cd, D, rfl, hM, hrd⟩ := open_acts w v1 x1 w1
  have HD := Lib.hid hrd
  clear hrd w0 w1 x1
  obtain ⟨mm, hmm, hm1, hm2⟩ : ∃ mm : Nat, min (max a0 1) 256 = (mm : Int) ∧ 1 ≤ mm ∧ mm ≤ 256 := ⟨(min (max a0 1) 256).toNat, by omega, by omega, by omega⟩
  have HMM := Lib.hid hmm
  clear hmm
  go_enter Try.func3, Try.ntmps3
  go_wp2_with fail
  refine (PipeS.awake_any _).mono ?_; rintro e W0 ⟨rfl, hb0⟩
  have HB0 := Lib.hid hb0
  clear hb0
  go_wp2_with fail
  refine (pnew_any w W0 w.heap.size a0 mm (by have := HMM.out; omega) HB0.out HB0.out.size).mono ?_; rintro e W1 ⟨B, R, rfl, _, _, h1⟩
  have H1 := Lib.hid h1
  clear h1
  go_upto_region 6 with (fail)
  go_cut [0] (fun s0 wx => s0 = .int .i64 (mm : Int) ∧ wx = W1)
  case first =>
    have hcase : (256 < a0 ∧ mm = 256) ∨ (a0 ≤ 256 ∧ a0 < 1 ∧ mm = 1) ∨ (a0 ≤ 256 ∧ 1 ≤ a0 ∧ (mm : Int) = a0) := by have := HMM.out; omega
    rcases hcase with ⟨g1, g2⟩ | ⟨g1, g2, g3⟩ | ⟨g1, g2, g3⟩
    all_goals
      go_wp2_with fail
    all_goals go_meet
    all_goals exact ⟨congrArg (Value.int .i64) (by omega), rfl⟩
  case rest =>
  obtain ⟨rfl, rfl⟩ := hcut
  clear y1 y2
  go_wp2_with fail
  go_loopw [6, 7, 8, 9, 10] (fun u6 u7 u8 u9 u10 wr => ∃ (i n cap p c h : Nat) (a : Option Addr) (L : List V) (G : Option Nat), i ≤ 120 ∧ u6 = .slice a n cap ∧ u7 = .int .i64 (p : Int) ∧ u8 = .int .i64 (c : Int) ∧ u9 = .int .i64 (h : Int) ∧ u10 = .int .i64 (i : Int) ∧ Hid (St w B R mm i n cap a L G p c h wr)) (fun _ _ _ _ u10 _ => 120 - (intOf u10).toNat)
  case atStart => exact ⟨0, 0, 0, 0, 0, 0, none, [], none, Nat.zero_le _, rfl, rfl, rfl, rfl, rfl, Lib.hid ⟨H1.out, ⟨rfl, fun h => absurd h (by omega)⟩, away_none _ _ _, ⟨Nat.le_refl _, by simp [maxLen], fun _ => rfl⟩, (fun y hy => by cases hy), ⟨Nat.le_refl _, Nat.le_refl _, Nat.le_refl _⟩⟩⟩
  case round =>
    obtain ⟨i, n, cap, p, c, h, a, L, G, hi, rfl, rfl, rfl, rfl, rfl, HT⟩ := hrel
    clear H1
    have hb0 := HT.out.pat.mine.1
    by_cases hgo : i < M ∧ i < 120
    · obtain ⟨hg1, hg2⟩ := hgo
      have hd1 : decide (i < M) = true := decide_eq_true hg1
      have hd2 : decide ((i : Int) < 120) = true := decide_eq_true (by omega)
      have hi0 : (0 : Int) ≤ (i : Int) := by omega
      have hin : (i : Int) < (M : Int) := by omega
      obtain ⟨b, off, rfl, hbl, c0, c1, c2, c3, c4, hmk⟩ := (HD.out.below hb0) i hg1
      obtain ⟨x, hx⟩ : ∃ x, D i = x := ⟨_, rfl⟩
      rw [hx] at c0 c1 c2 c3 c4 hmk
      clear hx
      obtain ⟨kd, s, k, at_, m⟩ := x
      simp only at c0 c1 c2 c3 c4 hmk
      have HMK := Lib.hid hmk
      have hnm : n ≤ mm := by have := HT.out.pat.facts; have := HT.out.rd.1; omega
      have hcap := HT.out.fit.1
      clear hb0 hmk hbl
      go_upto_region 13 with (fail)
      have hk0 : (wr.alloc (.cells #[.int .i64 kd, .string s, .int .i64 k, .int .i64 at_, .int .u32 m] 31)).heap[wr.heap.size]? = some (.cells #[.int .i64 kd, .string s, .int .i64 k, .int .i64 at_, .int .u32 m] 31 (0, 0)) := heap_alloc_new wr _
      have HT1 : Hid (St w B R mm i n cap a L G p c h (wr.alloc (.cells #[.int .i64 kd, .string s, .int .i64 k, .int .i64 at_, .int .u32 m] 31))) := Lib.hid (HT.out.below ((Below.refl _ _).alloc (Nat.le_refl _) _))
      have HK0 := Lib.hid hk0
      clear HT c0 c1 c2 c3 c4 hk0
      generalize wr.alloc (.cells #[.int .i64 kd, .string s, .int .i64 k, .int .i64 at_, .int .u32 m] 31) = W2 at *
      generalize wr.heap.size = g at *
      have d0 : W2.cell? ⟨g, 0, none⟩ = some (.int .i64 kd) := by rw [cell_of_row W2 g 0 _ _ (0, 0) HK0.out]; rfl
      have d1 : W2.cell? ⟨g, 1, none⟩ = some (.string s) := by rw [cell_of_row W2 g 1 _ _ (0, 0) HK0.out]; rfl
      have d2 : W2.cell? ⟨g, 2, none⟩ = some (.int .i64 k) := by rw [cell_of_row W2 g 2 _ _ (0, 0) HK0.out]; rfl
      have d3 : W2.cell? ⟨g, 3, none⟩ = some (.int .i64 at_) := by rw [cell_of_row W2 g 3 _ _ (0, 0) HK0.out]; rfl
      have d4 : W2.cell? ⟨g, 4, none⟩ = some (.int .u32 m) := by rw [cell_of_row W2 g 4 _ _ (0, 0) HK0.out]; rfl
      obtain ⟨s20, hs20, hsz⟩ : ∃ s20, cutL s 20 = s20 ∧ s20.size ≤ 20 := ⟨_, rfl, (cutL_le s 20).1⟩
      have HS20 := Lib.hid hs20
      have HSZ := Lib.hid hsz
      clear hs20 hsz
      go_wp2_with fail
      refine (cut_any s 20 20 W2 rfl).mono ?_; rintro e W3 ⟨rfl, rfl⟩
      rw [HS20.out]
      go_upto_block 2 with (fail)
      go_cut [6, 7, 8, 9] (fun s6 s7 s8 s9 wx => ∃ (n' cap' p' c' h' : Nat) (a' : Option Addr) (L' : List V) (G' : Option Nat), s6 = .slice a' n' cap' ∧ s7 = .int .i64 (p' : Int) ∧ s8 = .int .i64 (c' : Int) ∧ s9 = .int .i64 (h' : Int) ∧ Hid (St w B R mm (i + 1) n' cap' a' L' G' p' c' h' wx))
      case first => as_aux_lemma =>
        have hkd : kd = 1 ∨ kd = 2 ∨ ((kd == 1) = false ∧ (kd == 2) = false) := by
          simp only [beq_eq_false_iff_ne]
          omega
        rcases hkd with rfl | rfl | ⟨hk1, hk2⟩
        · obtain ⟨hp120, hc120, hh120⟩ : p ≤ 120 ∧ c ≤ 120 ∧ h ≤ 120 := by have := HT1.out.le; omega
          have HLN : Hid (n = L.length) := Lib.hid HT1.out.rd.1

          obtain ⟨aN, haN, haB⟩ : ∃ aN, nearI at_ = aN ∧ (-40 ≤ aN ∧ aN ≤ 400) := ⟨_, rfl, nearI_le at_⟩
          have HAN := Lib.hid haN
          have HBD := Lib.hid haB
          clear haN haB
          go_wp2_with fail
          refine (near_any k at_ m W2).mono ?_; rintro e W3 ⟨rfl, hb3⟩
          rw [HAN.out]
          have HT3 := Lib.hid (HT1.out.below hb3)
          clear hb3 d0 d1 d2 d3 d4 HT1 HK0
          go_wp2_with fail
          have hk0 : (W3.alloc (.cells #[.int .i64 k, .int .i64 aN, .int .u32 m] 29)).heap[W3.heap.size]? = some (.cells #[.int .i64 k, .int .i64 aN, .int .u32 m] 29 (0, 0)) := heap_alloc_new W3 _
          have HK4 := Lib.hid hk0
          have HT4 : Hid (St w B R mm i n cap a L G p c h (W3.alloc (.cells #[.int .i64 k, .int .i64 aN, .int .u32 m] 29))) := Lib.hid (HT3.out.below ((Below.refl _ _).alloc (Nat.le_refl _) _))
          have HG4 : Hid (B < W3.heap.size ∧ R < W3.heap.size ∧ ∀ g, G = some g → g < W3.heap.size) := Lib.hid ⟨HT3.out.pat.lt, HT3.out.pat.mine.2.2.2.1.facts.2.2⟩
          clear hk0 HT3
          generalize W3.alloc (.cells #[.int .i64 k, .int .i64 aN, .int .u32 m] 29) = W4 at *
          generalize W3.heap.size = g2 at *
          rcases L with _ | ⟨x, L2⟩
          · obtain rfl : n = 0 := HLN.out
            refine (ptake_none k aN m HT4.out.pat).mono ?_; rintro e W5 ⟨rfl, h5, ho5⟩
            have HT5 : Hid (St w B R mm (i + 1) 0 cap a [] G p c h W5) := Lib.hid ⟨h5, ⟨rfl, fun h => absurd h (by omega)⟩, fun h => absurd h (by omega), HT4.out.fit, (fun y hy => by cases hy), by have := HT4.out.le; omega⟩
            clear h5 ho5
            go_wp2_with fail
            go_roundw
            case rel => exact ⟨i + 1, 0, cap, p, c, h, a, [], G, by omega, rfl, rfl, rfl, rfl, by go_num, HT5⟩
            case measure => simp [intOf]; omega
          · obtain ⟨k2, rfl⟩ : ∃ k2, n = k2 + 1 := ⟨L2.length, HLN.out⟩
            have hn1 : ((k2 + 1 : Nat) : Int) = (k2 : Int) + 1 := by omega
            have hn3 : (0 : Int) < (k2 : Int) + 1 := by omega
            have hn4 : ((k2 : Int) + 1 == 0) = false := by simp; omega
            have hn5 : 0 < k2 + 1 := by omega
            have HSX : Hid (x.size ≤ 1000) := Lib.hid (by have := HT4.out.small x (by simp); omega)
            have HSM2 : Hid (∀ y ∈ L2, y.size ≤ 20) := Lib.hid (fun y hy => HT4.out.small y (List.mem_cons_of_mem _ hy))
            have HLE1 := Lib.hid HT4.out.le
            have HFT := Lib.hid HT4.out.fit
            obtain ⟨c5, hc5⟩ : ∃ c5, (if sameK x k aN m then c + 1 else c) = c5 := ⟨_, rfl⟩
            obtain ⟨h5', hh5⟩ : ∃ h5', (if sameK x k aN m then h else h + 1) = h5' := ⟨_, rfl⟩
            have HCC := Lib.hid (And.intro hc5 hh5)
            obtain ⟨v, hv⟩ : ∃ v, outK x k aN m = v := ⟨_, rfl⟩
            have HV := Lib.hid hv
            have hcase : (k = 2 ∧ turnB x m aN = v ∧ ((v = x ∧ c5 = c + 1 ∧ h5' = h) ∨ (v ≠ x ∧ c5 = c ∧ h5' = h + 1))) ∨ (k = 1 ∧ v = ⟨#[]⟩ ∧ c5 = c ∧ h5' = h + 1) ∨ (k ≠ 1 ∧ k ≠ 2 ∧ v = x ∧ c5 = c + 1 ∧ h5' = h) := by
              by_cases g1 : k = 1
              · subst g1
                exact .inr (.inl ⟨rfl, hv.symm, hc5.symm, hh5.symm⟩)
              · have hdk : decide (k ≠ 1) = true := decide_eq_true g1
                by_cases g2 : k = 2
                · subst g2
                  refine .inl ⟨rfl, hv, ?_⟩
                  unfold sameK at hc5 hh5
                  rw [hv, hdk] at hc5 hh5
                  by_cases gx : v = x
                  · rw [decide_eq_true gx] at hc5 hh5
                    exact .inl ⟨gx, hc5.symm, hh5.symm⟩
                  · rw [decide_eq_false gx] at hc5 hh5
                    exact .inr ⟨gx, hc5.symm, hh5.symm⟩
                · have gv : v = x := by rw [← hv]; unfold outK; rw [if_neg g1, if_neg g2]
                  unfold sameK at hc5 hh5
                  rw [hv, hdk, decide_eq_true gv] at hc5 hh5
                  exact .inr (.inr ⟨g1, g2, gv, hc5.symm, hh5.symm⟩)
            have HCASE := Lib.hid hcase
            clear hc5 hh5 hv hcase
            refine (ptake_any k aN m HSX.out (by have := HBD.out; omega) (by have := HBD.out; omega) HMK.out.1 HMK.out.2 (by omega) (by omega) HT4.out.pat).mono ?_; rintro e W5 ⟨rfl, h5, ho5⟩
            rw [HCC.out.1, HCC.out.2] at h5
            rw [HV.out]
            have HP := Lib.hid h5
            have HK5 : Hid (W5.heap[g2]? = some (.cells #[.int .i64 k, .int .i64 aN, .int .u32 m] 29 (0, 0))) := Lib.hid ((ho5.block g2 (Array.getElem?_eq_some_iff.1 HK4.out).1 (by have := HG4.out; omega) (by have := HG4.out; omega) (fun e => by have := HG4.out.2.2 g2 e; omega)).trans HK4.out)
            have HR5 := Lib.hid (rd_ponly HT4.out.rd HT4.out.away ho5)
            obtain ⟨b2, off2, ea, _, hx0⟩ := HR5.out.at_ (k := 0) (by omega)
            subst ea
            rw [Nat.add_zero] at hx0
            change W5.cell? ⟨b2, off2, none⟩ = some (.string x) at hx0
            have HTL := Lib.hid (rd_tail HR5.out hcap)
            have HK2 : Hid (k2 = L2.length) := Lib.hid HTL.out.1
            have HAB := Lib.hid (HT4.out.away (by omega) _ rfl)
            clear h5 ho5 HT4 HK4
            have k0 : W5.cell? ⟨g2, 0, none⟩ = some (.int .i64 k) := by rw [cell_of_row W5 g2 0 _ _ (0, 0) HK5.out]; rfl
            have k1 : W5.cell? ⟨g2, 1, none⟩ = some (.int .i64 aN) := by rw [cell_of_row W5 g2 1 _ _ (0, 0) HK5.out]; rfl
            have k2' : W5.cell? ⟨g2, 2, none⟩ = some (.int .u32 m) := by rw [cell_of_row W5 g2 2 _ _ (0, 0) HK5.out]; rfl
            rcases HCASE.out with ⟨rfl, htv, hcc⟩ | ⟨rfl, rfl, rfl, rfl⟩ | ⟨g1, g2', rfl, rfl, rfl⟩
            · rw [show decide ((2 : Int) ≠ 1) = true from rfl]
              have HTV := Lib.hid htv
              have HC5 := Lib.hid hcc
              clear htv hcc HCASE HCC
              go_wp2_with fail
              refine (turnf_any x aN m W5 HSX.out (by have := HBD.out; omega) (by have := HBD.out; omega) HMK.out.1 HMK.out.2).mono ?_; rintro e W6 ⟨rfl, hb6⟩
              rw [HTV.out]
              have HPX := Lib.hid (HP.out.below hb6)
              have HTLX := Lib.hid (HTL.out.below hb6)
              have HR6 := Lib.hid (HR5.out.below hb6)
              have HK6 : Hid (W6.heap[g2]? = some (.cells #[.int .i64 2, .int .i64 aN, .int .u32 m] 29 (0, 0))) := Lib.hid ((hb6.block g2 (Array.getElem?_eq_some_iff.1 HK5.out).1).trans HK5.out)
              clear k0 k1 k2' hx0 hb6 HP HTL HR5 HK5
              have HP := HPX
              have HTL := HTLX
          
              obtain ⟨b3, off3, ea, _, hx0⟩ := HR6.out.at_ (k := 0) (by omega)
              cases ea
              rw [Nat.add_zero] at hx0
              change W6.cell? ⟨b2, off2, none⟩ = some (.string x) at hx0
              have k0 : W6.cell? ⟨g2, 0, none⟩ = some (.int .i64 2) := by rw [cell_of_row W6 g2 0 _ _ (0, 0) HK6.out]; rfl
              rcases HC5.out with ⟨rfl, rfl, rfl⟩ | ⟨hne, rfl, rfl⟩
              · skip
                by_cases hc9 : cap = 1
                · subst hc9
                  obtain rfl : k2 = 0 := by omega
                  go_wp2_with fail
                  go_meet
                  exact ⟨0, 0, p, c + 1, h5', some ⟨b2, off2, none⟩, L2, G, rfl, rfl, by first | rfl | go_num, by first | rfl | go_num, Lib.hid ⟨HP.out, ⟨HK2.out, fun h => absurd h (by omega)⟩, fun h => absurd h (by omega), ⟨Nat.le_refl _, by simp [maxLen], fun h => by cases h⟩, HSM2.out, by have := HLE1.out; omega⟩⟩
                · have hc8 : 1 < cap := by omega
                  have hc7 : ¬ cap ≤ 1 := by omega
                  have hc6 : ¬ (cap - 1 = 0) := by omega
                  go_wp2_with fail
                  go_meet
                  exact ⟨k2, cap - 1, p, c + 1, h5', some ⟨b2, off2 + 1, none⟩, L2, G, rfl, rfl, by first | rfl | go_num, by first | rfl | go_num, Lib.hid ⟨HP.out, by have h9 := HTL.out; rwa [if_neg hc9] at h9, fun _ y hy => by cases hy; exact HAB.out, ⟨by omega, by have := HFT.out.2.1; omega, fun h => by cases h⟩, HSM2.out, by have := HLE1.out; omega⟩⟩
              · have hvd : (v.toList == x.toList) = false := ne_toList hne
                by_cases hc9 : cap = 1
                · subst hc9
                  obtain rfl : k2 = 0 := by omega
                  go_wp2_with fail
                  go_meet
                  exact ⟨0, 0, p, c5, h + 1, some ⟨b2, off2, none⟩, L2, G, rfl, rfl, by first | rfl | go_num, by first | rfl | go_num, Lib.hid ⟨HP.out, ⟨HK2.out, fun h => absurd h (by omega)⟩, fun h => absurd h (by omega), ⟨Nat.le_refl _, by simp [maxLen], fun h => by cases h⟩, HSM2.out, by have := HLE1.out; omega⟩⟩
                · have hc8 : 1 < cap := by omega
                  have hc7 : ¬ cap ≤ 1 := by omega
                  have hc6 : ¬ (cap - 1 = 0) := by omega
                  go_wp2_with fail
                  go_meet
                  exact ⟨k2, cap - 1, p, c5, h + 1, some ⟨b2, off2 + 1, none⟩, L2, G, rfl, rfl, by first | rfl | go_num, by first | rfl | go_num, Lib.hid ⟨HP.out, by have h9 := HTL.out; rwa [if_neg hc9] at h9, fun _ y hy => by cases hy; exact HAB.out, ⟨by omega, by have := HFT.out.2.1; omega, fun h => by cases h⟩, HSM2.out, by have := HLE1.out; omega⟩⟩
            · rw [show decide ((1 : Int) ≠ 1) = false from rfl]
              by_cases hc9 : cap = 1
              · subst hc9
                obtain rfl : k2 = 0 := by omega
                go_wp2_with fail
                go_meet
                exact ⟨0, 0, p, c5, h + 1, some ⟨b2, off2, none⟩, L2, G, rfl, rfl, by first | rfl | go_num, by first | rfl | go_num, Lib.hid ⟨HP.out, ⟨HK2.out, fun h => absurd h (by omega)⟩, fun h => absurd h (by omega), ⟨Nat.le_refl _, by simp [maxLen], fun h => by cases h⟩, HSM2.out, by have := HLE1.out; omega⟩⟩
              · have hc8 : 1 < cap := by omega
                have hc7 : ¬ cap ≤ 1 := by omega
                have hc6 : ¬ (cap - 1 = 0) := by omega
                go_wp2_with fail
                go_meet
                exact ⟨k2, cap - 1, p, c5, h + 1, some ⟨b2, off2 + 1, none⟩, L2, G, rfl, rfl, by first | rfl | go_num, by first | rfl | go_num, Lib.hid ⟨HP.out, by have h9 := HTL.out; rwa [if_neg hc9] at h9, fun _ y hy => by cases hy; exact HAB.out, ⟨by omega, by have := HFT.out.2.1; omega, fun h => by cases h⟩, HSM2.out, by have := HLE1.out; omega⟩⟩
            · have g1' : (k == 1) = false := by simpa using g1
              have g2'' : (k == 2) = false := by simpa using g2'
              have g1n : (k != 1) = true := by simpa using g1
              rw [show decide (k ≠ 1) = true from decide_eq_true g1]
              by_cases hc9 : cap = 1
              · subst hc9
                obtain rfl : k2 = 0 := by omega
                go_wp2_with fail
                go_meet
                exact ⟨0, 0, p, c + 1, h5', some ⟨b2, off2, none⟩, L2, G, rfl, rfl, by first | rfl | go_num, by first | rfl | go_num, Lib.hid ⟨HP.out, ⟨HK2.out, fun h => absurd h (by omega)⟩, fun h => absurd h (by omega), ⟨Nat.le_refl _, by simp [maxLen], fun h => by cases h⟩, HSM2.out, by have := HLE1.out; omega⟩⟩
              · have hc8 : 1 < cap := by omega
                have hc7 : ¬ cap ≤ 1 := by omega
                have hc6 : ¬ (cap - 1 = 0) := by omega
                go_wp2_with fail
                go_meet
                exact ⟨k2, cap - 1, p, c + 1, h5', some ⟨b2, off2 + 1, none⟩, L2, G, rfl, rfl, by first | rfl | go_num, by first | rfl | go_num, Lib.hid ⟨HP.out, by have h9 := HTL.out; rwa [if_neg hc9] at h9, fun _ y hy => by cases hy; exact HAB.out, ⟨by omega, by have := HFT.out.2.1; omega, fun h => by cases h⟩, HSM2.out, by have := HLE1.out; omega⟩⟩
        · obtain ⟨hp120, hc120, hh120⟩ : p ≤ 120 ∧ c ≤ 120 ∧ h ≤ 120 := by have := HT1.out.le; omega
          have HLN : Hid (n = L.length) := Lib.hid HT1.out.rd.1

          go_wp2_with fail
          refine (pclone_any HT1.out.pat).mono ?_; rintro e W4 ⟨B2, R2, G2, rfl, hc2, _⟩
          have HC := Lib.hid hc2
          clear hc2
          obtain ⟨e0, _⟩ := HC.out.cells
          go_wp2_with fail
          refine (plen_any HC.out).mono ?_; rintro e W5 ⟨rfl, rfl⟩
          rw [← HLN.out]
          go_wp2_with fail
          refine (pput_any ⟨#[111, 116, 104, 101, 114]⟩ (by omega) HC.out).mono ?_; rintro e W5 ⟨rfl, G5, h5, _, _⟩
          obtain ⟨L5, hL5⟩ : ∃ L5, putRow mm L ⟨#[111, 116, 104, 101, 114]⟩ = L5 := ⟨_, rfl⟩
          have HS5 : Hid (∀ y ∈ L5, y.size ≤ 20) := Lib.hid (by
            intro y hy
            rw [← hL5] at hy
            unfold putRow at hy
            split at hy
            · rcases List.mem_append.1 hy with hy | hy
              · exact HT1.out.small y hy
              · rw [List.mem_singleton] at hy; subst hy; decide
            · exact HT1.out.small y hy)
          rw [hL5] at h5
          have H5 := Lib.hid h5
          clear h5 hL5 e0 HC
          go_wp2_with fail
          rcases L5 with _ | ⟨y5, L6⟩
          · refine (ptake_none 0 0 0 H5.out).mono ?_; rintro e W6 ⟨rfl, h6, _⟩
            have HT6 := Lib.hid ((HT1.out.below h6.mine.1).next)
            clear h6
            go_wp2_with fail
            go_meet
            exact ⟨n, cap, p, c, h, a, L, G, rfl, rfl, rfl, rfl, HT6⟩
          · refine (ptake_any 0 0 0 (by have := HS5.out y5 (by simp); omega) (by decide) (by decide) (by decide) (by decide) (by omega) (by omega) H5.out).mono ?_; rintro e W6 ⟨rfl, h6, _⟩
            have HT6 := Lib.hid ((HT1.out.below h6.mine.1).next)
            clear h6
            go_wp2_with fail
            go_meet
            exact ⟨n, cap, p, c, h, a, L, G, rfl, rfl, rfl, rfl, HT6⟩
        · obtain ⟨hp120, hc120, hh120⟩ : p ≤ 120 ∧ c ≤ 120 ∧ h ≤ 120 := by have := HT1.out.le; omega
          have HLN : Hid (n = L.length) := Lib.hid HT1.out.rd.1

          by_cases hf : n < mm
          · have hfd : decide (n < mm) = true := decide_eq_true hf
            have hfi : (n : Int) < (mm : Int) := by omega
            have hlf : L.length < mm := by rw [← HLN.out]; exact hf
            have HLF := Lib.hid hlf
            clear hlf
            go_wp2_with fail
            refine (pput_any s20 (by omega) HT1.out.pat).mono ?_; rintro e W4 ⟨rfl, G4, h4, ho4, hG4⟩
            rw [show fullCode mm L = 0 from if_pos HLF.out]
            rw [show putRow mm L s20 = L ++ [s20] from if_pos HLF.out, if_pos HLF.out] at h4
            have H4 := Lib.hid h4
            have HR4 : Hid (RdI W4 a n L) := Lib.hid (rd_ponly HT1.out.rd HT1.out.away ho4)
            have HSZ4 : Hid (B < W4.heap.size ∧ R < W4.heap.size ∧ ∀ g, G4 = some g → g < W4.heap.size) := Lib.hid ⟨h4.lt, h4.mine.2.2.2.1.facts.2.2⟩
            have HFN : Hid (a = none → cap = 0) := Lib.hid HT1.out.fit.2.2
            have HLE : Hid (L.length ≤ 256) := Lib.hid (by rw [← HLN.out]; omega)
            clear h4 ho4 hG4 d0 d1 d2 d3 d4
            go_wp2_with (at_builtin; refine ViewT.wpList_appI rfl (.tmp 75) (.tmp 76) 26 rfl Try.underlying26 W4.heap.size _ [] rfl (ownI_empty W4 #[] (Nat.le_refl _) rfl) a n cap L rfl (HR4.out.alloc _) HFN.out (by simp; omega) (by simp) ?_)
            rintro v6 W6 hown6 hgr6
            have HB6 : Hid (Below W4.heap.size W4 W6) := Lib.hid (own_grown ((Below.refl _ _).alloc (Nat.le_refl _) _) (by simp) hgr6 (ownI_empty W4 #[] (Nat.le_refl _) rfl))
            have HO6 := Lib.hid hown6
            clear hown6 hgr6
            go_wp2_with (at_builtin; refine ViewT.wpList_appI rfl (.tmp 77) (.tmp 79) 26 rfl Try.underlying26 W4.heap.size v6 ([] ++ L) rfl (OwnI.below HO6.out ((Below.refl _ _).alloc (Nat.le_refl _) _)) _ 1 1 [s20] rfl (rdI_lit1 _ s20) (fun h => by cases h) (by have := HLE.out; simp; omega) (by have := HB6.out.size; simp; omega) ?_)
            rintro v9 W9 hown9 hgr9
            have HB9 : Hid (Below W4.heap.size W4 W9) := Lib.hid (own_grown (HB6.out.alloc HB6.out.size _) (by have := HB6.out.size; simp; omega) hgr9 (OwnI.below HO6.out ((Below.refl _ _).alloc (Nat.le_refl _) _)))
            obtain ⟨a9, n9, c9, rfl, hf9, hr9, haw9⟩ := away_own (B := B) (R := R) (G := G4) hown9 HSZ4.out.1 HSZ4.out.2.1 HSZ4.out.2.2
            have HT9 : Hid (St w B R mm (i + 1) n9 c9 a9 (L ++ [s20]) G4 (p + 1) c h W9) := Lib.hid ⟨H4.out.below HB9.out, by simpa using hr9, haw9, hf9, (fun y hy => by
              rcases List.mem_append.1 hy with hy | hy
              · exact HT1.out.small y hy
              · rw [List.mem_singleton] at hy; subst hy; exact HSZ.out), by have := HT1.out.le; omega⟩
            clear hown9 hgr9 hf9 hr9 haw9
            go_wp2_with fail
            go_meet
            exact ⟨n9, c9, p + 1, c, h, a9, L ++ [s20], G4, rfl, by first | rfl | go_num, rfl, rfl, HT9⟩
          · have hfd : decide (n < mm) = false := decide_eq_false hf
            have hfi : ¬ ((n : Int) < (mm : Int)) := by omega
            have HLF : Hid (¬ L.length < mm) := Lib.hid (by rw [← HLN.out]; exact hf)
            go_wp2_with fail
            refine (pput_any s20 (by omega) HT1.out.pat).mono ?_; rintro e W4 ⟨rfl, G4, h4, ho4, hG4⟩
            rw [show fullCode mm L = 7 from if_neg HLF.out]
            rw [show putRow mm L s20 = L from if_neg HLF.out, if_neg HLF.out] at h4
            have HT9 : Hid (St w B R mm (i + 1) n cap a L G4 p c h W4) := Lib.hid ⟨h4, rd_ponly HT1.out.rd HT1.out.away ho4, away_new HT1.out.away HT1.out.rd hG4, HT1.out.fit, HT1.out.small, by have := HT1.out.le; omega⟩
            clear h4 ho4 hG4 d0 d1 d2 d3 d4
            go_wp2_with fail
            go_meet
            exact ⟨n, cap, p, c, h, a, L, G4, rfl, rfl, rfl, rfl, HT9⟩
      case rest => as_aux_lemma =>
        obtain ⟨n', cap', p', c', h', a', L', G', rfl, rfl, rfl, rfl, HT'⟩ := hcut
        clear HT1 HK0 d0 d1 d2 d3 d4
        obtain ⟨e0, _⟩ := HT'.out.pat.cells
        have hlm := HT'.out.pat.facts
        have hln := HT'.out.rd.1
        have HLN := Lib.hid hln
        obtain ⟨d, hd, hs3, hs4⟩ := sub_wrap mm n' (by omega) (by omega)
        have hnn2 : n' ≤ 256 := by omega
        have HDD := Lib.hid hd
        clear hd hlm hln
        go_wp2_with fail
        refine (all_any R mm L' G' _ HT'.out.pat.mine.2.2.2.1).mono ?_; rintro e W5 ⟨ga, rfl, hga, hca, hb5⟩
        have HT5 := Lib.hid (HT'.out.below hb5)
        have HA5 := Lib.hid (rd_row hca)
        clear HT' hca hb5 hga e0
        go_wp2_with fail
        refine (pcounts_any HT5.out.pat).mono ?_; rintro e W6 ⟨rfl, q6, rfl⟩
        have HT6 := Lib.hid (HT5.out.below (RingS.below_drewN (Below.refl _ _) q6))
        have HA6 := Lib.hid (HA5.out.below (RingS.below_drewN (Below.refl _ _) q6))
        clear HT5 HA5
        generalize W5.drewN q6 = W6 at *
        obtain ⟨e0, _⟩ := HT6.out.pat.cells
        rw [← HLN.out]
        go_wp2_with fail
        refine (plen_any HT6.out.pat).mono ?_; rintro e W7 ⟨rfl, rfl⟩
        rw [← HLN.out]
        go_wp2_with fail
        refine (proom_any HT6.out.pat).mono ?_; rintro e W7 ⟨rfl, q7, rfl⟩
        rw [← HLN.out, HDD.out]
        have HT7 := Lib.hid (HT6.out.below (RingS.below_drewN (Below.refl _ _) q7))
        have HA7 : Hid (RdI (W6.drewN q7) (some ⟨ga, 0, none⟩) n' L') := Lib.hid (by rw [HLN.out]; exact HA6.out.below (RingS.below_drewN (Below.refl _ _) q7))
        clear HT6 HA6 e0
        generalize W6.drewN q7 = W7 at *
        go_wp2_with fail
        go_loopw [223] (fun s223 wr => ∃ j : Nat, j ≤ n' ∧ s223 = .int .i64 (j : Int) ∧ Hid (Below W7.heap.size W7 wr)) (fun s223 _ => n' - (intOf s223).toNat)
        case atStart => exact ⟨0, by omega, rfl, Lib.hid (Below.refl _ _)⟩
        case round =>
          obtain ⟨j, hj, rfl, hb⟩ := hrel
          by_cases hgo : j < n'
          · have hd1 : decide (j < n') = true := decide_eq_true hgo
            obtain ⟨b1, o1, ea, _, h1⟩ := (HA7.out.below hb.out).at_ hgo
            cases ea
            rw [Nat.zero_add] at h1
            obtain ⟨b2, o2, rfl, _, h2⟩ := (HT7.out.rd.below hb.out).at_ hgo
            obtain ⟨z, hz⟩ : ∃ z, L'.getD j ByteArray.empty = z := ⟨_, rfl⟩
            rw [hz] at h1 h2
            clear hz
            have hkI : (j : Int) < (n' : Int) := by omega
            go_wp2_with fail
            go_quiet (fail)
            have HB9 := Lib.hid (RingS.below_drewN hb.out nq)
            go_wp2_with fail
            go_roundw
            case rel => exact ⟨j + 1, by omega, by go_num, HB9⟩
            case measure => simp [intOf]; omega
          · have hd1 : decide (j < n') = false := decide_eq_false hgo
            have HT8 := Lib.hid (HT7.out.below hb.out)
            clear hgo hj
            go_wp2_with fail
            go_roundw
            case rel => exact ⟨i + 1, n', cap', p', c', h', a', L', G', by omega, rfl, rfl, rfl, rfl, by go_num, HT8⟩
            case measure => simp [intOf]; omega
    · have hcase : decide (i < M) = false ∨ (decide (i < M) = true ∧ decide ((i : Int) < 120) = false) := by
        by_cases h1 : i < M
        · exact .inr ⟨decide_eq_true h1, decide_eq_false (by omega)⟩
        · exact .inl (decide_eq_false h1)
      clear hgo hi
      rcases hcase with hd1 | ⟨hd1, hd2⟩
      all_goals
        go_wp2_with fail
        go_ret
        exact ⟨rfl, HT.out.pat.mine.1⟩

theorem own : ownKnob Try.prog.godebug = none := by kernel_rfl
theorem laidOut : laidOutB Try.prog = true := by kernel_rfl

set_option maxRecDepth 100000 in
theorem lifted (os : Os) (started : os.Started) (H : Type) (enc : TypeId × Value → H) :
    ReturnsInHanded {} Try.checked os 3 .any (Rows.pipePlaysSpec.pre6 enc Try.prog Try.f3 Rows.pipePlaysRow.domain false) (Rows.pipePlaysSpec.post enc Try.prog Try.f3 false true false false) := by
  refine Base.law_lifted (C := Try.checked) own started (by kernel_rfl) Try.func3 laidOut (by kernel_rfl) rfl Try.underlying4 rfl ?_
    (ChangeSpec.witness6 (enc := enc) (C := Try.checked) false ⟨#[], #[.int .i64 0, .slice none 0 0], []⟩ 8 (by kernel_rfl) (by kernel_rfl) (by kernel_rfl) (by kernel_rfl)) ?_
  · intro ds h
    match ds, h with
    | [_d0, _d1], _ => exact ⟨rfl, rfl, rfl⟩
  · intro W base args ds before hval0 hA0 hlt hsz
    have hval : ∀ (j : Nat) t v, Try.f3.params[j]? = some t → args[j]? = some v → Value.okWide Try.prog W .any base t v := hval0
    have hA : DataW.TrodAll enc Try.prog W 0 (fun _ => true) true Try.f3.params.toList args.toList ds before := hA0
    clear hval0 hA0
    rw [Try.params3] at hA hval hsz
    obtain ⟨v0, vs0, d0, ds0, p0, q0, hargs, rfl, rfl, h0, r0⟩ := trodAll_cons hA
    obtain ⟨v1, vs1, d1, ds1, p1, q1, rfl, rfl, rfl, h1, r1⟩ := trodAll_cons r0
    obtain ⟨rfl, rfl, rfl⟩ := trodAll_nil r1
    obtain rfl : args = #[v0, v1] := by cases args; simp_all
    obtain ⟨a0, rfl, rfl, rfl, w0⟩ := open_int Try.underlying3 (hval 0 3 v0 rfl rfl) h0
    obtain ⟨x1, w1⟩ := Base.open_shape (s := (.slice (.struct [(.int .i64), .str, (.struct [(.int .i64), (.int .i64), (.int .u32)])]))) (by kernel_rfl) (hval 1 22 v1 rfl rfl) h1 (fun x hx => hlt x (by simp [hx])) hsz (j := 1) rfl rfl
    exact walk W a0 w0 v1 x1 w1

theorem over : Rows.pipePlaysRow.holds Try.pinned (OpenSpec.ofChange Rows.pipePlaysSpec) :=
  OpenClaim.holds_of_wide 3 Try.f3 rfl rfl rfl rfl rfl rfl rfl ⟨rfl, rfl, rfl, rfl, rfl⟩ rfl rfl rfl rfl rfl (by kernel_rfl) Try.func3 (by kernel_rfl)
    (of_decide_eq_true (by kernel_rfl)) (by unfold Func.isWrapper; first | (rw [if_pos (by decide +kernel)]; kernel_rfl) | (rw [if_neg (by decide +kernel)]; exact ⟨rfl, rfl⟩))
    (fun os started H enc _ => lifted os started H enc)

theorem proved : Rows.PipePlaysSaid :=
  over
#print axioms proved
end Go.Proofs.Ytoeoigclleijmaa.pipePlays
