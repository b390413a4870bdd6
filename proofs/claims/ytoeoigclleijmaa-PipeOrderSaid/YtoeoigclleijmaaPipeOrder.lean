/-
  PipeOrder is proved: what isn't lost or spoilt comes as it was, in its order; for every input the law returns true.
-/
import Derived.Test.YtoeoigclleijmaaBase
import Derived.Test.YtoeoigclleijmaaPipe5
import Derived.Test.YtoeoigclleijmaaViewR
import Derived.IntWalk
import Derived.Deep.DeepCutAuto
namespace Go.Proofs.Ytoeoigclleijmaa.pipeOrder
open Go.ChangeShapes Go.WideShapes Go.ChangeAt Go.RowKit
set_option linter.unusedVariables false      -- a walk need not use every bound of an argument

open PipeS RingS ViewT TurnP CrcCalls

def kindAt (nc : Nat) (C : Nat → Int × Int × Int) (i : Nat) : Int := if i < nc then (C i).1 else 0
def kp (nc : Nat) (C : Nat → Int × Int × Int) (i : Nat) : Bool := decide (kindAt nc C i ≠ 1 ∧ kindAt nc C i ≠ 2)
def wantL (S : Nat → V) (K : Nat → Bool) : Nat → List V
  | 0 => []
  | i + 1 => if K i then wantL S K i ++ [S i] else wantL S K i
def listL (S : Nat → V) (i : Nat) : List V := (List.range i).map S
theorem listL_succ (S : Nat → V) (i : Nat) : listL S (i + 1) = listL S i ++ [S i] := by
  unfold listL
  rw [List.range_succ, List.map_append]
  rfl
theorem listL_len (S : Nat → V) (i : Nat) : (listL S i).length = i := by simp [listL]
theorem listL_drop (S : Nat → V) (n i : Nat) (h : i < n) : (listL S n).drop i = S i :: (listL S n).drop (i + 1) := by
  rw [List.drop_eq_getElem_cons (by rw [listL_len]; exact h)]
  congr 1
  simp [listL]
theorem wantL_le (S : Nat → V) (K : Nat → Bool) (i : Nat) : (wantL S K i).length ≤ i := by
  induction i with
  | zero => exact Nat.le_refl _
  | succ i ih =>
    rw [show wantL S K (i + 1) = if K i then wantL S K i ++ [S i] else wantL S K i from rfl]
    split
    · rw [List.length_append, List.length_singleton]; omega
    · omega
theorem wantL_pre (S : Nat → V) (K : Nat → Bool) (n i : Nat) (h : i ≤ n) : ∃ r, wantL S K n = wantL S K i ++ r := by
  induction n with
  | zero => obtain rfl : i = 0 := by omega
            exact ⟨[], by simp⟩
  | succ n ih =>
    by_cases hi : i = n + 1
    · exact ⟨[], by rw [hi]; simp⟩
    · obtain ⟨r, hr⟩ := ih (by omega)
      rw [show wantL S K (n + 1) = if K n then wantL S K n ++ [S n] else wantL S K n from rfl]
      split
      · exact ⟨r ++ [S n], by rw [hr]; simp⟩
      · exact ⟨r, hr⟩
theorem wantL_at (S : Nat → V) (K : Nat → Bool) (n i : Nat) (h : i < n) (hk : K i = true) : (wantL S K i).length < (wantL S K n).length ∧ (wantL S K n).getD (wantL S K i).length ByteArray.empty = S i := by
  obtain ⟨r, hr⟩ := wantL_pre S K n (i + 1) h
  have h2 : wantL S K (i + 1) = wantL S K i ++ [S i] := by rw [wantL, if_pos hk]
  rw [hr, h2]
  constructor
  · simp
  · simp [List.getD]

set_option maxRecDepth 100000 in
set_option maxHeartbeats 8000000 in
theorem walk (w : World) (v0 : Value) (T : List ByteArray) (w0 : Base.StrSlice w v0 T) (v1 : Value) (x1 : Base.Dat) (w1 : Base.RdV w (.slice (.struct [.int .i64, .int .i64, .int .u32])) x1 v1) :
    Calls Try.prog 4 #[v0, v1] w fun e w' => e = .returned (.bool true) ∧ Below w.heap.size w w' := by
  obtain ⟨a, cap, rfl, hr, hl⟩ := rd_strs w0
  obtain ⟨ac, nc, cc, C, rfl, hlc, hrc⟩ := open_choices w v1 x1 w1
  obtain ⟨M, hM⟩ : ∃ M, T.length = M := ⟨_, rfl⟩
  rw [hM] at hr hl ⊢
  have HR := Lib.hid hr
  have HC := Lib.hid hrc
  clear hr hrc hM w0 w1 x1
  obtain ⟨S, hS⟩ : ∃ S : Nat → V, ∀ i, S i = cutL (T.getD i ByteArray.empty) 20 := ⟨fun i => cutL (T.getD i ByteArray.empty) 20, fun _ => rfl⟩
  have HS := Lib.hid hS
  clear hS
  go_enter Try.func4, Try.ntmps4
  go_wp2_with fail
  refine (PipeS.awake_any _).mono ?_; rintro e W0 ⟨rfl, hb0⟩
  have HB0 := Lib.hid hb0
  clear hb0
  go_wp2_with fail
  refine (pnew_any w W0 w.heap.size 200 200 rfl HB0.out HB0.out.size).mono ?_; rintro e W1 ⟨B, R, rfl, _, _, h1⟩
  have H1 := Lib.hid h1
  clear h1
  go_upto_region 6 with (fail)
  go_cut [6] (fun s6 wx => ∃ n : Nat, s6 = .int .i64 (n : Int) ∧ n ≤ 150 ∧ n ≤ M ∧ wx = W1)
  case first =>
    go_wp2_with fail
    all_goals go_meet
    all_goals first
      | exact ⟨150, rfl, by omega, by omega, rfl⟩
      | exact ⟨M, rfl, by omega, by omega, rfl⟩
  case rest =>
  obtain ⟨n, rfl, hn150, hnM, rfl⟩ := hcut
  go_wp2_with fail
  go_loopw [7, 27] (fun s7 s27 wr => ∃ (i : Nat) (G : Option Nat), i ≤ n ∧ s27 = .int .i64 (i : Int) ∧ Hid (One w w.heap.size B R 200 (listL S i) G i 0 0 s7 (wantL S (kp nc C) i) wr)) (fun _ s27 _ => n - (intOf s27).toNat)
  case atStart => exact ⟨0, none, by omega, rfl, Lib.hid ⟨H1.out, OwnI.nil, fun k hk => by cases hk⟩⟩
  case round =>
    obtain ⟨i, G, hi, rfl, ht⟩ := hrel
    by_cases hgo : i < n
    · have hd1 : decide (i < n) = true := decide_eq_true hgo
      have hb := ht.out.pat.mine.1
      obtain ⟨b, off, rfl, hbl, hc0⟩ := HR.out.at_ (show i < M by omega)
      have hc := ((hb.cell (p := ⟨b, off + i, none⟩) hbl).trans hc0)
      have hiM : (i : Int) < (M : Int) := by omega
      obtain ⟨x, hx⟩ : ∃ x, T.getD i ByteArray.empty = x := ⟨_, rfl⟩
      rw [hx] at hc
      have HX : Hid (cutL x 20 = S i) := Lib.hid (by rw [← hx, HS.out])
      have HC0 : Hid (∀ x', Below w.heap.size w x' → x'.cell? ⟨b, off + i, none⟩ = some (.string x)) := Lib.hid (fun x' hb' => by
        rw [← hx]; exact (hb'.cell (p := ⟨b, off + i, none⟩) hbl).trans hc0)
      obtain ⟨W3, hW3⟩ : ∃ W3, W3 = wr := ⟨_, rfl⟩
      rw [← hW3] at ht hc ⊢
      clear hx hbl hc0 hb hW3
      go_wp2_with fail
      refine (cut_any x 20 20 _ rfl).mono ?_; rintro e W4 ⟨rfl, rfl⟩
      rw [HX.out]
      go_wp2_with fail
      refine (pput_any (S i) (by omega) ht.out.pat).mono ?_; rintro e W4 ⟨rfl, G4, h4, ho4, hG4⟩
      have hlf : (listL S i).length < 200 := by rw [listL_len]; omega
      rw [show fullCode 200 (listL S i) = 0 from if_pos hlf]
      rw [show putRow 200 (listL S i) (S i) = listL S (i + 1) from (if_pos hlf).trans (listL_succ S i).symm, if_pos hlf] at h4
      have H4 := Lib.hid (ht.out.pipe h4 ho4 hG4)
      clear h4 ho4 hG4 hlf hc ht
      have hcx := HC0.out W4 H4.out.pat.mine.1
      have hcase : (kp nc C i = true ∧ wantL S (kp nc C) (i + 1) = wantL S (kp nc C) i ++ [S i]) ∨ (kp nc C i = false ∧ wantL S (kp nc C) (i + 1) = wantL S (kp nc C) i) := by
        cases h : kp nc C i
        · exact .inr ⟨rfl, by rw [wantL, h]; rfl⟩
        · exact .inl ⟨rfl, by rw [wantL, h]; rfl⟩
      have hle := wantL_le S (kp nc C) i
      have HLE := Lib.hid hle
      clear hle
      by_cases hin : i < nc
      · obtain ⟨b3, off3, rfl, hl3, c0, _⟩ := HC.out i hin
        have c0' := (H4.out.pat.mine.1.cell (p := ⟨b3, off3 + i * 3, none⟩) hl3).trans c0
        have hge : decide ((nc : Int) ≤ (i : Int)) = false := decide_eq_false (by omega)
        have hge2 : decide (nc ≤ i) = false := decide_eq_false (by omega)
        have hlt3 : (i : Int) < (nc : Int) := by omega
        obtain ⟨k, hk⟩ : ∃ k, (C i).1 = k := ⟨_, rfl⟩
        rw [hk] at c0'
        have hkp : kp nc C i = decide (k ≠ 1 ∧ k ≠ 2) := by unfold kp kindAt; rw [if_pos hin, hk]
        clear c0 hl3 hk hin
        rcases hcase with ⟨e1, e2⟩ | ⟨e1, e2⟩
        · rw [hkp, decide_eq_true_eq] at e1
          obtain ⟨g1, g2⟩ := e1
          have g1' : (k != 1) = true := by simpa using g1
          have g2' : (k != 2) = true := by simpa using g2
          have HE := Lib.hid e2
          clear e2
          go_wp2_with fail
          refine (cut_any x 20 20 _ rfl).mono ?_; rintro e W5 ⟨rfl, rfl⟩
          rw [HX.out]
          go_wp2_with (at_builtin; refine OrdT.wpList_appT_at rfl (.tmp 57) (.tmp 63) rfl w.heap.size _ (wantL S (kp nc C) i) rfl (OwnI.below H4.out.own ((Below.refl _ _).alloc (Nat.le_refl _) _)) _ _ 1 (S i) rfl (rdI_lit1 _ (S i)) (by have := HLE.out; omega) (by have := H4.out.pat.mine.2.1; simp; omega) ?_)
          rintro v' w' hown' hgr hv'
          go_wp2_with fail
          go_roundw
          case rel => exact ⟨i + 1, G4, by omega, by go_num, Lib.hid (by rw [HE.out]; exact (H4.out.below ((Below.refl _ _).alloc (Nat.le_refl _) _)).app hgr hown' (by simpa using hv'))⟩
          case measure => simp [intOf]; omega
        · rw [hkp, decide_eq_false_iff_not] at e1
          have HE := Lib.hid e2
          clear e2
          by_cases g1 : k = 1
          · subst g1
            go_wp2_with fail
            go_roundw
            case rel => exact ⟨i + 1, G4, by omega, by go_num, Lib.hid (by rw [HE.out]; exact H4.out)⟩
            case measure => simp [intOf]; omega
          · obtain rfl : k = 2 := by
              by_cases g2 : k = 2
              · exact g2
              · exact absurd ⟨g1, g2⟩ e1
            go_wp2_with fail
            go_roundw
            case rel => exact ⟨i + 1, G4, by omega, by go_num, Lib.hid (by rw [HE.out]; exact H4.out)⟩
            case measure => simp [intOf]; omega
      · have hge : decide ((nc : Int) ≤ (i : Int)) = true := decide_eq_true (by omega)
        have hge2 : decide (nc ≤ i) = true := decide_eq_true (by omega)
        rcases hcase with ⟨e1, e2⟩ | ⟨e1, e2⟩
        · have HE := Lib.hid e2
          clear e2
          go_wp2_with fail
          refine (cut_any x 20 20 _ rfl).mono ?_; rintro e W5 ⟨rfl, rfl⟩
          rw [HX.out]
          go_wp2_with (at_builtin; refine OrdT.wpList_appT_at rfl (.tmp 57) (.tmp 63) rfl w.heap.size _ (wantL S (kp nc C) i) rfl (OwnI.below H4.out.own ((Below.refl _ _).alloc (Nat.le_refl _) _)) _ _ 1 (S i) rfl (rdI_lit1 _ (S i)) (by have := HLE.out; omega) (by have := H4.out.pat.mine.2.1; simp; omega) ?_)
          rintro v' w' hown' hgr hv'
          go_wp2_with fail
          go_roundw
          case rel => exact ⟨i + 1, G4, by omega, by go_num, Lib.hid (by rw [HE.out]; exact (H4.out.below ((Below.refl _ _).alloc (Nat.le_refl _) _)).app hgr hown' (by simpa using hv'))⟩
          case measure => simp [intOf]; omega
        · exfalso
          unfold kp kindAt at e1
          rw [if_neg hin] at e1
          simp at e1
    · obtain rfl : n = i := by omega
      have hd1 : decide (n < n) = false := decide_eq_false (by omega)
      clear hgo hi
      obtain ⟨aw, nw, cw, hsl, hfw, hrw⟩ := ht.out.own.form
      subst hsl
      have hnw : nw = (wantL S (kp nc C) n).length := hrw.1
      have HNW := Lib.hid hnw
      have hnwi : nw ≤ n := by rw [hnw]; exact wantL_le S (kp nc C) n
      clear hfw hrw hnw
      have ht0 : Hid (One w w.heap.size B R 200 ((listL S n).drop 0) G n 0 0 (.slice aw nw cw) (wantL S (kp nc C) n) wr) := ht
      clear ht
      go_wp2_with fail
      go_loopw [9, 67] (fun s9 s67 wr => ∃ (i k c h : Nat), i ≤ n ∧ s67 = .int .i64 (i : Int) ∧ s9 = .int .i64 (k : Int) ∧ Hid (k = (wantL S (kp nc C) i).length) ∧ Hid (c + h = i ∧ k ≤ c) ∧ Hid (One w w.heap.size B R 200 ((listL S n).drop i) G n c h (.slice aw nw cw) (wantL S (kp nc C) n) wr)) (fun _ s67 _ => n - (intOf s67).toNat)
      case atStart => exact ⟨0, 0, 0, 0, by omega, rfl, rfl, Lib.hid rfl, Lib.hid ⟨rfl, Nat.le_refl _⟩, ht0⟩
      case round =>
        clear ht0
        obtain ⟨i, k, c, h, hi, rfl, rfl, HK, HCH, HO⟩ := hrel
        by_cases hgo : i < n
        · have hd1 : decide (i < n) = true := decide_eq_true hgo
          obtain ⟨kA, hkA⟩ : ∃ kA, kindAt nc C i = kA := ⟨_, rfl⟩
          obtain ⟨aA, haA⟩ : ∃ aA, (if i < nc then nearI (C i).2.1 else 0) = aA := ⟨_, rfl⟩
          obtain ⟨mA, hmA⟩ : ∃ mA, (if i < nc then (C i).2.2 else 0) = mA := ⟨_, rfl⟩
          have HBD : Hid ((-1000 ≤ aA ∧ aA ≤ 100000) ∧ 0 ≤ mA ∧ mA < 4294967296) := Lib.hid (by
            rw [← haA, ← hmA]
            by_cases hin : i < nc
            · rw [if_pos hin, if_pos hin]
              obtain ⟨_, _, _, _, _, _, _, h4⟩ := HC.out i hin
              have := nearI_le (C i).2.1
              exact ⟨by omega, h4⟩
            · rw [if_neg hin, if_neg hin]; omega)
          have HNG := Lib.hid (And.intro hkA (And.intro haA hmA))
          clear hkA haA hmA
          go_upto_region 20 with (fail)
          have hg0 : (wr.alloc (.cells #[.int .i64 0, .int .i64 0, .int .u32 0] 29)).heap[wr.heap.size]? = some (.cells #[.int .i64 0, .int .i64 0, .int .u32 0] 29 (0, 0)) := heap_alloc_new wr _
          have hO5 : One w w.heap.size B R 200 ((listL S n).drop i) G n c h (.slice aw nw cw) (wantL S (kp nc C) n) (wr.alloc (.cells #[.int .i64 0, .int .i64 0, .int .u32 0] 29)) := HO.out.below ((Below.refl _ _).alloc (Nat.le_refl _) _)
          have hgf : B < wr.heap.size ∧ R < wr.heap.size ∧ (∀ x, G = some x → x < wr.heap.size) ∧ w.heap.size ≤ wr.heap.size ∧ (∀ k, (Value.slice aw nw cw).ownBlock = some k → k < wr.heap.size) := ⟨HO.out.pat.lt, HO.out.pat.mine.2.2.2.1.facts.2.2.1, HO.out.pat.mine.2.2.2.1.facts.2.2.2, HO.out.pat.mine.2.1, fun k hk => (HO.out.own.lt k hk).2⟩
          have HG0 := Lib.hid hg0
          have HO5 := Lib.hid hO5
          have HGF := Lib.hid hgf
          clear hg0 hO5 hgf HO
          generalize wr.alloc (.cells #[.int .i64 0, .int .i64 0, .int .u32 0] 29) = W5 at *
          generalize wr.heap.size = g at *
          go_upto_if 73 with (fail)
          go_cut [11] (fun s11 wx => s11 = .pointer (some ⟨g, 0, none⟩) ∧ Hid (One w w.heap.size B R 200 ((listL S n).drop i) G n c h (.slice aw nw cw) (wantL S (kp nc C) n) wx) ∧ Hid (wx.heap[g]? = some (.cells #[.int .i64 kA, .int .i64 aA, .int .u32 mA] 29 (0, 0))))
          case first => as_aux_lemma =>
            by_cases hin : i < nc
            · have hd3 : decide (i < nc) = true := decide_eq_true hin
              have hlt3 : (i : Int) < (nc : Int) := by omega
              obtain ⟨b3, off3, rfl, hl3, c0, c1, c2, _⟩ := HC.out i hin
              have hbw := HO5.out.pat.mine.1
              have c0' := (hbw.cell (p := ⟨b3, off3 + i * 3, none⟩) hl3).trans c0
              have c1' := (hbw.cell (p := ⟨b3, off3 + i * 3 + 1, none⟩) hl3).trans c1
              have c2' := (hbw.cell (p := ⟨b3, off3 + i * 3 + 2, none⟩) hl3).trans c2
              obtain ⟨e0, e1, e2⟩ := HNG.out
              unfold kindAt at e0
              rw [if_pos hin] at e0 e1 e2
              rw [e0] at c0'
              rw [e2] at c2'
              obtain ⟨aB, haB⟩ : ∃ aB, (C i).2.1 = aB := ⟨_, rfl⟩
              rw [haB] at c1' e1
              have HE1 := Lib.hid e1
              clear e0 e1 e2 haB c0 c1 c2 hl3 hbw hin
              go_wp2_with fail
              refine (near_any kA aB mA W5).mono ?_; rintro e W6 ⟨rfl, hb6⟩
              rw [HE1.out]
              have HG6 : Hid (W6.heap[g]? = some (.cells #[.int .i64 0, .int .i64 0, .int .u32 0] 29 (0, 0))) := Lib.hid ((hb6.block g (Array.getElem?_eq_some_iff.1 HG0.out).1).trans HG0.out)
              have HO6 := Lib.hid (HO5.out.below hb6)
              clear c0' c1' c2' hb6
              have z0 : W6.cell? ⟨g, 0, none⟩ = some (.int .i64 0) := by rw [cell_of_row W6 g 0 _ _ (0, 0) HG6.out]; rfl
              have z1 : W6.cell? ⟨g, 1, none⟩ = some (.int .i64 0) := by rw [cell_of_row W6 g 1 _ _ (0, 0) HG6.out]; rfl
              have z2 : W6.cell? ⟨g, 2, none⟩ = some (.int .u32 0) := by rw [cell_of_row W6 g 2 _ _ (0, 0) HG6.out]; rfl
              have f0 := frozen_of_row W6 g 0 _ _ HG6.out
              have f1 := frozen_of_row W6 g 1 _ _ HG6.out
              have f2 := frozen_of_row W6 g 2 _ _ HG6.out
              go_wp2_with fail
              go_meet
              obtain ⟨q1, q2, q3, q4, q5⟩ := HGF.out
              have n1 : B ≠ g := by omega
              have n2 : R ≠ g := by omega
              have n3 : G ≠ some g := fun e => by have := q3 g e; omega
              have n4 : ∀ k, (Value.slice aw nw cw).ownBlock = some k → k ≠ g := fun k hk => by have := q5 k hk; omega
              refine ⟨rfl, Lib.hid (((HO6.out.setOther n1 n2 n3 n4 q4 _ _).setOther n1 n2 n3 n4 q4 _ _).setOther n1 n2 n3 n4 q4 _ _), Lib.hid ?_⟩
              rw [heap_setCell_same _ _ _ _ _ _ (heap_setCell_same _ _ _ _ _ _ (heap_setCell_same _ _ _ _ _ _ HG6.out))]
              rfl
            · have hd3 : decide (i < nc) = false := decide_eq_false hin
              have hlt3 : ¬ ((i : Int) < (nc : Int)) := by omega
              go_wp2_with fail
              go_meet
              refine ⟨rfl, HO5, Lib.hid ?_⟩
              obtain ⟨e0, e1, e2⟩ := HNG.out
              unfold kindAt at e0
              rw [if_neg hin] at e0 e1 e2
              rw [← e0, ← e1, ← e2]
              exact HG0.out
          case rest => as_aux_lemma =>
            obtain ⟨rfl, HO6, HG6⟩ := hcut
            clear HO5 HG0
            have k0 : wc.cell? ⟨g, 0, none⟩ = some (.int .i64 kA) := by rw [cell_of_row wc g 0 _ _ (0, 0) HG6.out]; rfl
            have k1 : wc.cell? ⟨g, 1, none⟩ = some (.int .i64 aA) := by rw [cell_of_row wc g 1 _ _ (0, 0) HG6.out]; rfl
            have k2 : wc.cell? ⟨g, 2, none⟩ = some (.int .u32 mA) := by rw [cell_of_row wc g 2 _ _ (0, 0) HG6.out]; rfl
            have HO7 : Hid (One w w.heap.size B R 200 (S i :: (listL S n).drop (i + 1)) G n c h (.slice aw nw cw) (wantL S (kp nc C) n) wc) := Lib.hid (by rw [← listL_drop S n i hgo]; exact HO6.out)
            clear HO6
            have HSZ : Hid ((S i).size ≤ 1000) := Lib.hid (by rw [HS.out]; have := (cutL_le (T.getD i ByteArray.empty) 20).1; omega)
            obtain ⟨y, hy⟩ : ∃ y, S i = y := ⟨_, rfl⟩
            rw [hy] at HO7 HSZ
            have HY := Lib.hid hy
            obtain ⟨c', hc'⟩ : ∃ c', (if sameK y kA aA mA then c + 1 else c) = c' := ⟨_, rfl⟩
            obtain ⟨h', hh'⟩ : ∃ h', (if sameK y kA aA mA then h else h + 1) = h' := ⟨_, rfl⟩
            have HCH' : Hid (c' + h' = i + 1 ∧ c ≤ c' ∧ (sameK y kA aA mA = true → c' = c + 1)) := Lib.hid (by
              have := HCH.out
              cases hsk : sameK y kA aA mA <;> rw [hsk] at hc' hh' <;> simp at hc' hh' <;> simp <;> omega)
            have HCC := Lib.hid (And.intro hc' hh')
            clear hy hc' hh'
            have hcase : (kA ≠ 1 ∧ kA ≠ 2 ∧ kp nc C i = true) ∨ (kA = 1 ∧ kp nc C i = false) ∨ (kA = 2 ∧ kp nc C i = false) := by
              have := HNG.out.1
              unfold kp
              rw [this]
              by_cases g1 : kA = 1
              · exact .inr (.inl ⟨g1, decide_eq_false (fun h => h.1 g1)⟩)
              · by_cases g2 : kA = 2
                · exact .inr (.inr ⟨g2, decide_eq_false (fun h => h.2 g2)⟩)
                · exact .inl ⟨g1, g2, decide_eq_true ⟨g1, g2⟩⟩
            rcases hcase with ⟨g1, g2, hkp⟩ | ⟨rfl, hkp⟩ | ⟨rfl, hkp⟩
            · have e1 : (kA == 1) = false := by simpa using g1
              have e2 : (kA == 2) = false := by simpa using g2
              have hout : outK y kA aA mA = y := by unfold outK; rw [if_neg g1, if_neg g2]
              have hdk : decide (kA ≠ 1) = true := decide_eq_true g1
              have hsk : sameK y kA aA mA = true := by unfold sameK; rw [hout, hdk]; simp
              have HAT := Lib.hid (wantL_at S (kp nc C) n i hgo hkp)
              have HKN : Hid ((wantL S (kp nc C) (i + 1)).length = k + 1) := Lib.hid (by rw [wantL, if_pos hkp, List.length_append, ← HK.out]; rfl)
              have HD := Lib.hid (And.intro hout (And.intro hdk hsk))
              have hkn : k < nw := by rw [HNW.out, HK.out]; exact HAT.out.1
              have hkn2 : (k : Int) < (nw : Int) := by omega
              have hge : decide ((nw : Int) ≤ (k : Int)) = false := decide_eq_false (by omega)
              have hge2 : decide (nw ≤ k) = false := decide_eq_false (by omega)
              clear hout hdk hsk g1 g2
              go_wp2_with fail
              refine (ptake_any kA aA mA HSZ.out HBD.out.1.1 HBD.out.1.2 HBD.out.2.1 HBD.out.2.2 (by have := HCH.out; omega) (by have := HCH.out; omega) HO7.out.pat).mono ?_; rintro e W8 ⟨rfl, h8, ho8⟩
              rw [HD.out.1, HD.out.2.1]
              rw [HCC.out.1, HCC.out.2] at h8
              have HO8 := Lib.hid (HO7.out.pipe h8 ho8 (.inl rfl))
              have HG8 : Hid (W8.heap[g]? = some (.cells #[.int .i64 kA, .int .i64 aA, .int .u32 mA] 29 (0, 0))) := Lib.hid ((ho8.block g (Array.getElem?_eq_some_iff.1 HG6.out).1 (by have := HGF.out; omega) (by have := HGF.out; omega) (fun e => by have := HGF.out.2.2.1 g e; omega)).trans HG6.out)
              clear k0 k1 k2 h8 ho8
              have k0 : W8.cell? ⟨g, 0, none⟩ = some (.int .i64 kA) := by rw [cell_of_row W8 g 0 _ _ (0, 0) HG8.out]; rfl
              obtain ⟨b2, off2, rfl, _, hx2⟩ := HO8.out.rd.at_ hkn
              have hgd : (wantL S (kp nc C) n).getD k ByteArray.empty = y := by rw [HK.out, HAT.out.2, HY.out]
              rw [hgd] at hx2
              clear hgd
              go_wp2_with fail
              go_roundw
              case rel => exact ⟨i + 1, k + 1, c', h', by omega, by go_num, by go_num, Lib.hid HKN.out.symm, Lib.hid ⟨HCH'.out.1, by have h1 := HCH'.out.2.2 HD.out.2.2; have h2 := HCH.out; omega⟩, HO8⟩
              case measure => simp [intOf]; omega
            · have HKN : Hid ((wantL S (kp nc C) (i + 1)).length = k) := Lib.hid (by rw [wantL, if_neg (by rw [hkp]; decide), ← HK.out])
              go_wp2_with fail
              refine (ptake_any 1 aA mA HSZ.out HBD.out.1.1 HBD.out.1.2 HBD.out.2.1 HBD.out.2.2 (by have := HCH.out; omega) (by have := HCH.out; omega) HO7.out.pat).mono ?_; rintro e W8 ⟨rfl, h8, ho8⟩
              rw [HCC.out.1, HCC.out.2] at h8
              have HO8 := Lib.hid (HO7.out.pipe h8 ho8 (.inl rfl))
              have HG8 : Hid (W8.heap[g]? = some (.cells #[.int .i64 1, .int .i64 aA, .int .u32 mA] 29 (0, 0))) := Lib.hid ((ho8.block g (Array.getElem?_eq_some_iff.1 HG6.out).1 (by have := HGF.out; omega) (by have := HGF.out; omega) (fun e => by have := HGF.out.2.2.1 g e; omega)).trans HG6.out)
              clear k0 k1 k2 h8 ho8
              have k0 : W8.cell? ⟨g, 0, none⟩ = some (.int .i64 1) := by rw [cell_of_row W8 g 0 _ _ (0, 0) HG8.out]; rfl
              go_wp2_with fail
              go_roundw
              case rel => exact ⟨i + 1, k, c', h', by omega, by go_num, rfl, Lib.hid HKN.out.symm, Lib.hid ⟨HCH'.out.1, by have h1 := HCH'.out; have h2 := HCH.out; omega⟩, HO8⟩
              case measure => simp [intOf]; omega
            · have HKN : Hid ((wantL S (kp nc C) (i + 1)).length = k) := Lib.hid (by rw [wantL, if_neg (by rw [hkp]; decide), ← HK.out])
              go_wp2_with fail
              refine (ptake_any 2 aA mA HSZ.out HBD.out.1.1 HBD.out.1.2 HBD.out.2.1 HBD.out.2.2 (by have := HCH.out; omega) (by have := HCH.out; omega) HO7.out.pat).mono ?_; rintro e W8 ⟨rfl, h8, ho8⟩
              rw [HCC.out.1, HCC.out.2] at h8
              have HO8 := Lib.hid (HO7.out.pipe h8 ho8 (.inl rfl))
              have HG8 : Hid (W8.heap[g]? = some (.cells #[.int .i64 2, .int .i64 aA, .int .u32 mA] 29 (0, 0))) := Lib.hid ((ho8.block g (Array.getElem?_eq_some_iff.1 HG6.out).1 (by have := HGF.out; omega) (by have := HGF.out; omega) (fun e => by have := HGF.out.2.2.1 g e; omega)).trans HG6.out)
              clear k0 k1 k2 h8 ho8
              have k0 : W8.cell? ⟨g, 0, none⟩ = some (.int .i64 2) := by rw [cell_of_row W8 g 0 _ _ (0, 0) HG8.out]; rfl
              go_wp2_with fail
              go_roundw
              case rel => exact ⟨i + 1, k, c', h', by omega, by go_num, rfl, Lib.hid HKN.out.symm, Lib.hid ⟨HCH'.out.1, by have h1 := HCH'.out; have h2 := HCH.out; omega⟩, HO8⟩
              case measure => simp [intOf]; omega
        · obtain rfl : n = i := by omega
          have hd1 : decide (n < n) = false := decide_eq_false (by omega)
          clear hgo hi
          have hdr : (listL S n).drop n = [] := List.drop_eq_nil_of_le (by rw [listL_len]; exact Nat.le_refl _)
          have HO2 : Hid (One w w.heap.size B R 200 [] G n c h (.slice aw nw cw) (wantL S (kp nc C) n) wr) := Lib.hid (by rw [← hdr]; exact HO.out)
          obtain rfl : nw = k := by rw [HNW.out, HK.out]
          obtain ⟨hch, hkc⟩ := HCH.out
          have hs1 : wrap64 ((c : Int) + (h : Int)) = (n : Int) := by unfold wrap64; omega
          have hs2 : IntKind.i64.wrap ((c : Int) + (h : Int)) = (n : Int) := by rw [IntKind.wrap_i64]; omega
          have hs3 : decide ((nw : Int) ≤ (c : Int)) = true := decide_eq_true (by omega)
          have hs4 : decide (nw ≤ c) = true := decide_eq_true hkc
          clear hdr HO HK HNW
          go_wp2_with fail
          refine (pcounts_any HO2.out.pat).mono ?_; rintro e W8 ⟨rfl, q8, rfl⟩
          have HO8 := Lib.hid (HO2.out.drewN q8)
          clear HO2
          generalize wr.drewN q8 = W8 at *
          obtain ⟨c0, _⟩ := HO8.out.pat.cells
          go_wp2_with fail
          refine (plen_any HO8.out.pat).mono ?_; rintro e W9 ⟨rfl, rfl⟩
          rw [show ((([] : List V).length : Nat) : Int) = 0 from rfl]
          go_wp2_with fail
          go_ret
          exact ⟨rfl, HO8.out.pat.mine.1⟩

theorem own : ownKnob Try.prog.godebug = none := by kernel_rfl
theorem laidOut : laidOutB Try.prog = true := by kernel_rfl

set_option maxRecDepth 100000 in
theorem lifted (os : Os) (started : os.Started) (H : Type) (enc : TypeId × Value → H) :
    ReturnsInHanded {} Try.checked os 4 .any (Rows.pipeOrderSpec.pre6 enc Try.prog Try.f4 Rows.pipeOrderRow.domain false) (Rows.pipeOrderSpec.post enc Try.prog Try.f4 false true false false) := by
  refine Base.law_lifted (C := Try.checked) own started (by kernel_rfl) Try.func4 laidOut (by kernel_rfl) rfl Try.underlying4 rfl ?_
    (ChangeSpec.witness6 (enc := enc) (C := Try.checked) false ⟨#[], #[.slice none 0 0, .slice none 0 0], []⟩ 8 (by kernel_rfl) (by kernel_rfl) (by kernel_rfl) (by kernel_rfl)) ?_
  · intro ds h
    match ds, h with
    | [_d0, _d1], _ => exact ⟨rfl, rfl, rfl⟩
  · intro W base args ds before hval0 hA0 hlt hsz
    have hval : ∀ (j : Nat) t v, Try.f4.params[j]? = some t → args[j]? = some v → Value.okWide Try.prog W .any base t v := hval0
    have hA : DataW.TrodAll enc Try.prog W 0 (fun _ => true) true Try.f4.params.toList args.toList ds before := hA0
    clear hval0 hA0
    rw [Try.params4] at hA hval hsz
    obtain ⟨v0, vs0, d0, ds0, p0, q0, hargs, rfl, rfl, h0, r0⟩ := trodAll_cons hA
    obtain ⟨v1, vs1, d1, ds1, p1, q1, rfl, rfl, rfl, h1, r1⟩ := trodAll_cons r0
    obtain ⟨rfl, rfl, rfl⟩ := trodAll_nil r1
    obtain rfl : args = #[v0, v1] := by cases args; simp_all
    obtain ⟨a0, w0⟩ := Base.open_str_slice Try.underlying26 Try.underlying9 (by kernel_rfl) (hval 0 26 v0 rfl rfl) h0 (fun x hx => hlt x (by simp [hx]))
    obtain ⟨x1, w1⟩ := Base.open_shape (s := (.slice (.struct [(.int .i64), (.int .i64), (.int .u32)]))) (by kernel_rfl) (hval 1 48 v1 rfl rfl) h1 (fun x hx => hlt x (by simp [hx])) hsz (j := 1) rfl rfl
    exact walk W v0 a0 w0 v1 x1 w1

theorem over : Rows.pipeOrderRow.holds Try.pinned (OpenSpec.ofChange Rows.pipeOrderSpec) :=
  OpenClaim.holds_of_wide 4 Try.f4 rfl rfl rfl rfl rfl rfl rfl ⟨rfl, rfl, rfl, rfl, rfl⟩ rfl rfl rfl rfl rfl (by kernel_rfl) Try.func4 (by kernel_rfl)
    (of_decide_eq_true (by kernel_rfl)) (by unfold Func.isWrapper; first | (rw [if_pos (by decide +kernel)]; kernel_rfl) | (rw [if_neg (by decide +kernel)]; exact ⟨rfl, rfl⟩))
    (fun os started H enc _ => lifted os started H enc)

theorem proved : Rows.PipeOrderSaid :=
  over
#print axioms proved
end Go.Proofs.Ytoeoigclleijmaa.pipeOrder
