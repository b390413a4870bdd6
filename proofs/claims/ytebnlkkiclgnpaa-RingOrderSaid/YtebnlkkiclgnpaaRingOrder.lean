/-
  RingOrder is proved: what is taken is what was put, in its order, each once; for every input the law returns true.
-/
import Derived.Test.YtebnlkkiclgnpaaBase
import Derived.Test.YtebnlkkiclgnpaaOrd
import Derived.Test.YtebnlkkiclgnpaaLaw04O
import Derived.Test.YtebnlkkiclgnpaaRead
import Derived.BigQuiet
import Derived.Deep.QuietTactic
import Derived.Deep.DeepCutAuto
namespace Go.Proofs.Ytebnlkkiclgnpaa.ringOrder
open Go.ChangeShapes Go.WideShapes Go.ChangeAt Go.RowKit
set_option linter.unusedVariables false      -- a walk need not use every bound of an argument

open RingS ViewT OrdT

theorem open_bools (w : World) (v : Value) (x : Base.Dat) (h : Base.RdV w (.slice .bool) x v) : ∃ a n cap, v = .slice a n cap ∧ n ≤ 9223372036854775807 ∧ ∀ i, i < n → ∃ b off t, a = some ⟨b, off, none⟩ ∧ b < w.heap.size ∧ w.cell? ⟨b, off + i, none⟩ = some (.bool t) := by
  obtain ⟨l, a, cap, rfl, h1, h2, h3⟩ := Base.rd_slice h
  simp only [List.cons.injEq, and_true] at h1
  subst h1
  refine ⟨a, l.length, cap, rfl, by omega, fun i hi => ?_⟩
  rcases h3 with rfl | ⟨b, off, rfl, hb, h3⟩
  · simp at hi
  · obtain ⟨es, _, h4, h5⟩ := h3 i hi
    obtain ⟨t, _, rfl⟩ := Base.rd_bool h5
    refine ⟨b, off, t, rfl, hb, ?_⟩
    have := h4 0 (by decide)
    simpa [Base.Shp.size] using this
theorem none_no {L : List ByteArray} {x : ByteArray} : noneCode (x :: L) = 0 := by unfold noneCode; simp
theorem bool_below {w w' : World} {n : Nat} {a : Option Addr} (h : ∀ i, i < n → ∃ b off t, a = some ⟨b, off, none⟩ ∧ b < w.heap.size ∧ w.cell? ⟨b, off + i, none⟩ = some (.bool t)) (hb : Below w.heap.size w w') : ∀ i, i < n → ∃ b off t, a = some ⟨b, off, none⟩ ∧ b < w'.heap.size ∧ w'.cell? ⟨b, off + i, none⟩ = some (.bool t) := fun i hi => by
  obtain ⟨b, off, t, e, hl, hc⟩ := h i hi
  exact ⟨b, off, t, e, Nat.lt_of_lt_of_le hl hb.size, (hb.cell (p := ⟨b, off + i, none⟩) hl).trans hc⟩

set_option maxRecDepth 100000 in
set_option maxHeartbeats 8000000 in
theorem walk (w : World) (a0 : Int) (w0 : (Lit.int .i64 a0).wf = true) (v1 : Value) (T : List ByteArray) (w1 : Base.StrSlice w v1 T) (v2 : Value) (x2 : Base.Dat) (w2 : Base.RdV w (.slice .bool) x2 v2) :
    Calls Try.prog 3 #[.int .i64 a0, v1, v2] w fun e w' => e = .returned (.bool true) ∧ Below w.heap.size w w' := by
  obtain ⟨y1, y2⟩ := bounds_i64 w0
  obtain ⟨a, cap, rfl, hr, hl⟩ := rd_strs w1
  obtain ⟨ab, nb, cb, rfl, hlb, hbo⟩ := open_bools w v2 x2 w2
  obtain ⟨M, hM⟩ : ∃ M, T.length = M := ⟨_, rfl⟩
  rw [hM] at hr hl ⊢
  have HR := Lib.hid hr
  have HBO := Lib.hid hbo
  clear hr hbo hM w0 w1 w2 x2
  go_enter Try.func3, Try.ntmps3
  go_wp2_with fail
  refine (RingI.awake_any _).mono ?_; rintro e W0 ⟨rfl, hb0⟩
  have HB0 := Lib.hid hb0
  clear hb0
  go_upto_region 3 with (fail)
  go_cut [7] (fun s7 wx => ∃ R mm : Nat, s7 = .pointer (some ⟨R, 0, none⟩) ∧ 1 ≤ mm ∧ mm ≤ 50 ∧ Hid (Mine w w.heap.size R mm [] none wx))
  case first =>
    obtain ⟨mm, hmm, hm1, hm2⟩ : ∃ mm : Nat, max 1 (min a0 50) = (mm : Int) ∧ 1 ≤ mm ∧ mm ≤ 50 := ⟨(max 1 (min a0 50)).toNat, by omega, by omega, by omega⟩
    have HMM := Lib.hid hmm
    clear hmm
    go_wp2_with fail
    all_goals
      refine (new_own w W0 w.heap.size _ mm (by have := HMM.out; omega) HB0.out HB0.out.size).mono ?_; rintro e W1 ⟨R, rfl, _, h1⟩
      have H1 := Lib.hid h1
      clear h1
      go_wp2_with fail
      go_meet
      exact ⟨R, mm, rfl, hm1, hm2, H1⟩
  case rest =>
  obtain ⟨R, mm, rfl, hm1, hm2, H1⟩ := hcut
  clear y1 y2
  go_wp2_with fail
  go_loopw [8, 9, 10] (fun s8 s9 s10 wr => ∃ (i : Nat) (L I O : List ByteArray) (G : Option Nat), i ≤ 100 ∧ i ≤ M ∧ s10 = .int .i64 (i : Int) ∧ Hid (Two w w.heap.size R mm L G s8 I s9 O wr) ∧ Hid (O ++ L = I) ∧ Hid (I.length ≤ i)) (fun _ _ s10 _ => 100 - (intOf s10).toNat)
  case atStart => exact ⟨0, [], [], [], none, by omega, by omega, rfl, Lib.hid ⟨H1.out, OwnI.nil, OwnI.nil, (fun k hk => by cases hk), (fun k hk => by cases hk), .inl rfl⟩, Lib.hid rfl, Lib.hid (Nat.le_refl _)⟩
  case round =>
    obtain ⟨i, L, I, O, G, hi, hiM, rfl, ht, hol, hil⟩ := hrel
    have hb := ht.out.mine.1
    by_cases hgo : i < M ∧ i < 100
    · obtain ⟨hg1, hg2⟩ := hgo
      have hd1 : decide (i < M) = true := decide_eq_true hg1
      have hd2 : decide ((i : Int) < 100) = true := decide_eq_true (by omega)
      obtain ⟨b, off, rfl, hbl, hc0⟩ := HR.out.at_ hg1
      have hc := ((hb.cell (p := ⟨b, off + i, none⟩) hbl).trans hc0)
      have hiI : (i : Int) < (M : Int) := by omega
      obtain ⟨x, hx⟩ : ∃ x, T.getD i ByteArray.empty = x := ⟨_, rfl⟩
      rw [hx] at hc
      have HC0 : Hid (∀ x', Below w.heap.size w x' → x'.cell? ⟨b, off + i, none⟩ = some (.string x)) := Lib.hid (fun x' hb' => by
        rw [← hx]; exact (hb'.cell (p := ⟨b, off + i, none⟩) hbl).trans hc0)
      obtain ⟨W3, hW3⟩ : ∃ W3, W3 = wr := ⟨_, rfl⟩
      rw [← hW3] at ht hc ⊢
      clear hx hbl hc0 hb hW3
      have hilb := hil.out
      go_wp2_with fail
      refine (put_own x ht.out.mine).mono ?_; rintro e W4 ⟨rfl, G4, h4, ho4, hG4⟩
      obtain ⟨fc, hfc⟩ : ∃ fc, fullCode mm L = fc := ⟨_, rfl⟩
      obtain ⟨L4, hL4⟩ : ∃ L4, putRow mm L x = L4 := ⟨_, rfl⟩
      have HFC : Hid ((fc = 0 ∧ L4 = L ++ [x]) ∨ (fc = 7 ∧ L4 = L)) := Lib.hid (by
        rw [← hfc, ← hL4]; unfold fullCode putRow
        split
        · exact .inl ⟨rfl, rfl⟩
        · exact .inr ⟨rfl, rfl⟩)
      rw [hL4] at h4
      rw [hfc]
      have H4 : Hid (Two w w.heap.size R mm L4 G4 u8 I u9 O W4) := Lib.hid (ht.out.ring h4 ho4 hG4)
      have HX4 := Lib.hid (HC0.out W4 H4.out.mine.1)
      clear h4 ho4 hG4 hfc hL4 ht hc
      go_upto_if 38 with (fail)
      go_cut [8] (fun s8' wx => ∃ I', Hid (Two w w.heap.size R mm L4 G4 s8' I' u9 O wx) ∧ Hid (O ++ L4 = I') ∧ Hid (I'.length ≤ i + 1))
      case first =>
        rcases HFC.out with ⟨rfl, rfl⟩ | ⟨rfl, rfl⟩
        · have hx4 := HX4.out
          go_wp2_with (at_builtin; refine wpList_appT_at rfl (.tmp 39) (.tmp 44) rfl w.heap.size _ I rfl (OwnI.below H4.out.own1 ((Below.refl _ _).alloc (Nat.le_refl _) _)) _ _ 1 x rfl (rdI_lit1 _ x) (by omega) (by have := H4.out.mine.2.1; simp; omega) ?_)
          rintro v' w' hown' hgr hv'
          go_wp2_with fail
          go_meet
          exact ⟨I ++ [x], Lib.hid ((H4.out.below ((Below.refl _ _).alloc (Nat.le_refl _) _)).app1 hgr hown' (by simpa using hv')), Lib.hid (by rw [← hol.out]; simp), Lib.hid (by simp; omega)⟩
        · go_wp2_with fail
          go_meet
          exact ⟨I, H4, hol, Lib.hid (by omega)⟩
      case rest =>
      obtain ⟨I4, h4, hol4, hil4⟩ := hcut
      clear HFC HX4 H4 hol hil HC0 hilb
      have hsz : O.length ≤ i + 1 := by have := hil4.out; rw [← hol4.out] at this; simp at this; omega
      have hcase : decide (i < nb) = false ∨ (decide (i < nb) = true ∧ (i : Int) < (nb : Int) ∧ ∃ b off t, ab = some ⟨b, off, none⟩ ∧ wc.cell? ⟨b, off + i, none⟩ = some (.bool t)) := by
        by_cases h : i < nb
        · obtain ⟨b3, off3, t, e3, hl3, hc3⟩ := HBO.out i h
          exact .inr ⟨decide_eq_true h, by omega, b3, off3, t, e3, (h4.out.mine.1.cell (p := ⟨b3, off3 + i, none⟩) hl3).trans hc3⟩
        · exact .inl (decide_eq_false h)
      rcases hcase with hk | ⟨hk, hk2, b3, off3, t, rfl, hc3⟩
      · go_wp2_with fail
        go_roundw
        case rel => exact ⟨i + 1, L4, I4, O, G4, by omega, by omega, by go_num, h4, hol4, hil4⟩
        case measure => simp [intOf]; omega
      · cases t
        · go_wp2_with fail
          go_roundw
          case rel => exact ⟨i + 1, L4, I4, O, G4, by omega, by omega, by go_num, h4, hol4, hil4⟩
          case measure => simp [intOf]; omega
        · go_wp2_with fail
          refine (take_own h4.out.mine).mono ?_; rintro e W5 ⟨rfl, h5, ho5⟩
          have H5 := Lib.hid (h4.out.ring h5 ho5 (.inl rfl))
          clear h5 ho5 h4 hc3
          rcases L4 with _ | ⟨y, L5⟩
          · rw [show noneCode [] = 9 from rfl]
            go_wp2_with fail
            go_roundw
            case rel => exact ⟨i + 1, [], I4, O, G4, by omega, by omega, by go_num, H5, hol4, hil4⟩
            case measure => simp [intOf]; omega
          · rw [none_no, show enc (headRow (y :: L5)) = Value.string y from rfl]
            go_wp2_with (at_builtin; refine wpList_appT_at rfl (.tmp 63) (.tmp 65) rfl w.heap.size _ O rfl (OwnI.below H5.out.own2 ((Below.refl _ _).alloc (Nat.le_refl _) _)) _ _ 1 y rfl (rdI_lit1 _ y) (by omega) (by have := H5.out.mine.2.1; simp; omega) ?_)
            rintro v' w' hown' hgr hv'
            go_wp2_with fail
            go_roundw
            case rel => exact ⟨i + 1, L5, I4, O ++ [y], G4, by omega, by omega, by go_num, Lib.hid ((H5.out.below ((Below.refl _ _).alloc (Nat.le_refl _) _)).swap.app1 hgr hown' (by simpa using hv')).swap, Lib.hid (by rw [← hol4.out]; simp), hil4⟩
            case measure => simp [intOf]; omega
    · have hcase : decide (i < M) = false ∨ (decide (i < M) = true ∧ decide ((i : Int) < 100) = false) := by
        by_cases h1 : i < M
        · exact .inr ⟨decide_eq_true h1, decide_eq_false (by omega)⟩
        · exact .inl (decide_eq_false h1)
      clear hgo hb HR HBO
      obtain ⟨ll, hll⟩ : ∃ ll, L.length = ll := ⟨_, rfl⟩
      obtain ⟨nn, hnn⟩ : ∃ nn, I.length = nn := ⟨_, rfl⟩
      have hsum : O.length + ll = nn := by rw [← hll, ← hnn, ← hol.out]; simp
      have hnn2 : nn ≤ 100 := by have := hil.out; omega
      have HSUM := Lib.hid hsum
      have HLL := Lib.hid hll
      have HNN := Lib.hid hnn
      clear hsum hll hnn
      rcases hcase with hd1 | ⟨hd1, hd2⟩
      all_goals
        go_wp2_with fail
        refine (clear_two ht.out).mono ?_; rintro e W4 ⟨g, rfl, hrd, h4⟩
        rw [HLL.out] at hrd ⊢
        have HRD := Lib.hid hrd
        have H4 := Lib.hid h4
        clear hrd h4 ht
        go_wp2_with (at_builtin; refine ViewT.wpList_appI rfl (.tmp 67) (.tmp 69) 22 rfl Try.underlying22 w.heap.size _ O rfl H4.out.own2 _ ll ll L rfl HRD.out (fun h => by cases h) (by have := HSUM.out; omega) H4.out.mine.2.1 ?_)
        rintro v' W5 hown' hgr
        rw [hol.out] at hown'
        obtain ⟨M5, hI5⟩ := H4.out.grown2 hgr
        obtain ⟨ai, ni, ci, rfl, hfi, hri⟩ := hI5.form
        obtain ⟨ao, no, co, rfl, hfo, hro⟩ := hown'.form
        obtain rfl : ni = nn := hri.1.trans HNN.out
        obtain rfl : no = ni := hro.1.trans HNN.out
        have HRI := Lib.hid hri
        have HRO := Lib.hid hro
        have HM5 := Lib.hid M5
        clear hri hro M5 hI5 hown' hgr H4 HRD hfi hfo HSUM HNN hol hil
        go_wp2_with fail
        refine (rlen_any _ _ _ _ _ HM5.out.2.2.2.1).mono ?_; rintro e W6 ⟨rfl, rfl⟩
        rw [show ((([] : List ByteArray).length : Nat) : Int) = 0 from rfl]
        obtain ⟨W7, hW7⟩ : ∃ W7, W7 = W5 := ⟨_, rfl⟩
        rw [← hW7] at HRI HRO HM5 ⊢
        clear hW7
        go_wp2_with fail
        go_loopw [83] (fun s83 wr => ∃ k : Nat, k ≤ no ∧ s83 = .int .i64 (k : Int) ∧ Hid (Below W7.heap.size W7 wr)) (fun s83 _ => no - (intOf s83).toNat)
        case atStart => exact ⟨0, by omega, rfl, Lib.hid (Below.refl _ _)⟩
        case round =>
          obtain ⟨k, hk, rfl, hb⟩ := hrel
          by_cases hgo : k < no
          · have hd1 : decide (k < no) = true := decide_eq_true hgo
            obtain ⟨b1, o1, rfl, _, h1⟩ := (HRI.out.below hb.out).at_ hgo
            obtain ⟨b2, o2, rfl, _, h2⟩ := (HRO.out.below hb.out).at_ hgo
            obtain ⟨z, hz⟩ : ∃ z, I.getD k ByteArray.empty = z := ⟨_, rfl⟩
            rw [hz] at h1 h2
            clear hz
            have hkI : (k : Int) < (no : Int) := by omega
            go_wp2_with fail
            go_quiet (fail)
            have HB9 := Lib.hid (below_drewN hb.out nq)
            go_wp2_with fail
            go_roundw
            case rel => exact ⟨k + 1, by omega, by go_num, HB9⟩
            case measure => simp [intOf]; omega
          · have hd1 : decide (k < no) = false := decide_eq_false hgo
            go_wp2_with fail
            go_ret
            exact ⟨rfl, HM5.out.1.trans (hb.out.mono HM5.out.2.1)⟩

theorem own : ownKnob Try.prog.godebug = none := by kernel_rfl
theorem laidOut : laidOutB Try.prog = true := by kernel_rfl

set_option maxRecDepth 100000 in
theorem lifted (os : Os) (started : os.Started) (H : Type) (enc : TypeId × Value → H) :
    ReturnsInHanded {} Try.checked os 3 .any (Rows.ringOrderSpec.pre6 enc Try.prog Try.f3 Rows.ringOrderRow.domain false) (Rows.ringOrderSpec.post enc Try.prog Try.f3 false true false false) := by
  refine Base.law_lifted (C := Try.checked) own started (by kernel_rfl) Try.func3 laidOut (by kernel_rfl) rfl Try.underlying4 rfl ?_
    (ChangeSpec.witness6 (enc := enc) (C := Try.checked) false ⟨#[], #[.int .i64 0, .slice none 0 0, .slice none 0 0], []⟩ 8 (by kernel_rfl) (by kernel_rfl) (by kernel_rfl) (by kernel_rfl)) ?_
  · intro ds h
    match ds, h with
    | [_d0, _d1, _d2], _ => exact ⟨rfl, rfl, rfl⟩
  · intro W base args ds before hval0 hA0 hlt hsz
    have hval : ∀ (j : Nat) t v, Try.f3.params[j]? = some t → args[j]? = some v → Value.okWide Try.prog W .any base t v := hval0
    have hA : DataW.TrodAll enc Try.prog W 0 (fun _ => true) true Try.f3.params.toList args.toList ds before := hA0
    clear hval0 hA0
    rw [Try.params3] at hA hval hsz
    obtain ⟨v0, vs0, d0, ds0, p0, q0, hargs, rfl, rfl, h0, r0⟩ := trodAll_cons hA
    obtain ⟨v1, vs1, d1, ds1, p1, q1, rfl, rfl, rfl, h1, r1⟩ := trodAll_cons r0
    obtain ⟨v2, vs2, d2, ds2, p2, q2, rfl, rfl, rfl, h2, r2⟩ := trodAll_cons r1
    obtain ⟨rfl, rfl, rfl⟩ := trodAll_nil r2
    obtain rfl : args = #[v0, v1, v2] := by cases args; simp_all
    obtain ⟨a0, rfl, rfl, rfl, w0⟩ := open_int Try.underlying3 (hval 0 3 v0 rfl rfl) h0
    obtain ⟨a1, w1⟩ := Base.open_str_slice Try.underlying22 Try.underlying9 (by kernel_rfl) (hval 1 22 v1 rfl rfl) h1 (fun x hx => hlt x (by simp [hx]))
    obtain ⟨x2, w2⟩ := Base.open_shape (s := (.slice .bool)) (by kernel_rfl) (hval 2 23 v2 rfl rfl) h2 (fun x hx => hlt x (by simp [hx])) hsz (j := 2) rfl rfl
    exact walk W a0 w0 v1 a1 w1 v2 x2 w2

theorem over : Rows.ringOrderRow.holds Try.pinned (OpenSpec.ofChange Rows.ringOrderSpec) :=
  OpenClaim.holds_of_wide 3 Try.f3 rfl rfl rfl rfl rfl rfl rfl ⟨rfl, rfl, rfl, rfl, rfl⟩ rfl rfl rfl rfl rfl (by kernel_rfl) Try.func3 (by kernel_rfl)
    (of_decide_eq_true (by kernel_rfl)) (by unfold Func.isWrapper; first | (rw [if_pos (by decide +kernel)]; kernel_rfl) | (rw [if_neg (by decide +kernel)]; exact ⟨rfl, rfl⟩))
    (fun os started H enc _ => lifted os started H enc)

theorem proved : Rows.RingOrderSaid :=
  over
#print axioms proved
end Go.Proofs.Ytebnlkkiclgnpaa.ringOrder
