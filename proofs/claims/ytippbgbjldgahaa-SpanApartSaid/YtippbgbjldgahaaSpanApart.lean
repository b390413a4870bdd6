/-
  SpanApart is proved: with and without spans that don't touch one another, in any order, the set is the same; for every input the law returns true.
-/
import Derived.Test.YtippbgbjldgahaaBase
import Derived.Test.YtippbgbjldgahaaLaw03Kit
import Derived.Test.YtippbgbjldgahaaSpanDrop
import Derived.Test.YtippbgbjldgahaaSpanSame
import Derived.Deep.RegionHeld3
import Derived.Deep.DeepCutAuto
namespace Go.Proofs.Ytippbgbjldgahaa.spanApart
open Go.ChangeShapes Go.WideShapes Go.ChangeAt Go.RowKit
set_option linter.unusedVariables false      -- a walk need not use every bound of an argument

open SpanMath View SpanCalls Law03 Ref

set_option maxRecDepth 100000 in
set_option maxHeartbeats 100000000 in
theorem walk (w : World) (v0 : Value) (D : List (Int × Int)) (w0 : Base.Pairs w v0 D) (p1 p2 : Int) (w1 : (Lit.int .i64 p1).wf = true) (w2 : (Lit.int .i64 p2).wf = true) (q1 q2 : Int) (w3 : (Lit.int .i64 q1).wf = true) (w4 : (Lit.int .i64 q2).wf = true) :
    Calls Try.prog 6 #[v0, .agg #[.int .i64 p1, .int .i64 p2], .agg #[.int .i64 q1, .int .i64 q2]] w fun e w' => e = .returned (.bool true) ∧ Below w.heap.size w w' := by
  obtain ⟨a, n, cap, rfl, hf, hr⟩ := rd_pairs w0
  obtain ⟨S, hS, hsm⟩ := few_set D
  have HS := Lib.hid hS
  have HSM := Lib.hid hsm
  obtain ⟨c1, c2, hcl⟩ : ∃ c1 c2, clip (p1, p2) = (c1, c2) := ⟨_, _, rfl⟩
  obtain ⟨d1, d2, hdl⟩ : ∃ d1 d2, clip (q1, q2) = (d1, d2) := ⟨_, _, rfl⟩
  have hcb := clip_bd (p1, p2)
  rw [hcl] at hcb
  obtain ⟨hb1, hb2, hb3, hb4, _⟩ := hcb
  have hdb := clip_bd (q1, q2)
  rw [hdl] at hdb
  obtain ⟨hd1, hd2, hd3, hd4, _⟩ := hdb
  have HF1 : Hid (fewL [(p1, p2), (q1, q2)] = [(c1, c2), (d1, d2)]) := Lib.hid (by simp [fewL, hcl, hdl])
  change -100 ≤ c1 at hb1
  change c1 ≤ 100 at hb2
  change -100 ≤ c2 at hb3
  change c2 ≤ 100 at hb4
  change -100 ≤ d1 at hd1
  change d1 ≤ 100 at hd2
  change -100 ≤ d2 at hd3
  change d2 ≤ 100 at hd4
  have HD1 := Lib.hid ((hr.alloc (.cells #[.int .i64 p1, .int .i64 p2] 35)).alloc (.cells #[.int .i64 q1, .int .i64 q2] 35))
  have hX0 := (Box.new w p1 p2).below ((Below.refl _ _).alloc (Nat.le_refl _) (.cells #[.int .i64 q1, .int .i64 q2] 35))
  have hY0 := Box.new (w.alloc (.cells #[.int .i64 p1, .int .i64 p2] 35)) q1 q2
  rw [World.size_alloc] at hY0
  have HX2 := Lib.hid (hX0)
  have HY3 := Lib.hid (hY0)
  have HB4 : Hid (Below w.heap.size w ((w.alloc (.cells #[.int .i64 p1, .int .i64 p2] 35)).alloc (.cells #[.int .i64 q1, .int .i64 q2] 35))) := Lib.hid (((Below.refl _ w).alloc (Nat.le_refl _) _).alloc (by simp) _)
  clear w0 w1 w2 w3 w4 hr hf hS hsm hcl hdl hX0 hY0
  go_enter Try.func6, Try.ntmps6
  go_wp2_with fail
  refine (awake_any _).mono ?_; rintro e x1 ⟨rfl, hb1⟩
  have HD5 := Lib.hid (HD1.out.below hb1)
  clear HD1
  have HX6 := Lib.hid (HX2.out.below hb1)
  clear HX2
  have HY7 := Lib.hid (HY3.out.below hb1)
  clear HY3
  have HB8 := Lib.hid (HB4.out.trans (hb1.mono HB4.out.size))
  clear HB4
  go_wp2_with fail
  refine (few_any _ _ _ D _ HD5.out).mono ?_; rintro e x2 ⟨vp, up, Ap, rfl, hop, hup, hjp, hb2⟩
  have HJp := Lib.hid hjp
  have HLTp : Hid (∀ k, Value.ownBlock vp = some k → k < x2.heap.size) := Lib.hid (fun k hk => (hop.lt k hk).2)
  obtain ⟨aps, nps, cps, rfl, hfps, hrps⟩ := hop.form
  obtain ⟨api, npi, cpi, rfl, hfpi, hrpi⟩ := hup.form
  have hnps : nps ≤ 12 := by rw [hrps.1]; exact fewL_len D
  have hnpi : npi ≤ 200 := by rw [hrpi.1]; exact just_len hjp (fun z hz => inSp_few D z hz)
  have HFps := Lib.hid hfps
  have HFpi := Lib.hid hfpi
  clear hfps hfpi hjp
  have HD9 := Lib.hid (HD5.out.below hb2)
  clear HD5
  have HX10 := Lib.hid (HX6.out.below hb2)
  clear HX6
  have HY11 := Lib.hid (HY7.out.below hb2)
  clear HY7
  have HB12 := Lib.hid (HB8.out.trans (hb2.mono HB8.out.size))
  clear HB8
  have HRps14 := Lib.hid (hrps)
  have HRpi15 := Lib.hid (hrpi)
  have HUp16 := Lib.hid (hup)
  clear hrps hrpi hup hop
  have HA : Hid (nums S = Ap) := Lib.hid (just_nums HS.out HJp.out)
  clear HD9
  clear HUp16
  have hxl := HX10.out.lt
  obtain ⟨hx1, hx2⟩ := HX10.out.cells
  have hyl := HY11.out.lt
  obtain ⟨hy1, hy2⟩ := HY11.out.cells
  go_wp2_with fail
  have hlit := rdS_lit2 x2 p1 p2 q1 q2
  refine (few_any _ _ _ [(p1, p2), (q1, q2)] _ hlit).mono ?_; rintro e x3 ⟨vq, uq, Aq, rfl, hoq, _, _, hbq⟩
  have hbq2 : Below x2.heap.size x2 x3 := ((Below.refl _ x2).alloc (Nat.le_refl _) _).trans (hbq.mono (by simp))
  rw [HF1.out] at hoq
  obtain ⟨aqs, nqs, cqs, rfl, hfqs, hrqs⟩ := hoq.form
  have hnqs : nqs = 2 := hrqs.1
  subst hnqs
  obtain ⟨bq, oq, rfl, hlq, hz1, hz2⟩ := hrqs.at_ (k := 0) (by omega)
  obtain ⟨_, _, ez, _, hz3, hz4⟩ := hrqs.at_ (k := 1) (by omega)
  cases ez
  simp only [Nat.zero_mul, Nat.add_zero, Nat.one_mul, List.getD_cons_zero, List.getD_cons_succ] at hz1 hz2 hz3 hz4
  clear hfqs hlit hbq hx1 hx2 hxl hy1 hy2 hyl hrqs hoq
  clear HX10
  clear HY11
  have HRps17 := Lib.hid (HRps14.out.below hbq2)
  clear HRps14
  have HRpi18 := Lib.hid (HRpi15.out.below hbq2)
  clear HRpi15
  have HB19 := Lib.hid (HB12.out.trans (hbq2.mono HB12.out.size))
  clear HB12
  clear hbq2
  go_upto_region 5 with (fail)
  go_cut [11, 12] (fun s11 s12 wx => ∃ A B : Nat, s11 = .pointer (some ⟨A, 0, none⟩) ∧ s12 = .pointer (some ⟨B, 0, none⟩) ∧ Box wx A c1 c2 ∧ Box wx B d1 d2 ∧ Below x3.heap.size x3 wx)
  case first =>
    go_wp2_with fail
    go_region_held3 (fun w' => w'.cell? ⟨bq, oq, none⟩ = some (.int .i64 c1) ∧ w'.cell? ⟨bq, oq + 1, none⟩ = some (.int .i64 c2) ∧ w'.cell? ⟨bq, oq + 2, none⟩ = some (.int .i64 d1) ∧ w'.cell? ⟨bq, oq + 2 + 1, none⟩ = some (.int .i64 d2)) (go_keep) (fail)
    all_goals go_wp2_with fail
    all_goals go_meet
    all_goals first
      | exact ⟨_, _, rfl, rfl, (twoBox x3 c1 c2 d1 d2).1, (twoBox x3 c1 c2 d1 d2).2.1, (twoBox x3 c1 c2 d1 d2).2.2⟩
      | exact ⟨_, _, rfl, rfl, (twoBox x3 d1 d2 c1 c2).2.1, (twoBox x3 d1 d2 c1 c2).1, (twoBox x3 d1 d2 c1 c2).2.2⟩
  case rest =>
    obtain ⟨A, B, rfl, rfl, hbA, hbB, hbl⟩ := hcut
    clear hz1 hz2 hz3 hz4 hlq
    have HRps501 := Lib.hid (HRps17.out.below hbl)
    clear HRps17
    have HRpi502 := Lib.hid (HRpi18.out.below hbl)
    clear HRpi18
    have HB503 := Lib.hid (HB19.out.trans (hbl.mono HB19.out.size))
    clear HB19
    clear hbl
    have HA504 := Lib.hid (hbA)
    have HB505 := Lib.hid (hbB)
    clear hbA hbB
    go_wp2_with fail
    refine (of_any aps nps cps (fewL D) S _ HRps501.out HFps.out (few_near D) HS.out).mono ?_; rintro e x51 ⟨vg1, rfl, hog1, hb51⟩
    obtain ⟨ag1, ng1, cg1, rfl, hfg1, hrg1⟩ := hog1.form
    have hng1 : ng1 ≤ 1000 := by rw [hrg1.1]; exact HSM.out.1
    have HFg1 := Lib.hid hfg1
    clear hfg1
    have HRps506 := Lib.hid (HRps501.out.below hb51)
    clear HRps501
    have HRpi507 := Lib.hid (HRpi502.out.below hb51)
    clear HRpi502
    have HA508 := Lib.hid (HA504.out.below hb51)
    clear HA504
    have HB509 := Lib.hid (HB505.out.below hb51)
    clear HB505
    have HB510 := Lib.hid (HB503.out.trans (hb51.mono HB503.out.size))
    clear HB503
    have HRg1511 := Lib.hid (hrg1)
    clear hrg1 hog1
    clear HRps506
    have hla := HA508.out.lt
    have hlb := HB509.out.lt
    obtain ⟨ha1, ha2⟩ := HA508.out.cells
    obtain ⟨he1, he2⟩ := HB509.out.cells
    by_cases hap : max c1 d1 ≤ min c2 d2
    · have hdp : decide (max c1 d1 ≤ min c2 d2) = true := decide_eq_true hap
      go_wp2_with fail
      refine (is_any ag1 ng1 cg1 S api npi cpi Ap _ HRg1511.out HSM.out HS.out.1 HRpi507.out HA.out).mono ?_; rintro e x61 ⟨rfl, hb61⟩
      have HRpi601 := Lib.hid (HRpi507.out.below hb61)
      clear HRpi507
      have HA602 := Lib.hid (HA508.out.below hb61)
      clear HA508
      have HB603 := Lib.hid (HB509.out.below hb61)
      clear HB509
      have HRg1604 := Lib.hid (HRg1511.out.below hb61)
      clear HRg1511
      have HB605 := Lib.hid (HB510.out.trans (hb61.mono HB510.out.size))
      clear HB510
      go_wp2_with fail
      go_ret
      exact ⟨rfl, HB605.out⟩
    · have hdp : decide (max c1 d1 ≤ min c2 d2) = false := decide_eq_false hap
      have HAP := Lib.hid hap
      have hinS : ∀ z, z ∈ nums S → -100 ≤ z ∧ z < 100 := fun z hz => inSp_few D z ((HS.out.2 z).1 hz)
      have hdis : ∀ z, (c1 ≤ z ∧ z < c2) → ¬ (d1 ≤ z ∧ z < d2) := fun z h1 h2 => by omega
      obtain ⟨U1, hU1, hsU1⟩ := exists_in (p := fun z => z ∈ nums S ∨ (c1 ≤ z ∧ z < c2)) (fun z hz => by have := hinS z; rcases hz with hz | hz <;> first | exact hinS z hz | omega)
      obtain ⟨V1, hV1, hsV1⟩ := exists_in (p := fun z => z ∈ nums S ∧ ¬ (d1 ≤ z ∧ z < d2)) (fun z hz => hinS z hz.1)
      obtain ⟨X1, hX1, hsX1⟩ := exists_in (p := fun z => z ∈ nums S ∨ (d1 ≤ z ∧ z < d2)) (fun z hz => by have := hinS z; rcases hz with hz | hz <;> first | exact hinS z hz | omega)
      obtain ⟨Y1, hY1, hsY1⟩ := exists_in (p := fun z => z ∈ nums S ∧ ¬ (c1 ≤ z ∧ z < c2)) (fun z hz => hinS z hz.1)
      obtain ⟨G1, hG1, hsG1⟩ := exists_in (p := fun z => (c1 ≤ z ∧ z < c2) ∧ z ∉ nums S) (fun z hz => by have := hz.1; omega)
      obtain ⟨U2, hU2, hsU2⟩ := exists_in (p := fun z => z ∈ nums U1 ∧ ¬ (d1 ≤ z ∧ z < d2)) (fun z hz => by have h1 := (hU1.2 z).1 hz.1; rcases h1 with h1 | h1; exact hinS z h1; omega)
      have hU2b : IsSet U2 (fun z => z ∈ nums V1 ∨ (c1 ≤ z ∧ z < c2)) := ⟨hU2.1, fun z => by
        rw [hU2.2]
        show (z ∈ nums U1 ∧ ¬ (d1 ≤ z ∧ z < d2)) ↔ (z ∈ nums V1 ∨ (c1 ≤ z ∧ z < c2))
        rw [hU1.2, hV1.2]
        show ((z ∈ nums S ∨ (c1 ≤ z ∧ z < c2)) ∧ ¬ (d1 ≤ z ∧ z < d2)) ↔ ((z ∈ nums S ∧ ¬ (d1 ≤ z ∧ z < d2)) ∨ (c1 ≤ z ∧ z < c2))
        have hd := hdis z
        constructor
        · rintro ⟨h | h, h2⟩
          · exact .inl ⟨h, h2⟩
          · exact .inr h
        · rintro (⟨h, h2⟩ | h)
          · exact ⟨.inl h, h2⟩
          · exact ⟨.inr h, hd h⟩⟩
      obtain ⟨W2, hW2, hsW2⟩ := exists_in (p := fun z => z ∈ nums U1 ∨ (d1 ≤ z ∧ z < d2)) (fun z hz => by rcases hz with hz | hz; (rcases (hU1.2 z).1 hz with h1 | h1; exact hinS z h1; omega); omega)
      have hW2b : IsSet W2 (fun z => z ∈ nums X1 ∨ (c1 ≤ z ∧ z < c2)) := ⟨hW2.1, fun z => by
        rw [hW2.2]
        show (z ∈ nums U1 ∨ (d1 ≤ z ∧ z < d2)) ↔ (z ∈ nums X1 ∨ (c1 ≤ z ∧ z < c2))
        rw [hU1.2, hX1.2]
        show ((z ∈ nums S ∨ (c1 ≤ z ∧ z < c2)) ∨ (d1 ≤ z ∧ z < d2)) ↔ ((z ∈ nums S ∨ (d1 ≤ z ∧ z < d2)) ∨ (c1 ≤ z ∧ z < c2))
        have hd := hdis z
        constructor
        · rintro ((h | h) | h)
          · exact .inl (.inl h)
          · exact .inr h
          · exact .inl (.inr h)
        · rintro ((h | h) | h)
          · exact .inl (.inl h)
          · exact .inr h
          · exact .inl (.inr h)⟩
      obtain ⟨Y2, hY2, hsY2⟩ := exists_in (p := fun z => z ∈ nums Y1 ∧ ¬ (d1 ≤ z ∧ z < d2)) (fun z hz => by exact hinS z ((hY1.2 z).1 hz.1).1)
      have hY2b : IsSet Y2 (fun z => z ∈ nums V1 ∧ ¬ (c1 ≤ z ∧ z < c2)) := ⟨hY2.1, fun z => by
        rw [hY2.2]
        show (z ∈ nums Y1 ∧ ¬ (d1 ≤ z ∧ z < d2)) ↔ (z ∈ nums V1 ∧ ¬ (c1 ≤ z ∧ z < c2))
        rw [hY1.2, hV1.2]
        show ((z ∈ nums S ∧ ¬ (c1 ≤ z ∧ z < c2)) ∧ ¬ (d1 ≤ z ∧ z < d2)) ↔ ((z ∈ nums S ∧ ¬ (d1 ≤ z ∧ z < d2)) ∧ ¬ (c1 ≤ z ∧ z < c2))
        have hd := hdis z
        constructor
        · rintro ⟨⟨h, h2⟩, h3⟩; exact ⟨⟨h, h3⟩, h2⟩
        · rintro ⟨⟨h, h2⟩, h3⟩; exact ⟨⟨h, h3⟩, h2⟩⟩
      have hlen := len_split (p := fun z => (c1 ≤ z ∧ z < c2)) HS.out.1 hU1 hG1
      have HU1 := Lib.hid hU1
      have HSU1 := Lib.hid hsU1
      have HV1 := Lib.hid hV1
      have HSV1 := Lib.hid hsV1
      have HX1 := Lib.hid hX1
      have HSX1 := Lib.hid hsX1
      have HY1 := Lib.hid hY1
      have HSY1 := Lib.hid hsY1
      have HG1 := Lib.hid hG1
      have HSG1 := Lib.hid hsG1
      have HU2 := Lib.hid hU2
      have HSU2 := Lib.hid hsU2
      have HW2 := Lib.hid hW2
      have HSW2 := Lib.hid hsW2
      have HY2 := Lib.hid hY2
      have HSY2 := Lib.hid hsY2
      have HU2B := Lib.hid hU2b
      have HW2B := Lib.hid hW2b
      have HY2B := Lib.hid hY2b
      have HLEN := Lib.hid hlen
      have HLU : (nums U1).length ≤ 800 := small_len hsU1 hU1.1
      have HLS : (nums S).length ≤ 800 := small_len HSM.out HS.out.1
      clear hap hinS hdis hlen hU1 hsU1 hV1 hsV1 hX1 hsX1 hY1 hsY1 hG1 hsG1 hU2 hsU2 hW2 hsW2 hY2 hsY2 hU2b hW2b hY2b
      have htok0 : True := trivial
      go_wp2_with fail
      go_region_held3 (fun w' => w'.cell? ⟨A, 0, none⟩ = some (.int .i64 c1) ∧ w'.cell? ⟨A, 1, none⟩ = some (.int .i64 c2) ∧ w'.cell? ⟨B, 0, none⟩ = some (.int .i64 d1) ∧ w'.cell? ⟨B, 1, none⟩ = some (.int .i64 d2))
        (first | (with_reducible assumption) | go_keep)
        (first
          | (have _t := htok0
             go_at_call 16
             refine (add_any ag1 ng1 cg1 S c1 c2 U1 _ (by exact RdS.drewN HRg1511.out 1) HFg1.out HSM.out (by omega) (by omega) (by omega) (by omega) HU1.out).mono ?_
             rintro e y1 ⟨vr1, rfl, hor1, hbr1⟩
             have HBR1 : Hid (Below x51.heap.size x51 y1) := Lib.hid ((below_drewN (Below.refl _ _) 1).trans (by exact hbr1))
             have HRRg1_1 := Lib.hid (RdS.below HRg1511.out HBR1.out)
             obtain ⟨ar1, nr1, cr1, rfl, hfr1, hrr1⟩ := hor1.form
             have hnr1 : nr1 ≤ 1000 := by rw [hrr1.1]; exact HSU1.out.1
             have HFr1 := Lib.hid hfr1
             have HRr1_1 := Lib.hid hrr1
             clear hfr1 hrr1 hor1
             obtain ⟨hk1a, hk1b, hk1c, hk1d⟩ := two_cells HA508.out HB509.out HBR1.out
             clear hbr1 htok0 _t
             have htok1 : True := trivial)
          | (have _t := htok1
             go_at_call 17
             refine (drop_any ar1 nr1 cr1 U1 d1 d2 U2 _ HRr1_1.out HFr1.out HSU1.out HU1.out.1 (by omega) (by omega) (by omega) (by omega) HU2.out).mono ?_
             rintro e y2 ⟨vr2, rfl, hor2, hbr2⟩
             have HBR2 := Lib.hid (HBR1.out.trans (hbr2.mono HBR1.out.size))
             have HRRg1_2 := Lib.hid (HRRg1_1.out.below hbr2)
             obtain ⟨ar2, nr2, cr2, rfl, hfr2, hrr2⟩ := hor2.form
             have hnr2 : nr2 ≤ 1000 := by rw [hrr2.1]; exact HSU2.out.1
             have HFr2 := Lib.hid hfr2
             have HRr2_2 := Lib.hid hrr2
             clear hfr2 hrr2 hor2
             obtain ⟨hk2a, hk2b, hk2c, hk2d⟩ := two_cells HA508.out HB509.out HBR2.out
             clear hbr2 htok1 _t hk1a hk1b hk1c hk1d HBR1 HRRg1_1 HRr1_1
             try (rename (y1.cell? _ = _ ∧ _) => hh; clear hh)
             have htok2 : True := trivial)
          | (have _t := htok2
             go_at_call 17
             refine (drop_any ag1 ng1 cg1 S d1 d2 V1 _ HRRg1_2.out HFg1.out HSM.out HS.out.1 (by omega) (by omega) (by omega) (by omega) HV1.out).mono ?_
             rintro e y3 ⟨vr3, rfl, hor3, hbr3⟩
             have HBR3 := Lib.hid (HBR2.out.trans (hbr3.mono HBR2.out.size))
             have HRRg1_3 := Lib.hid (HRRg1_2.out.below hbr3)
             have HRr2_3 := Lib.hid (HRr2_2.out.below hbr3)
             obtain ⟨ar3, nr3, cr3, rfl, hfr3, hrr3⟩ := hor3.form
             have hnr3 : nr3 ≤ 1000 := by rw [hrr3.1]; exact HSV1.out.1
             have HFr3 := Lib.hid hfr3
             have HRr3_3 := Lib.hid hrr3
             clear hfr3 hrr3 hor3
             obtain ⟨hk3a, hk3b, hk3c, hk3d⟩ := two_cells HA508.out HB509.out HBR3.out
             clear hbr3 htok2 _t hk2a hk2b hk2c hk2d HBR2 HRRg1_2 HRr2_2
             try (rename (y2.cell? _ = _ ∧ _) => hh; clear hh)
             have htok3 : True := trivial)
          | (have _t := htok3
             go_at_call 16
             refine (add_any ar3 nr3 cr3 V1 c1 c2 U2 _ HRr3_3.out HFr3.out HSV1.out (by omega) (by omega) (by omega) (by omega) HU2B.out).mono ?_
             rintro e y4 ⟨vr4, rfl, hor4, hbr4⟩
             have HBR4 := Lib.hid (HBR3.out.trans (hbr4.mono HBR3.out.size))
             have HRRg1_4 := Lib.hid (HRRg1_3.out.below hbr4)
             have HRr2_4 := Lib.hid (HRr2_3.out.below hbr4)
             obtain ⟨ar4, nr4, cr4, rfl, hfr4, hrr4⟩ := hor4.form
             have hnr4 : nr4 ≤ 1000 := by rw [hrr4.1]; exact HSU2.out.1
             have HFr4 := Lib.hid hfr4
             have HRr4_4 := Lib.hid hrr4
             clear hfr4 hrr4 hor4
             obtain ⟨hk4a, hk4b, hk4c, hk4d⟩ := two_cells HA508.out HB509.out HBR4.out
             clear hbr4 htok3 _t hk3a hk3b hk3c hk3d HBR3 HRRg1_3 HRr2_3 HRr3_3
             try (rename (y3.cell? _ = _ ∧ _) => hh; clear hh)
             have htok4 : True := trivial)
          | (have _t := htok4
             go_at_call 14
             refine (same_any ar2 nr2 cr2 U2 ar4 nr4 cr4 U2 _ HRr2_4.out HRr4_4.out (by omega) (by omega)).mono ?_
             rintro e y5 ⟨rfl, hbr5⟩
             have HBR5 := Lib.hid (HBR4.out.trans (hbr5.mono HBR4.out.size))
             have HRRg1_5 := Lib.hid (HRRg1_4.out.below hbr5)
             rw [decide_eq_true rfl]
             obtain ⟨hk5a, hk5b, hk5c, hk5d⟩ := two_cells HA508.out HB509.out HBR5.out
             clear hbr5 htok4 _t hk4a hk4b hk4c hk4d HBR4 HRRg1_4 HRr2_4 HRr4_4
             try (rename (y4.cell? _ = _ ∧ _) => hh; clear hh)
             have htok5 : True := trivial)
          | (have _t := htok5
             go_at_call 16
             refine (add_any ag1 ng1 cg1 S c1 c2 U1 _ HRRg1_5.out HFg1.out HSM.out (by omega) (by omega) (by omega) (by omega) HU1.out).mono ?_
             rintro e y6 ⟨vr5, rfl, hor5, hbr6⟩
             have HBR6 := Lib.hid (HBR5.out.trans (hbr6.mono HBR5.out.size))
             have HRRg1_6 := Lib.hid (HRRg1_5.out.below hbr6)
             obtain ⟨ar5, nr5, cr5, rfl, hfr5, hrr5⟩ := hor5.form
             have hnr5 : nr5 ≤ 1000 := by rw [hrr5.1]; exact HSU1.out.1
             have HFr5 := Lib.hid hfr5
             have HRr5_6 := Lib.hid hrr5
             clear hfr5 hrr5 hor5
             obtain ⟨hk6a, hk6b, hk6c, hk6d⟩ := two_cells HA508.out HB509.out HBR6.out
             clear hbr6 htok5 _t hk5a hk5b hk5c hk5d HBR5 HRRg1_5
             try (rename (y5.cell? _ = _ ∧ _) => hh; clear hh)
             have htok6 : True := trivial)
          | (have _t := htok6
             go_at_call 16
             refine (add_any ar5 nr5 cr5 U1 d1 d2 W2 _ HRr5_6.out HFr5.out HSU1.out (by omega) (by omega) (by omega) (by omega) HW2.out).mono ?_
             rintro e y7 ⟨vr6, rfl, hor6, hbr7⟩
             have HBR7 := Lib.hid (HBR6.out.trans (hbr7.mono HBR6.out.size))
             have HRRg1_7 := Lib.hid (HRRg1_6.out.below hbr7)
             obtain ⟨ar6, nr6, cr6, rfl, hfr6, hrr6⟩ := hor6.form
             have hnr6 : nr6 ≤ 1000 := by rw [hrr6.1]; exact HSW2.out.1
             have HFr6 := Lib.hid hfr6
             have HRr6_7 := Lib.hid hrr6
             clear hfr6 hrr6 hor6
             obtain ⟨hk7a, hk7b, hk7c, hk7d⟩ := two_cells HA508.out HB509.out HBR7.out
             clear hbr7 htok6 _t hk6a hk6b hk6c hk6d HBR6 HRRg1_6 HRr5_6
             try (rename (y6.cell? _ = _ ∧ _) => hh; clear hh)
             have htok7 : True := trivial)
          | (have _t := htok7
             go_at_call 16
             refine (add_any ag1 ng1 cg1 S d1 d2 X1 _ HRRg1_7.out HFg1.out HSM.out (by omega) (by omega) (by omega) (by omega) HX1.out).mono ?_
             rintro e y8 ⟨vr7, rfl, hor7, hbr8⟩
             have HBR8 := Lib.hid (HBR7.out.trans (hbr8.mono HBR7.out.size))
             have HRRg1_8 := Lib.hid (HRRg1_7.out.below hbr8)
             have HRr6_8 := Lib.hid (HRr6_7.out.below hbr8)
             obtain ⟨ar7, nr7, cr7, rfl, hfr7, hrr7⟩ := hor7.form
             have hnr7 : nr7 ≤ 1000 := by rw [hrr7.1]; exact HSX1.out.1
             have HFr7 := Lib.hid hfr7
             have HRr7_8 := Lib.hid hrr7
             clear hfr7 hrr7 hor7
             obtain ⟨hk8a, hk8b, hk8c, hk8d⟩ := two_cells HA508.out HB509.out HBR8.out
             clear hbr8 htok7 _t hk7a hk7b hk7c hk7d HBR7 HRRg1_7 HRr6_7
             try (rename (y7.cell? _ = _ ∧ _) => hh; clear hh)
             have htok8 : True := trivial)
          | (have _t := htok8
             go_at_call 16
             refine (add_any ar7 nr7 cr7 X1 c1 c2 W2 _ HRr7_8.out HFr7.out HSX1.out (by omega) (by omega) (by omega) (by omega) HW2B.out).mono ?_
             rintro e y9 ⟨vr8, rfl, hor8, hbr9⟩
             have HBR9 := Lib.hid (HBR8.out.trans (hbr9.mono HBR8.out.size))
             have HRRg1_9 := Lib.hid (HRRg1_8.out.below hbr9)
             have HRr6_9 := Lib.hid (HRr6_8.out.below hbr9)
             obtain ⟨ar8, nr8, cr8, rfl, hfr8, hrr8⟩ := hor8.form
             have hnr8 : nr8 ≤ 1000 := by rw [hrr8.1]; exact HSW2.out.1
             have HFr8 := Lib.hid hfr8
             have HRr8_9 := Lib.hid hrr8
             clear hfr8 hrr8 hor8
             obtain ⟨hk9a, hk9b, hk9c, hk9d⟩ := two_cells HA508.out HB509.out HBR9.out
             clear hbr9 htok8 _t hk8a hk8b hk8c hk8d HBR8 HRRg1_8 HRr6_8 HRr7_8
             try (rename (y8.cell? _ = _ ∧ _) => hh; clear hh)
             have htok9 : True := trivial)
          | (have _t := htok9
             go_at_call 14
             refine (same_any ar6 nr6 cr6 W2 ar8 nr8 cr8 W2 _ HRr6_9.out HRr8_9.out (by omega) (by omega)).mono ?_
             rintro e y10 ⟨rfl, hbr10⟩
             have HBR10 := Lib.hid (HBR9.out.trans (hbr10.mono HBR9.out.size))
             have HRRg1_10 := Lib.hid (HRRg1_9.out.below hbr10)
             rw [decide_eq_true rfl]
             obtain ⟨hk10a, hk10b, hk10c, hk10d⟩ := two_cells HA508.out HB509.out HBR10.out
             clear hbr10 htok9 _t hk9a hk9b hk9c hk9d HBR9 HRRg1_9 HRr6_9 HRr8_9
             try (rename (y9.cell? _ = _ ∧ _) => hh; clear hh)
             have htok10 : True := trivial)
          | (have _t := htok10
             go_at_call 17
             refine (drop_any ag1 ng1 cg1 S c1 c2 Y1 _ HRRg1_10.out HFg1.out HSM.out HS.out.1 (by omega) (by omega) (by omega) (by omega) HY1.out).mono ?_
             rintro e y11 ⟨vr9, rfl, hor9, hbr11⟩
             have HBR11 := Lib.hid (HBR10.out.trans (hbr11.mono HBR10.out.size))
             have HRRg1_11 := Lib.hid (HRRg1_10.out.below hbr11)
             obtain ⟨ar9, nr9, cr9, rfl, hfr9, hrr9⟩ := hor9.form
             have hnr9 : nr9 ≤ 1000 := by rw [hrr9.1]; exact HSY1.out.1
             have HFr9 := Lib.hid hfr9
             have HRr9_11 := Lib.hid hrr9
             clear hfr9 hrr9 hor9
             obtain ⟨hk11a, hk11b, hk11c, hk11d⟩ := two_cells HA508.out HB509.out HBR11.out
             clear hbr11 htok10 _t hk10a hk10b hk10c hk10d HBR10 HRRg1_10
             try (rename (y10.cell? _ = _ ∧ _) => hh; clear hh)
             have htok11 : True := trivial)
          | (have _t := htok11
             go_at_call 17
             refine (drop_any ar9 nr9 cr9 Y1 d1 d2 Y2 _ HRr9_11.out HFr9.out HSY1.out HY1.out.1 (by omega) (by omega) (by omega) (by omega) HY2.out).mono ?_
             rintro e y12 ⟨vs1, rfl, hos1, hbr12⟩
             have HBR12 := Lib.hid (HBR11.out.trans (hbr12.mono HBR11.out.size))
             have HRRg1_12 := Lib.hid (HRRg1_11.out.below hbr12)
             obtain ⟨as1, ns1, cs1, rfl, hfs1, hrs1⟩ := hos1.form
             have hns1 : ns1 ≤ 1000 := by rw [hrs1.1]; exact HSY2.out.1
             have HFs1 := Lib.hid hfs1
             have HRs1_12 := Lib.hid hrs1
             clear hfs1 hrs1 hos1
             obtain ⟨hk12a, hk12b, hk12c, hk12d⟩ := two_cells HA508.out HB509.out HBR12.out
             clear hbr12 htok11 _t hk11a hk11b hk11c hk11d HBR11 HRRg1_11 HRr9_11
             try (rename (y11.cell? _ = _ ∧ _) => hh; clear hh)
             have htok12 : True := trivial)
          | (have _t := htok12
             go_at_call 17
             refine (drop_any ag1 ng1 cg1 S d1 d2 V1 _ HRRg1_12.out HFg1.out HSM.out HS.out.1 (by omega) (by omega) (by omega) (by omega) HV1.out).mono ?_
             rintro e y13 ⟨vs2, rfl, hos2, hbr13⟩
             have HBR13 := Lib.hid (HBR12.out.trans (hbr13.mono HBR12.out.size))
             have HRRg1_13 := Lib.hid (HRRg1_12.out.below hbr13)
             have HRs1_13 := Lib.hid (HRs1_12.out.below hbr13)
             obtain ⟨as2, ns2, cs2, rfl, hfs2, hrs2⟩ := hos2.form
             have hns2 : ns2 ≤ 1000 := by rw [hrs2.1]; exact HSV1.out.1
             have HFs2 := Lib.hid hfs2
             have HRs2_13 := Lib.hid hrs2
             clear hfs2 hrs2 hos2
             obtain ⟨hk13a, hk13b, hk13c, hk13d⟩ := two_cells HA508.out HB509.out HBR13.out
             clear hbr13 htok12 _t hk12a hk12b hk12c hk12d HBR12 HRRg1_12 HRs1_12
             try (rename (y12.cell? _ = _ ∧ _) => hh; clear hh)
             have htok13 : True := trivial)
          | (have _t := htok13
             go_at_call 17
             refine (drop_any as2 ns2 cs2 V1 c1 c2 Y2 _ HRs2_13.out HFs2.out HSV1.out HV1.out.1 (by omega) (by omega) (by omega) (by omega) HY2B.out).mono ?_
             rintro e y14 ⟨vs3, rfl, hos3, hbr14⟩
             have HBR14 := Lib.hid (HBR13.out.trans (hbr14.mono HBR13.out.size))
             have HRRg1_14 := Lib.hid (HRRg1_13.out.below hbr14)
             have HRs1_14 := Lib.hid (HRs1_13.out.below hbr14)
             obtain ⟨as3, ns3, cs3, rfl, hfs3, hrs3⟩ := hos3.form
             have hns3 : ns3 ≤ 1000 := by rw [hrs3.1]; exact HSY2.out.1
             have HFs3 := Lib.hid hfs3
             have HRs3_14 := Lib.hid hrs3
             clear hfs3 hrs3 hos3
             obtain ⟨hk14a, hk14b, hk14c, hk14d⟩ := two_cells HA508.out HB509.out HBR14.out
             clear hbr14 htok13 _t hk13a hk13b hk13c hk13d HBR13 HRRg1_13 HRs1_13 HRs2_13
             try (rename (y13.cell? _ = _ ∧ _) => hh; clear hh)
             have htok14 : True := trivial)
          | (have _t := htok14
             go_at_call 14
             refine (same_any as1 ns1 cs1 Y2 as3 ns3 cs3 Y2 _ HRs1_14.out HRs3_14.out (by omega) (by omega)).mono ?_
             rintro e y15 ⟨rfl, hbr15⟩
             have HBR15 := Lib.hid (HBR14.out.trans (hbr15.mono HBR14.out.size))
             have HRRg1_15 := Lib.hid (HRRg1_14.out.below hbr15)
             rw [decide_eq_true rfl]
             obtain ⟨hk15a, hk15b, hk15c, hk15d⟩ := two_cells HA508.out HB509.out HBR15.out
             clear hbr15 htok14 _t hk14a hk14b hk14c hk14d HBR14 HRRg1_14 HRs1_14 HRs3_14
             try (rename (y14.cell? _ = _ ∧ _) => hh; clear hh)
             have htok15 : True := trivial)
          | (have _t := htok15
             go_at_call 18
             refine (gaps_any ag1 ng1 cg1 S c1 c2 G1 _ HRRg1_15.out HSM.out HS.out.1 (by omega) (by omega) (by omega) (by omega) HG1.out).mono ?_
             rintro e y16 ⟨vs4, rfl, hos4, hbr16⟩
             have HBR16 := Lib.hid (HBR15.out.trans (hbr16.mono HBR15.out.size))
             have HRRg1_16 := Lib.hid (HRRg1_15.out.below hbr16)
             obtain ⟨as4, ns4, cs4, rfl, hfs4, hrs4⟩ := hos4.form
             have hns4 : ns4 ≤ 1000 := by rw [hrs4.1]; exact HSG1.out.1
             have HFs4 := Lib.hid hfs4
             have HRs4_16 := Lib.hid hrs4
             clear hfs4 hrs4 hos4
             obtain ⟨hk16a, hk16b, hk16c, hk16d⟩ := two_cells HA508.out HB509.out HBR16.out
             clear hbr16 htok15 _t hk15a hk15b hk15c hk15d HBR15 HRRg1_15
             try (rename (y15.cell? _ = _ ∧ _) => hh; clear hh)
             have htok16 : True := trivial)
          | (have _t := htok16
             go_at_call 21
             refine (len_any as4 ns4 cs4 G1 _ HRs4_16.out HSG1.out HG1.out.1).mono ?_
             rintro e y17 ⟨rfl, hbr17⟩
             have HBR17 := Lib.hid (HBR16.out.trans (hbr17.mono HBR16.out.size))
             have HRRg1_17 := Lib.hid (HRRg1_16.out.below hbr17)
             obtain ⟨hk17a, hk17b, hk17c, hk17d⟩ := two_cells HA508.out HB509.out HBR17.out
             clear hbr17 htok16 _t hk16a hk16b hk16c hk16d HBR16 HRRg1_16 HRs4_16
             try (rename (y16.cell? _ = _ ∧ _) => hh; clear hh)
             have htok17 : True := trivial)
          | (have _t := htok17
             go_at_call 16
             refine (add_any ag1 ng1 cg1 S c1 c2 U1 _ HRRg1_17.out HFg1.out HSM.out (by omega) (by omega) (by omega) (by omega) HU1.out).mono ?_
             rintro e y18 ⟨vs5, rfl, hos5, hbr18⟩
             have HBR18 := Lib.hid (HBR17.out.trans (hbr18.mono HBR17.out.size))
             have HRRg1_18 := Lib.hid (HRRg1_17.out.below hbr18)
             obtain ⟨as5, ns5, cs5, rfl, hfs5, hrs5⟩ := hos5.form
             have hns5 : ns5 ≤ 1000 := by rw [hrs5.1]; exact HSU1.out.1
             have HFs5 := Lib.hid hfs5
             have HRs5_18 := Lib.hid hrs5
             clear hfs5 hrs5 hos5
             obtain ⟨hk18a, hk18b, hk18c, hk18d⟩ := two_cells HA508.out HB509.out HBR18.out
             clear hbr18 htok17 _t hk17a hk17b hk17c hk17d HBR17 HRRg1_17
             try (rename (y17.cell? _ = _ ∧ _) => hh; clear hh)
             have htok18 : True := trivial)
          | (have _t := htok18
             go_at_call 21
             refine (len_any as5 ns5 cs5 U1 _ HRs5_18.out HSU1.out HU1.out.1).mono ?_
             rintro e y19 ⟨rfl, hbr19⟩
             have HBR19 := Lib.hid (HBR18.out.trans (hbr19.mono HBR18.out.size))
             have HRRg1_19 := Lib.hid (HRRg1_18.out.below hbr19)
             obtain ⟨hk19a, hk19b, hk19c, hk19d⟩ := two_cells HA508.out HB509.out HBR19.out
             clear hbr19 htok18 _t hk18a hk18b hk18c hk18d HBR18 HRRg1_18 HRs5_18
             try (rename (y18.cell? _ = _ ∧ _) => hh; clear hh)
             have htok19 : True := trivial)
          | (have _t := htok19
             go_at_call 21
             refine (len_any ag1 ng1 cg1 S _ HRRg1_19.out HSM.out HS.out.1).mono ?_
             rintro e y20 ⟨rfl, hbr20⟩
             have HBR20 := Lib.hid (HBR19.out.trans (hbr20.mono HBR19.out.size))
             obtain ⟨hk20a, hk20b, hk20c, hk20d⟩ := two_cells HA508.out HB509.out HBR20.out
             clear hbr20 htok19 _t hk19a hk19b hk19c hk19d HBR19 HRRg1_19
             try (rename (y19.cell? _ = _ ∧ _) => hh; clear hh)
             have htok20 : True := trivial))
      have hw9 : IntKind.i64.wrap (((nums U1).length : Int) - ((nums S).length : Int)) = ((nums U1).length : Int) - ((nums S).length : Int) := by rw [IntKind.wrap_i64]; omega
      have hb9 : (((nums G1).length : Int) == IntKind.i64.wrap (((nums U1).length : Int) - ((nums S).length : Int))) = true := by rw [hw9, HLEN.out]; simp
      clear hw9
      rw [hb9]
      clear hb9
      go_wp2_with fail
      go_ret
      exact ⟨rfl, HB510.out.trans (HBR20.out.mono HB510.out.size)⟩

theorem own : ownKnob Try.prog.godebug = none := by kernel_rfl
theorem laidOut : laidOutB Try.prog = true := by kernel_rfl

set_option maxRecDepth 100000 in
theorem lifted (os : Os) (started : os.Started) (H : Type) (enc : TypeId × Value → H) :
    ReturnsInHanded {} Try.checked os 6 .any (Rows.spanApartSpec.pre6 enc Try.prog Try.f6 Rows.spanApartRow.domain false) (Rows.spanApartSpec.post enc Try.prog Try.f6 false true false false) := by
  refine Base.law_lifted (C := Try.checked) own started (by kernel_rfl) Try.func6 laidOut (by kernel_rfl) rfl Try.underlying4 rfl ?_
    (ChangeSpec.witness6 (enc := enc) (C := Try.checked) false ⟨#[], #[.slice none 0 0, .agg #[.int .i64 0, .int .i64 0], .agg #[.int .i64 0, .int .i64 0]], []⟩ 8 (by kernel_rfl) (by kernel_rfl) (by kernel_rfl) (by kernel_rfl)) ?_
  · intro ds h
    match ds, h with
    | [_d0, _d1, _d2], _ => exact ⟨rfl, rfl, rfl⟩
  · intro W base args ds before hval0 hA0 hlt hsz
    have hval : ∀ (j : Nat) t v, Try.f6.params[j]? = some t → args[j]? = some v → Value.okWide Try.prog W .any base t v := hval0
    have hA : DataW.TrodAll enc Try.prog W 0 (fun _ => true) true Try.f6.params.toList args.toList ds before := hA0
    clear hval0 hA0
    rw [Try.params6] at hA hval hsz
    obtain ⟨v0, vs0, d0, ds0, p0, q0, hargs, rfl, rfl, h0, r0⟩ := trodAll_cons hA
    obtain ⟨v1, vs1, d1, ds1, p1, q1, rfl, rfl, rfl, h1, r1⟩ := trodAll_cons r0
    obtain ⟨v2, vs2, d2, ds2, p2, q2, rfl, rfl, rfl, h2, r2⟩ := trodAll_cons r1
    obtain ⟨rfl, rfl, rfl⟩ := trodAll_nil r2
    obtain rfl : args = #[v0, v1, v2] := by cases args; simp_all
    obtain ⟨a0, w0⟩ := Base.open_pairs Try.underlying22 Try.underlying35 (by kernel_rfl) rfl rfl rfl rfl Try.underlying3 (by kernel_rfl) (hval 0 22 v0 rfl rfl) h0 (fun x hx => hlt x (by simp [hx]))
    obtain ⟨a1, b1, rfl, w1, u1⟩ := Base.open_pair Try.underlying35 (by kernel_rfl) (by kernel_rfl) rfl rfl Try.underlying3 (hval 1 35 v1 rfl rfl) h1
    obtain ⟨a2, b2, rfl, w2, u2⟩ := Base.open_pair Try.underlying35 (by kernel_rfl) (by kernel_rfl) rfl rfl Try.underlying3 (hval 2 35 v2 rfl rfl) h2
    exact walk W v0 a0 w0 a1 b1 w1 u1 a2 b2 w2 u2

theorem over : Rows.spanApartRow.holds Try.pinned (OpenSpec.ofChange Rows.spanApartSpec) :=
  OpenClaim.holds_of_wide 6 Try.f6 rfl rfl rfl rfl rfl rfl rfl ⟨rfl, rfl, rfl, rfl, rfl⟩ rfl rfl rfl rfl rfl (by kernel_rfl) Try.func6 (by kernel_rfl)
    (of_decide_eq_true (by kernel_rfl)) (by unfold Func.isWrapper; first | (rw [if_pos (by decide +kernel)]; kernel_rfl) | (rw [if_neg (by decide +kernel)]; exact ⟨rfl, rfl⟩))
    (fun os started H enc _ => lifted os started H enc)

theorem proved : Rows.SpanApartSaid :=
  over
#print axioms proved
end Go.Proofs.Ytippbgbjldgahaa.spanApart
