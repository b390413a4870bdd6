/-
  A few spans, each of a few numbers, and the document's numbers of them.
-/
import Derived.Test.YtdnikjjcgoilfaaRefPut
import Derived.Test.YtdnikjjcgoilfaaSpanList
import Derived.Deep.RegionHeld3
import Derived.Deep.DeepCutAuto
import Derived.Deep.LoopGhost
namespace Go.Proofs.Ytdnikjjcgoilfaa.Law03
open Go.RowKit SpanMath View SpanCalls Ref

def clip (x : Sp) : Sp := (max (-100) (min x.1 100), min (max (-100) (min x.2 100)) (max (-100) (min x.1 100) + 40))
def fewL (D : List Sp) : List Sp := (D.take 12).map clip
theorem clip_bd (x : Sp) : -100 ≤ (clip x).1 ∧ (clip x).1 ≤ 100 ∧ -100 ≤ (clip x).2 ∧ (clip x).2 ≤ 100 ∧ (clip x).2 ≤ (clip x).1 + 40 := by
  unfold clip; simp only; omega
theorem fewL_len (D : List Sp) : (fewL D).length ≤ 12 := by
  unfold fewL; rw [List.length_map, List.length_take]; omega
theorem fewL_bd (D : List Sp) : ∀ x ∈ fewL D, -100 ≤ x.1 ∧ x.1 ≤ 100 ∧ -100 ≤ x.2 ∧ x.2 ≤ 100 := by
  intro x hx
  unfold fewL at hx
  obtain ⟨y, _, rfl⟩ := List.mem_map.1 hx
  have := clip_bd y
  omega
theorem inSp_few (D : List Sp) (z : Int) (h : inSp (fewL D) z) : -100 ≤ z ∧ z < 100 := by
  obtain ⟨x, hx, h1, h2⟩ := h
  have := fewL_bd D x hx
  omega
theorem inSp_clip (l : List Sp) (z : Int) (h : inSp (l.map clip) z) : -100 ≤ z ∧ z < 100 := by
  obtain ⟨x, hx, h1, h2⟩ := h
  obtain ⟨y, _, rfl⟩ := List.mem_map.1 hx
  have := clip_bd y
  omega
theorem inSp_append (l m : List Sp) (z : Int) : inSp (l ++ m) z ↔ inSp l z ∨ inSp m z := by
  simp only [inSp, List.mem_append]
  constructor
  · rintro ⟨x, h | h, hh⟩
    · exact .inl ⟨x, h, hh⟩
    · exact .inr ⟨x, h, hh⟩
  · rintro (⟨x, h, hh⟩ | ⟨x, h, hh⟩)
    · exact ⟨x, .inl h, hh⟩
    · exact ⟨x, .inr h, hh⟩
theorem inSp_one (x : Sp) (z : Int) : inSp [x] z ↔ x.1 ≤ z ∧ z < x.2 := by simp [inSp]
theorem inSp_nil (z : Int) : ¬ inSp [] z := by simp [inSp]

/-- a rising list of just the numbers that p says -/
def Just (A : List Int) (p : Int → Prop) : Prop := Rising A ∧ ∀ z, z ∈ A ↔ p z
theorem just_len {A : List Int} {p : Int → Prop} (h : Just A p) (hb : ∀ z, p z → -100 ≤ z ∧ z < 100) : A.length ≤ 200 := by
  have := rising_len A (-100) 100 h.1 (fun z hz => hb z ((h.2 z).1 hz))
  omega
theorem just_put {A : List Int} {p : Int → Prop} (h : Just A p) (x : Int) : Just (putL A x) fun z => p z ∨ z = x := by
  have := putL_spec A x h.1
  exact ⟨this.1, fun z => by rw [this.2, h.2]⟩
theorem just_imp {A : List Int} {p q : Int → Prop} (h : Just A p) (hpq : ∀ z, p z ↔ q z) : Just A q := ⟨h.1, fun z => by rw [h.2, hpq]⟩
theorem just_nil : Just [] (inSp []) := ⟨List.Pairwise.nil, fun z => by simp [inSp]⟩

theorem take_clip {D : List Sp} {k : Nat} {y : Sp} (h : k < D.length) (hy : D.getD k (0, 0) = y) : (D.take (k + 1)).map clip = (D.take k).map clip ++ [clip y] := by
  rw [take_succ' D (0, 0) k h, List.map_append, hy]
  rfl

set_option maxRecDepth 100000 in
set_option maxHeartbeats 2000000 in
theorem few_any (a : Option Addr) (n cap : Nat) (D : List Sp) (w : World) (h : RdS w a n D) :
    Calls Try.prog 10 #[.slice a n cap] w fun e w' => ∃ v1 v2 A, e = .returned (.tuple #[v1, v2]) ∧ OwnS w' w.heap.size v1 (fewL D) ∧
      OwnI w' 0 v2 A ∧ Just A (inSp (fewL D)) ∧ Below w.heap.size w w' := by
  have HL := Lib.hid h
  clear h
  go_enter Try.func10, Try.ntmps10
  go_wp2_with fail
  go_loopg [4, 5, 6] 12 (fun gg v u i wr => ∃ (k : Nat) (A : List Int), k ≤ n ∧ k ≤ 12 ∧ 12 - k ≤ gg ∧ i = .int .i64 k ∧ OwnS wr w.heap.size v ((D.take k).map clip) ∧ OwnI wr 0 u A ∧ Hid (Just A (inSp ((D.take k).map clip))) ∧ Below w.heap.size w wr)
  case atStart => exact ⟨0, [], Nat.zero_le _, Nat.zero_le _, by omega, rfl, OwnS.nil, OwnI.nil, Lib.hid just_nil, Below.refl _ _⟩
  case round =>
    obtain ⟨k, A, hk, hk12, hgg, rfl, hown, hr2, hj, hb⟩ := hrel
    by_cases hlt : k < n
    · have hg1 : decide (k < n) = true := decide_eq_true hlt
      by_cases hlt2 : k < 12
      · have hg2 : decide ((k : Int) < 12) = true := decide_eq_true (by omega)
        obtain ⟨b, off, rfl, hbl, hc1, hc2⟩ := (HL.out.below hb).at_ hlt
        have hl : k < D.length := by have := HL.out.1; omega
        obtain ⟨y, hy⟩ : ∃ y, D.getD k (0, 0) = y := ⟨_, rfl⟩
        rw [hy] at hc1 hc2
        have HTC := Lib.hid (take_clip hl hy)
        have HCB := Lib.hid (clip_bd y)
        clear hy
        obtain ⟨wo, rfl⟩ : ∃ wo : World, wo = wr := ⟨_, rfl⟩
        obtain ⟨y1, y2⟩ := y
        simp only at hc1 hc2
        go_upto_region 6 with (fail)
        go_cut [7] (fun s7 wx => s7 = .pointer (some ⟨wo.heap.size, 0, none⟩) ∧ wx = (wo.alloc (.cells #[.int .i64 (max (-100) (min y1 100)), .int .i64 (max (-100) (min y2 100))] 56)).drew)
        case first =>
          go_wp2_with fail
          go_region_held3 (fun w' => w'.cell? ⟨b, off + k * 2, none⟩ = some (.int .i64 y1) ∧ w'.cell? ⟨b, off + k * 2 + 1, none⟩ = some (.int .i64 y2)) (go_keep) (fail)
          all_goals go_wp2_with fail
          all_goals go_meet
          all_goals exact ⟨rfl, rfl⟩
        case rest =>
          obtain ⟨rfl, rfl⟩ := hcut
          have hsz := hb.size
          have hbx : Below wo.heap.size wo (wo.alloc (.cells #[.int .i64 (max (-100) (min y1 100)), .int .i64 (max (-100) (min y2 100))] 56)).drew := ((Below.refl _ wo).alloc (Nat.le_refl _) _).drew
          have hbox : Box (wo.alloc (.cells #[.int .i64 (max (-100) (min y1 100)), .int .i64 (max (-100) (min y2 100))] 56)).drew wo.heap.size (max (-100) (min y1 100)) (max (-100) (min y2 100)) := Box.new wo _ _
          generalize (wo.alloc (.cells #[.int .i64 (max (-100) (min y1 100)), .int .i64 (max (-100) (min y2 100))] 56)).drew = W at *
          have HC2 : Hid (clip (y1, y2) = (max (-100) (min y1 100), min (max (-100) (min y2 100)) (max (-100) (min y1 100) + 40))) := Lib.hid rfl
          obtain ⟨X1, hX1⟩ : ∃ X, max (-100) (min y1 100) = X := ⟨_, rfl⟩
          obtain ⟨X2, hX2⟩ : ∃ X, max (-100) (min y2 100) = X := ⟨_, rfl⟩
          have hb1 : -100 ≤ X1 ∧ X1 ≤ 100 := by omega
          have hb2 : -100 ≤ X2 ∧ X2 ≤ 100 := by omega
          rw [hX1, hX2] at hbox HC2
          clear hX1 hX2
          obtain ⟨hb11, hb12⟩ := hb1
          obtain ⟨hb21, hb22⟩ := hb2
          have hcs := hbox.cells
          have hfz := hbox.free
          have hlb := hbox.lt
          obtain ⟨hx1, hx2⟩ := hcs
          have hbx1 : Below wo.heap.size wo (W.setCell ⟨wo.heap.size, 1, none⟩ (.int .i64 (min X2 (X1 + 40)))) := hbx.setCell (p := ⟨wo.heap.size, 1, none⟩) (Nat.le_refl _) _
          have hbox1 := hbox.set1 (min X2 (X1 + 40))
          have hfar : some wo.heap.size ≠ Value.ownBlock _ := fun e => by have := (hown.lt _ e.symm).2; omega
          have HFAR := Lib.hid hfar
          have HOW := Lib.hid (hown.below hbx1)
          have HR2 := Lib.hid (hr2.below hbx1)
          have HBX := Lib.hid hbox1
          have hbW := hb.trans (hbx1.mono hsz)
          have hsW := hbW.size
          have hlen : ((D.take k).map clip).length ≤ 12 := by rw [List.length_map, List.length_take]; omega
          clear hown hr2 hbx hbox hb hbx1 hbox1 hfar
          have hlit := rdS_lit1 (W.setCell ⟨wo.heap.size, 1, none⟩ (.int .i64 (min X2 (X1 + 40)))) X1 (min X2 (X1 + 40))
          rw [World.size_setCell] at hlit
          go_wp2_with (at_builtin; refine wpList_appS rfl (.tmp 41) (.tmp 43) 22 rfl Try.underlying22 w.heap.size _ _ rfl (HOW.out.below ((Below.refl _ _).alloc (Nat.le_refl _) _)) _ 1 1 [(X1, min X2 (X1 + 40))] rfl hlit (fun h => by cases h) (by omega) (by simp; simp at hsW; omega) ?_)
          intro v4 w4 hown4 hgr4
          have hbx4 : Box w4 wo.heap.size X1 (min X2 (X1 + 40)) := (HBX.out.below ((Below.refl _ _).alloc (Nat.le_refl _) _)).grown hgr4 HFAR.out
          have hb4 : Below w.heap.size w w4 := own_grown (hbW.alloc hsW _) (by simp; simp at hsW; omega) hgr4 (own_below HOW.out ((Below.refl _ _).alloc (Nat.le_refl _) _))
          have hown5 : OwnS w4 w.heap.size v4 ((D.take (k + 1)).map clip) := by
            rw [HTC.out, HC2.out, List.map_take]
            exact hown4
          have hu4 : OwnI w4 0 _ A := World.ownsRow.kept (HR2.out.below ((Below.refl _ _).alloc (Nat.le_refl _) _)) hgr4 (apart_IS HR2.out HOW.out)
          have hcs4 := hbx4.cells
          have hfz4 := hbx4.free
          obtain ⟨hx41, hx42⟩ := hcs4
          have HB4 := Lib.hid hbx4
          have HO5 := Lib.hid hown5
          have hm1 : min X2 (X1 + 40) ≤ 100 := by omega
          have hm2 : min X2 (X1 + 40) ≤ X1 + 40 := by omega
          obtain ⟨Z, hZ⟩ : ∃ Z, min X2 (X1 + 40) = Z := ⟨_, rfl⟩
          rw [hZ] at hx42 HC2 HB4 hm1 hm2
          clear hown4 hown5 hgr4 hlit hbx4 hx1 hx2 hfz hlb hZ hc1 hc2 hbW hsW hfz4
          obtain ⟨wo4, rfl⟩ : ∃ wo4 : World, wo4 = w4 := ⟨_, rfl⟩
          go_wp2_with fail
          go_loopw [5, 8] (fun u i wi => ∃ (j : Nat) (B : List Int), (j : Int) ≤ max (Z - X1) 0 ∧ i = .int .i64 (X1 + (j : Int)) ∧ OwnI wi 0 u B ∧ Hid (Just B (fun z => inSp ((D.take k).map clip) z ∨ (X1 ≤ z ∧ z < X1 + (j : Int)))) ∧ Below wo4.heap.size wo4 wi) (fun _ i _ => (Z - intOf i).toNat)
          case atStart => exact ⟨0, A, by omega, by go_num, hu4, Lib.hid (just_imp hj.out (fun z => by constructor <;> intro h <;> first | exact .inl h | (rcases h with h | h; exact h; omega))), Below.refl _ _⟩
          case round =>
            obtain ⟨j, B, hjle, rfl, hu, hju, hbi⟩ := hrel
            have hcsi := (HB4.out.below hbi).cells
            obtain ⟨hxi1, hxi2⟩ := hcsi
            by_cases hlti : X1 + (j : Int) < Z
            · obtain ⟨a5, n5, c5, rfl, _, hr5⟩ := hu.form
              have hn5 : n5 ≤ 200 := by
                rw [hr5.1]
                refine just_len hju.out (fun z hz => ?_)
                rcases hz with hz | hz
                · exact inSp_clip _ z hz
                · omega
              have HU := Lib.hid hu
              clear hr5 hu
              go_wp2_with fail
              refine (put_any a5 n5 c5 B (X1 + (j : Int)) _ HU.out (by omega)).mono ?_; rintro e w6 ⟨v6, rfl, hu6, _, hb6⟩
              have hbi6 := hbi.trans (hb6.mono hbi.size)
              clear hbi hb6
              go_wp2_with fail
              go_roundw
              case rel => exact ⟨j + 1, _, by omega, by go_num, hu6, Lib.hid (just_imp (just_put hju.out (X1 + (j : Int))) (fun z => by
                constructor
                · rintro ((h | h) | h)
                  · exact .inl h
                  · exact .inr ⟨h.1, by omega⟩
                  · exact .inr ⟨by omega, by omega⟩
                · rintro (h | h)
                  · exact .inl (.inl h)
                  · by_cases hz : z = X1 + (j : Int)
                    · exact .inr hz
                    · exact .inl (.inr ⟨h.1, by omega⟩))), hbi6⟩
              case measure => simp [intOf]; omega
            · have HJF : Hid (Just B (inSp ((D.take (k + 1)).map clip))) := Lib.hid (just_imp hju.out (fun z => by
                rw [HTC.out, HC2.out, inSp_append, inSp_one]
                constructor
                · rintro (h | h)
                  · exact .inl h
                  · exact .inr ⟨h.1, by show z < Z; omega⟩
                · rintro (h | h)
                  · exact .inl h
                  · have h1 : X1 ≤ z := h.1
                    have h2 : z < Z := h.2
                    exact .inr ⟨h1, by omega⟩))
              have hbf := hb4.trans (hbi.mono hb4.size)
              have hof := HO5.out.below hbi
              clear hju
              go_wp2_with fail
              go_roundg (12 - (k + 1))
              case measure => omega
              case rel => exact ⟨k + 1, B, by omega, by omega, by omega, by go_num, hof, hu, HJF, hbf⟩
      · have hg2 : decide ((k : Int) < 12) = false := decide_eq_false (by omega)
        have HE : Hid (fewL D = (D.take k).map clip) := Lib.hid (by unfold fewL; rw [show k = 12 from by omega])
        clear hlt2 hk12 hgg
        go_wp2_with fail
        go_ret2
        refine ⟨_, _, A, rfl, by rw [HE.out]; exact hown, hr2, by rw [HE.out]; exact hj.out, hb⟩
    · have hg1 : decide (k < n) = false := decide_eq_false hlt
      have HE : Hid (fewL D = (D.take k).map clip) := Lib.hid (by
        have := HL.out.1
        unfold fewL
        rw [List.take_of_length_le (by omega : D.length ≤ 12), List.take_of_length_le (by omega : D.length ≤ k)])
      clear hk12 hgg
      go_wp2_with fail
      go_ret2
      refine ⟨_, _, A, rfl, by rw [HE.out]; exact hown, hr2, by rw [HE.out]; exact hj.out, hb⟩
end Go.Proofs.Ytdnikjjcgoilfaa.Law03
