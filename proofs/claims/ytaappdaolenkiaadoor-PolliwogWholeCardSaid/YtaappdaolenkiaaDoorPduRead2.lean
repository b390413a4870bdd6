/-
  Units: what is read of the words, where there is a List.
-/
import Derived.Test.YtaappdaolenkiaaDoorPduRead
import Derived.Deep.RegionLaw
namespace Go.Proofs.YtaappdaolenkiaaDoor.Pdu
open Go.ChangeShapes Go.WideShapes Go.RowKit Own

theorem infoN : Info .u32 29 4 := by unfold Info; kernel_rfl

def takeN : Nat → St → List Int × St
  | 0, st => ([], st)
  | n + 1, st => ((takeN n st).1 ++ [(takeW (takeN n st).2).1], (takeW (takeN n st).2).2)
theorem takeN_length (n : Nat) (st : St) : (takeN n st).1.length = n := by
  induction n with
  | zero => rfl
  | succ n ih => simp [takeN, ih]
theorem takeN_size (n : Nat) (st : St) : (takeN n st).2.1.size ≤ st.1.size := by
  induction n with
  | zero => exact Nat.le_refl _
  | succ n ih => exact Nat.le_trans (takeW_size _) ih

theorem own_past {κ : IntKind} {τ : TypeId} {w w' : World} {base g : Nat} {v : Value} {L : List Int} (h : OwnI κ τ w base v L) (hg : w.grownBy w' (some g)) (hb : g < base) : OwnI κ τ w' base v L := by
  refine ⟨h.1, ?_⟩
  rcases h.2 with hn | ⟨b, cap, cur, rfl, hbb, hh, rest⟩
  · exact .inl hn
  · exact .inr ⟨b, cap, cur, rfl, hbb, (hg.block b (Array.getElem?_eq_some_iff.1 hh).1 (fun e => by have := Option.some.inj e; omega)).trans hh, rest⟩
theorem PAt.grown' {w w' : World} {g k : Nat} {sq n ps mr : Int} {lv : Value} {self : Bool} {b : Option Nat} (h : PAt w g k sq n ps mr lv self) (hg : w.grownBy w' b) (hn : b ≠ some g) : PAt w' g k sq n ps mr lv self :=
  (hg.block _ h.cells.2.2.2.2.2.1 (fun e => hn e.symm)).trans h
theorem RestAt.grown' {w w' : World} {g : Nat} {s : ByteArray} {x : Bool} {b : Option Nat} (h : RestAt w g s x) (hg : w.grownBy w' b) (hn : b ≠ some g) : RestAt w' g s x :=
  (hg.block _ h.cells.2.2.1 (fun e => hn e.symm)).trans h
theorem own_ne {κ : IntKind} {τ : TypeId} {w : World} {base g : Nat} {v : Value} {L : List Int} (h : OwnI κ τ w base v L) (hb : g < base) : v.ownBlock ≠ some g := by
  intro e
  have := (World.ownsRow.lt h g e).1
  omega
/-- a kind's form as the call's own box holds it -/
def FBox (w : World) (g : Nat) (f : List Value) : Prop := w.heap[g]? = some (.cells f.toArray 63 (0, 0))
theorem FBox.grown' {w w' : World} {g : Nat} {f : List Value} {b : Option Nat} (h : FBox w g f) (hg : w.grownBy w' b) (hn : b ≠ some g) : FBox w' g f :=
  (hg.block _ (Array.getElem?_eq_some_iff.1 h).1 (fun e => hn e.symm)).trans h

/-- all that stands in memory while a unit is read -/
structure RS (w0 w : World) (g1 g2 k : Nat) (n ps mr : Int) (sf : Bool) (f : List Value) (lv : Value) (L : List Int) (st : St) : Prop where
  p : PAt w g1 k 0 n ps mr lv sf
  r : RestAt w g2 st.1 st.2
  o : OwnI .u32 29 w (w0.heap.size + 1) lv L
  q : FBox w w0.heap.size f
  b : Below (min g1 g2) w0 w
  s : w0.heap.size + 1 ≤ w.heap.size
section
variable {w0 w w' : World} {g1 g2 k : Nat} {n ps mr : Int} {sf : Bool} {f : List Value} {lv : Value} {L : List Int} {st st' : St}
theorem RS.word (h : RS w0 w g1 g2 k n ps mr sf f lv L st) (hne : g1 ≠ g2) (h2 : g2 < w0.heap.size) (hg : w.grownBy w' (some g2)) (hr : RestAt w' g2 st'.1 st'.2) : RS w0 w' g1 g2 k n ps mr sf f lv L st' :=
  ⟨h.p.grown hg hne, hr, own_past h.o hg (by omega), h.q.grown' hg (fun e => by have := Option.some.inj e; omega), h.b.grown hg (by have := h.s; omega) (fun j hj => by cases hj; exact Nat.min_le_right _ _), Nat.le_trans h.s hg.size⟩
theorem RS.app {v : Value} {L' : List Int} (h : RS w0 w g1 g2 k n ps mr sf f lv L st) (hne : g1 ≠ g2) (h1 : g1 < w0.heap.size) (h2 : g2 < w0.heap.size) (hg : w.grownBy w' lv.ownBlock) (ho : OwnI .u32 29 w' (w0.heap.size + 1) v L') :
    RS w0 (w'.setCell ⟨g1, 5, none⟩ v) g1 g2 k n ps mr sf f v L' st := by
  have hn : ∀ g, g < w0.heap.size + 1 → lv.ownBlock ≠ some g := fun g hg => own_ne h.o hg
  have hp := h.p.grown' hg (hn g1 (by omega))
  have hr := h.r.grown' hg (hn g2 (by omega))
  have hq := h.q.grown' hg (hn _ (by omega))
  have hs := Nat.le_trans h.s hg.size
  have hb := own_grown h.b (by have := h.s; omega) hg (own_base h.o (by omega))
  have ho2 : w'.grownBy (w'.setCell ⟨g1, 5, none⟩ v) (some g1) := grown_set _ _ _ _
  exact ⟨heap_setCell_same _ _ _ _ _ _ hp, hr.grown' ho2 (fun e => hne (Option.some.inj e)), own_past ho ho2 (by omega), hq.grown' ho2 (fun e => by have := Option.some.inj e; omega), below_set hb (by omega) (Nat.min_le_left _ _), by simpa using hs⟩
theorem RS.appCells (h : RS w0 w g1 g2 k n ps mr sf f lv L st) (h1 : g1 < w0.heap.size) (hg : w.grownBy w' lv.ownBlock) : w'.cell? ⟨g1, 5, none⟩ = some lv ∧ g1 < w'.heap.size ∧ (∀ i, w'.frozen? ⟨g1, i, none⟩ = false) :=
  have hp := h.p.grown' hg (own_ne h.o (by omega))
  ⟨hp.cells.2.2.2.2.1, hp.cells.2.2.2.2.2.1, hp.cells.2.2.2.2.2.2⟩
theorem RS.drew (h : RS w0 w g1 g2 k n ps mr sf f lv L st) : RS w0 w.drew g1 g2 k n ps mr sf f lv L st :=
  ⟨h.p, h.r, h.o.below (Below.refl _ _).drew, h.q, h.b.drew, h.s⟩
theorem RS.alloc (h : RS w0 w g1 g2 k n ps mr sf f lv L st) (o : Obj) : RS w0 (w.alloc o) g1 g2 k n ps mr sf f lv L st :=
  ⟨h.p.below ((Below.refl _ _).alloc (Nat.le_refl _) _), h.r.below ((Below.refl _ _).alloc (Nat.le_refl _) _), h.o.below ((Below.refl _ _).alloc (Nat.le_refl _) _), (((Below.refl w.heap.size w).alloc (Nat.le_refl _) o).block _ (Array.getElem?_eq_some_iff.1 h.q).1).trans h.q, h.b.alloc (Nat.le_trans (Nat.min_le_left g1 g2) (Nat.le_of_lt h.p.cells.2.2.2.2.2.1)) _, by have := h.s; simp; omega⟩
theorem RS.setMr (h : RS w0 w g1 g2 k n ps mr sf f lv L st) (hne : g1 ≠ g2) (h1 : g1 < w0.heap.size) (x : Int) : RS w0 (w.setCell ⟨g1, 4, none⟩ (.int .u32 x)) g1 g2 k n ps x sf f lv L st := by
  have ho2 : w.grownBy (w.setCell ⟨g1, 4, none⟩ (.int .u32 x)) (some g1) := grown_set _ _ _ _
  have hs := h.s
  exact ⟨heap_setCell_same _ _ _ _ _ _ h.p, h.r.grown' ho2 (fun e => hne (Option.some.inj e)), own_past h.o ho2 (by omega), h.q.grown' ho2 (fun e => by have := Option.some.inj e; omega), below_set h.b (by omega) (Nat.min_le_left _ _), by simpa using hs⟩
theorem RS.setPs (h : RS w0 w g1 g2 k n ps mr sf f lv L st) (hne : g1 ≠ g2) (h1 : g1 < w0.heap.size) (x : Int) : RS w0 (w.setCell ⟨g1, 3, none⟩ (.int .u32 x)) g1 g2 k n x mr sf f lv L st := by
  have ho2 : w.grownBy (w.setCell ⟨g1, 3, none⟩ (.int .u32 x)) (some g1) := grown_set _ _ _ _
  have hs := h.s
  exact ⟨heap_setCell_same _ _ _ _ _ _ h.p, h.r.grown' ho2 (fun e => hne (Option.some.inj e)), own_past h.o ho2 (by omega), h.q.grown' ho2 (fun e => by have := Option.some.inj e; omega), below_set h.b (by omega) (Nat.min_le_left _ _), by simpa using hs⟩
theorem RS.cells (h : RS w0 w g1 g2 k n ps mr sf f lv L st) : w.cell? ⟨g1, 5, none⟩ = some lv ∧ g1 < w.heap.size ∧ (∀ i, w.frozen? ⟨g1, i, none⟩ = false) ∧ w.cell? ⟨g2, 0, none⟩ = some (.string st.1) :=
  ⟨h.p.cells.2.2.2.2.1, h.p.cells.2.2.2.2.2.1, h.p.cells.2.2.2.2.2.2, h.r.cells.1⟩
end

set_option maxHeartbeats 1000000 in
theorem read_M (k g1 g2 : Nat) (f2 f4 f8 n : Int) (f7 self : Bool) (st : St) (w : World) (hk : (k : Int) < 16) (hf : 0 < f4)
    (hR : ∀ w', Forms w' → w'.cell? ⟨0, k * 8, none⟩ = some (.int .i64 0) ∧ w'.cell? ⟨0, k * 8 + 1, none⟩ = some (.int .u32 f2) ∧ w'.cell? ⟨0, k * 8 + 2, none⟩ = some (.int .u32 0) ∧ w'.cell? ⟨0, k * 8 + 3, none⟩ = some (.int .u32 f4) ∧ w'.cell? ⟨0, k * 8 + 4, none⟩ = some (.int .i64 2) ∧ w'.cell? ⟨0, k * 8 + 5, none⟩ = some (.int .i64 2) ∧ w'.cell? ⟨0, k * 8 + 6, none⟩ = some (.bool f7) ∧ w'.cell? ⟨0, k * 8 + 7, none⟩ = some (.int .i64 f8))
    (hF : Forms w) (hp : PAt w g1 k 0 n 0 0 (.slice none 0 0) self) (hr : RestAt w g2 st.1 st.2) (hne : g1 ≠ g2) (hm : st.1.size ≤ maxLen) :
    Calls Tryd.prog 33 #[.pointer (some ⟨g1, 0, none⟩), .pointer (some ⟨g2, 0, none⟩)] w fun e w' => (∃ v, e = .returned v) ∧
      ∃ lv, PAt w' g1 k 0 n 0 (takeW st).1 lv self ∧ OwnI .u32 29 w' (w.heap.size + 1) lv (takeN 2 (takeW st).2).1.reverse ∧ RestAt w' g2 (takeN 2 (takeW st).2).2.1 (takeN 2 (takeW st).2).2.2 ∧ Below (min g1 g2) w w' := by
  obtain ⟨c0, c1, c2, c3, c4, c5, c6, c7⟩ := hR w hF
  obtain ⟨p0, p1, p3, p4, p5, hlt1, hfz1⟩ := hp.cells
  have hlt2 := hr.cells.2.2.1
  have hlt0 := hF.1
  have HP := Lib.hid hp
  have HR := Lib.hid hr
  have HM := Lib.hid hm
  have HNE := Lib.hid hne
  clear hp hr hF hR hm hne
  obtain ⟨F, hFd⟩ : ∃ F : List Value, F = [.int .i64 0, .int .u32 f2, .int .u32 0, .int .u32 f4, .int .i64 2, .int .i64 2, .bool f7, .int .i64 f8] := ⟨_, rfl⟩
  have hRS0 : RS w (w.alloc (.cells #[.int .i64 0, .int .u32 f2, .int .u32 0, .int .u32 f4, .int .i64 2, .int .i64 2, .bool f7, .int .i64 f8] 63)) g1 g2 k n 0 0 self F (.slice none 0 0) [] st :=
    ⟨HP.out.below ((Below.refl _ _).alloc (Nat.le_refl _) _), HR.out.below ((Below.refl _ _).alloc (Nat.le_refl _) _), OwnI.nil, by rw [hFd]; exact heap_alloc_new w _, (Below.refl _ _).alloc (by omega) _, by simp⟩
  have HRS0 := Lib.hid hRS0
  have HFD := Lib.hid hFd
  clear hRS0 hFd
  go_enter Tryd.func33, Tryd.ntmps33
  go_wp2_with fail
  refine (word_take g2 st _ HRS0.out.r HM.out).mono ?_
  rintro e w1 ⟨rfl, hr1, hg1⟩
  have hrs1 := HRS0.out.word HNE.out hlt2 hg1 hr1
  have hq1 := hrs1.q
  rw [HFD.out] at hq1
  have q0 : w1.cell? ⟨w.heap.size, 0, none⟩ = some (.int .i64 0) := Go.Joins.cell_of_block hq1 0
  have q2 : w1.cell? ⟨w.heap.size, 2, none⟩ = some (.int .u32 0) := Go.Joins.cell_of_block hq1 2
  have q4 : w1.cell? ⟨w.heap.size, 4, none⟩ = some (.int .i64 2) := Go.Joins.cell_of_block hq1 4
  have q5 : w1.cell? ⟨w.heap.size, 5, none⟩ = some (.int .i64 2) := Go.Joins.cell_of_block hq1 5
  obtain ⟨p0, p1, p3, p4, p5, hlt1', hfz1'⟩ := hrs1.p.cells
  obtain ⟨⟨x, st'⟩, hT⟩ : ∃ T, T = takeW st := ⟨_, rfl⟩
  rw [← hT] at hrs1 ⊢
  have HT := Lib.hid hT
  have hs1 := hrs1.s
  have HRS1 := Lib.hid hrs1
  clear hT hrs1 hr1 hg1 hq1
  simp only
  go_wp2_with fail
  have hrsL := HRS1.out.setMr HNE.out hlt1 x
  have hstz : st'.1.size ≤ maxLen := by
    have h1 := takeW_size st
    rw [← HT.out] at h1
    exact Nat.le_trans h1 HM.out
  have HSTZ := Lib.hid hstz
  clear hstz
  go_loopw [42] (fun i wr => ∃ j : Nat, ∃ lv, j ≤ 2 ∧ i = .int .i64 j ∧ RS w wr g1 g2 k n 0 x self F lv (takeN j st').1 (takeN j st').2) (fun i _ => 2 - (intOf i).toNat)
  case atStart => exact ⟨0, _, by omega, rfl, hrsL⟩
  case round =>
    obtain ⟨j, lv, hj, rfl, hrs⟩ := hrel
    have hrsd := hrs.drew
    obtain ⟨p5, hl1, hfz, _⟩ := hrs.cells
    have hsr := hrs.s
    have HRS := Lib.hid hrs
    have HRSD := Lib.hid hrsd
    have HJ := Lib.hid hj
    clear hrsL hrs hrsd
    by_cases hlt : j < 2
    · have hltI : (j : Int) < 2 := by omega
      have HLT := Lib.hid hlt
      have hL1 : (takeN j st').1.length + 1 ≤ 1000000 := by rw [takeN_length]; omega
      have HL1 := Lib.hid hL1
      have hmx : (takeN j st').2.1.size ≤ maxLen := Nat.le_trans (takeN_size j st') HSTZ.out
      have HMX := Lib.hid hmx
      clear hlt hj hmx hL1
      go_wp2_with fail
      go_region_law (first
        | (refine step_appI infoN (by decide) rfl (.tmp 48) (.tmp 51) 30 rfl Tryd.underlying30 (w.heap.size + 1) _ _ rfl (OwnI.below hrsW.out.o ((Below.refl _ _).alloc (Nat.le_refl _) _)) _ 1 1 [_] rfl (rdI_lit1_at _ _ _ _ _ (by simp)) (fun h => by cases h) HL1.out (by have := hrsW.out.s; simp; omega) ?_
           intro v5 w5 hown5 hgrow5
           obtain ⟨a5, c5, rfl⟩ := own_slice hown5
           obtain ⟨p5, hl1, hfz⟩ := (hrsW.out.alloc _).appCells hlt1 hgrow5
           (have hrs5 := Lib.hid ((hrsW.out.alloc _).app HNE.out hlt1 hlt2 hgrow5 hown5)))
        | (go_simp
           go_at_call 31
           (refine (word_take g2 _ _ HRSD.out.r HMX.out).mono ?_)
           rintro e w3 ⟨rfl, hrW, hgW⟩
           (have hrsW := Lib.hid (HRSD.out.word HNE.out hlt2 hgW hrW))
           obtain ⟨p5, hl1, hfz, _⟩ := hrsW.out.cells))
      all_goals go_wp2_with fail
      all_goals go_roundw
      all_goals first
        | (have h := hrs5.out; simp only [List.length_append, List.length_cons, List.length_nil, Nat.zero_add] at h; exact ⟨j + 1, _, HLT.out, by go_num, h⟩)
        | (have := HLT.out; simp [intOf]; omega)
    · have hI : ¬ (j : Int) < 2 := by omega
      have hj2 : j = 2 := by omega
      have HJ2 := Lib.hid hj2
      have hq := HRS.out.q
      rw [HFD.out] at hq
      clear hj hlt hj2
      have q0' : wr.cell? ⟨w.heap.size, 0, none⟩ = some (.int .i64 0) := Go.Joins.cell_of_block hq 0
      go_wp2_with fail
      refine (rev_own (w.heap.size + 1) lv _ _ HRS.out.o).mono ?_
      rintro e w3 ⟨rfl, ho3, hb3⟩
      have hq3 := (hb3.block w.heap.size (by omega)).trans hq
      have q03 : w3.cell? ⟨w.heap.size, 0, none⟩ = some (.int .i64 0) := Go.Joins.cell_of_block hq3 0
      have hp3 : PAt w3 g1 k 0 n 0 x lv self := (hb3.block g1 (by omega)).trans HRS.out.p
      have hr3 : RestAt w3 g2 _ _ := (hb3.block g2 (by omega)).trans HRS.out.r
      have hb03 := HRS.out.b.trans (hb3.mono (by omega))
      rw [HJ2.out] at ho3 hr3
      have HO := Lib.hid ho3
      have HPP := Lib.hid hp3
      have HRR := Lib.hid hr3
      clear ho3 hp3 hr3 hb3 hq hq3
      go_wp2_with fail
      (try simp only [Exit.inBlock, Exit.then])
      refine bodyPost_end (results_none rfl _ _ _) rfl ?_
      rw [← HT.out]
      exact ⟨⟨_, rfl⟩, lv, HPP.out, HO.out, HRR.out, hb03⟩
end Go.Proofs.YtaappdaolenkiaaDoor.Pdu
