/-
  A connection that a law has made: what it is behind each call.
-/
import Derived.Test.YtkphompjahcjiaaDoorConn18
import Derived.BigGuardPart
import Derived.Deep.RegionHeld3
namespace Go.Proofs.YtkphompjahcjiaaDoor.Conn
open Go.RowKit

theorem Brought.open_ {w w' : World} {g : Nat} {c : C} {o : O} {v : Value} (h : Brought w w' g c o v) :
    ∃ sa sc ua uc, v = .agg #[.slice sa o.sigs.length sc, .slice ua o.units.length uc, .bool o.begins, .bool o.ends, .int .u32 o.ms, .int .i64 o.timer] ∧
      (0 < o.sigs.length → ∃ b, sa = some ⟨b, 0, none⟩ ∧ w.heap.size ≤ b ∧ b < w'.heap.size ∧ ∀ j u, (o.sigs.flatMap encS)[j]? = some u → w'.cell? ⟨b, j, none⟩ = some u) ∧
      (0 < o.units.length → ∃ b, ua = some ⟨b, 0, none⟩ ∧ w.heap.size ≤ b ∧ b < w'.heap.size ∧ ∀ j u, (o.units.flatMap encU)[j]? = some u → w'.cell? ⟨b, j, none⟩ = some u) ∧
      w'.heap[g]? = some (.cells (encC c) 81 (0, 0)) ∧ Only (fun k => k < w.heap.size) w w' g := by
  obtain ⟨vs, vu, rfl, hs, hu, _, hc, ho⟩ := h
  obtain ⟨sa, sc, rfl, _, h1⟩ := Own.own_form hs
  obtain ⟨ua, uc, rfl, _, h2⟩ := Own.own_form hu
  exact ⟨sa, sc, ua, uc, rfl, h1, h2, hc, ho⟩
theorem Only.bel {w0 w w' : World} {base g : Nat} (ho : Only (fun k => k < w.heap.size) w w' g) (hb : Below base w0 w) (hs : base ≤ w.heap.size) (hg : base ≤ g) : Below base w0 w' :=
  hb.trans ⟨ho.os, ho.tape, ho.output, ho.size, fun k hk => ho.block k (by omega) (by omega)⟩
theorem Only.tabs {w w' : World} {g : Nat} (ho : Only (fun k => k < w.heap.size) w w' g) (hT : Rules.Tabs w) (hg : 1 ≠ g) : Rules.Tabs w' := by
  have hb := ho.block _ hT.lt0 hg
  refine ⟨Nat.lt_of_lt_of_le hT.lt0 ho.size, fun i hi => ?_⟩
  rw [← hT.letters i hi]
  unfold World.cell?
  simp [hb]

theorem tabs_ne {w : World} {g : Nat} (hT : Rules.Tabs w) (hg : w.heap.size ≤ g) : 1 ≠ g := by have := hT.lt0; omega
theorem field_vars0 (a b c d e : Int) (w : World) : (Instr.field 46 (.agg #[.int .i64 a, .int .i64 b, .int .i64 c, .int .i64 d, .int .u32 e]) 0).run Tryd.prog w = .ok (.int .i64 a) w := by kernel_rfl
theorem field_vars1 (a b c d e : Int) (w : World) : (Instr.field 46 (.agg #[.int .i64 a, .int .i64 b, .int .i64 c, .int .i64 d, .int .u32 e]) 1).run Tryd.prog w = .ok (.int .i64 b) w := by kernel_rfl

set_option maxRecDepth 100000 in
set_option maxHeartbeats 4000000 in
theorem awake_any (w : World) (hT : Rules.Tabs w) : Calls Tryd.prog 10 #[] w fun e w' => e = .returned (.bool true) ∧ Below w.heap.size w w' := by
  have HT := Lib.hid hT
  clear hT
  go_enter Tryd.func10, Tryd.ntmps10
  go_wp2_with fail
  refine (new_any w 3 8 (by omega)).mono ?_; rintro e w1 ⟨g, hg, rfl, hc, hb⟩
  rw [show newC 3 8 = ⟨3, 8, 1, 0, -1, 8, 0, noD⟩ from rfl] at hc
  have HC := Lib.hid hc
  have HB := Lib.hid hb
  have HG := Lib.hid hg
  have HGL : Hid (1 ≠ g) := Lib.hid (by have := HT.out.lt0; omega)
  clear hc hb hg
  go_wp2_with fail
  refine (request_ok1 w1 g ⟨3, 8, 1, 0, -1, 8, 0, noD⟩ 1 noD HC.out (by omega) (by omega) rfl (by decide) rfl (by simp)).mono ?_; rintro e w2 ⟨v, rfl, h2⟩
  rw [show reqR ⟨3, 8, 1, 0, -1, 8, 0, noD⟩ 1 noD = (⟨3, 8, 2, 1, -1, 8, 1, noD⟩, ⟨[], [⟨1, 1, 8, false, noD⟩], false, false, 0, 1⟩) from rfl] at h2
  obtain ⟨sa, sc, ua, uc, rfl, _, hu, hc2, ho2⟩ := h2.open_
  obtain ⟨b, eb, hbl, hbs, hbc⟩ := hu (by simp)
  subst eb
  simp only [List.length_singleton, List.length_nil]
  have u1 : w2.cell? ⟨b, 1, none⟩ = some (.int .i64 1) := hbc 1 _ rfl
  have u2 : w2.cell? ⟨b, 2, none⟩ = some (.int .u32 8) := hbc 2 _ rfl
  have HC2 := Lib.hid hc2
  have HB2 := Lib.hid (ho2.bel HB.out HB.out.size HG.out)
  have HT2 := Lib.hid (ho2.tabs (HT.out.below HB.out) HGL.out)
  have HBS := Lib.hid (And.intro hbs (show b ≠ g from fun e => by have := (Array.getElem?_eq_some_iff.1 HC.out).1; omega))
  clear h2 hu hbc hc2 ho2 hbs hbl
  go_wp2_with fail
  obtain ⟨W, hW⟩ : ∃ W, W = w2.alloc (.cells #[.slice sa 0 sc, .slice (some ⟨b, 0, none⟩) 1 uc, .bool false, .bool false, .int .u32 0, .int .i64 1] 61) := ⟨_, rfl⟩
  obtain ⟨r, hr⟩ : ∃ r, w2.heap.size = r := ⟨_, rfl⟩
  have hbW : Below w2.heap.size w2 W := by rw [hW]; exact (Below.refl _ _).alloc (Nat.le_refl _) _
  have HR0 : Hid (W.heap[r]? = some (.cells #[.slice sa 0 sc, .slice (some ⟨b, 0, none⟩) 1 uc, .bool false, .bool false, .int .u32 0, .int .i64 1] 61 (0, 0))) := Lib.hid (by rw [hW, ← hr]; exact heap_alloc_new _ _)
  have HRL : Hid (r < W.heap.size ∧ r ≠ g) := Lib.hid ⟨(Array.getElem?_eq_some_iff.1 HR0.out).1, fun e => by have := (Array.getElem?_eq_some_iff.1 HC2.out).1; omega⟩
  have HCW : Hid (W.heap[g]? = some (.cells (encC ⟨3, 8, 2, 1, -1, 8, 1, noD⟩) 81 (0, 0))) := Lib.hid ((hbW.block g (Array.getElem?_eq_some_iff.1 HC2.out).1).trans HC2.out)
  have HU1 : Hid (W.cell? ⟨b, 1, none⟩ = some (.int .i64 1)) := Lib.hid ((Own.cell_below hbW HBS.out.1).trans u1)
  have HU2 : Hid (W.cell? ⟨b, 2, none⟩ = some (.int .u32 8)) := Lib.hid ((Own.cell_below hbW HBS.out.1).trans u2)
  have HBW := Lib.hid (HB2.out.trans (hbW.mono HB2.out.size))
  have HTW := Lib.hid (HT2.out.below hbW)
  have HBSW : Hid (b < W.heap.size) := Lib.hid (Nat.lt_of_lt_of_le HBS.out.1 hbW.size)
  rw [← hW, hr]
  clear hW hr hbW u1 u2
  refine (recv_any W g ⟨3, 8, 2, 1, -1, 8, 1, noD⟩ ⟨2, 1, 5, 0, 0, none, 0, 0, false, noD⟩ HCW.out HTW.out HGL.out rfl).mono ?_; rintro e w3 ⟨v, rfl, h3⟩
  rw [show recvR ⟨3, 8, 2, 1, -1, 8, 1, noD⟩ ⟨2, 1, 5, 0, 0, none, 0, 0, false, noD⟩ = (⟨3, 8, 10, 1, -1, 5, 1, noD⟩, ⟨[⟨2, noD, false, 0, 0⟩], [], true, false, 5, 2⟩) from rfl] at h3
  obtain ⟨sa3, sc3, ua3, uc3, rfl, _, _, hc3, ho3⟩ := h3.open_
  simp only [List.length_singleton, List.length_nil]
  have HC3 := Lib.hid hc3
  have HB3 := Lib.hid (ho3.bel HBW.out HBW.out.size HG.out)
  have HR3 := Lib.hid ((ho3.block r HRL.out.1 HRL.out.2).trans HR0.out)
  have u1 : w3.cell? ⟨b, 1, none⟩ = some (.int .i64 1) := (World.cell?_of_block (a := ⟨b, 1, none⟩) (ho3.block b HBSW.out HBS.out.2)).trans HU1.out
  have u2 : w3.cell? ⟨b, 2, none⟩ = some (.int .u32 8) := (World.cell?_of_block (a := ⟨b, 2, none⟩) (ho3.block b HBSW.out HBS.out.2)).trans HU2.out
  have r1 : w3.cell? ⟨r, 1, none⟩ = some (.slice (some ⟨b, 0, none⟩) 1 uc) := (cell_of_row _ _ _ _ _ _ HR3.out).trans rfl
  have r5 : w3.cell? ⟨r, 5, none⟩ = some (.int .i64 1) := (cell_of_row _ _ _ _ _ _ HR3.out).trans rfl
  have hb3l : b < w3.heap.size := Nat.lt_of_lt_of_le HBSW.out ho3.size
  have hr3l : r < w3.heap.size := Nat.lt_of_lt_of_le HRL.out.1 ho3.size
  clear h3 hc3 ho3
  go_wp2_with fail
  refine (vars_any _ g ⟨3, 8, 10, 1, -1, 5, 1, noD⟩ ((((Below.refl _ _).alloc (Nat.le_refl _) _).block g (Array.getElem?_eq_some_iff.1 HC3.out).1).trans HC3.out)).mono ?_; rintro e w4 ⟨rfl, hb4⟩
  have hf := field_vars0 10 1 (-1) 1 5 w4
  go_wp2_with fail
  go_ret
  exact ⟨rfl, (HB3.out.alloc HB3.out.size _).trans (hb4.mono (by have := HB3.out.size; simp; omega))⟩
end Go.Proofs.YtkphompjahcjiaaDoor.Conn
