/-
  Units in frames: what the laws share.
-/
import Derived.Test.YthigcaakkjfghaaDoorWire2
import Derived.Test.YthigcaakkjfghaaDoorPduPR1
namespace Go.Proofs.YthigcaakkjfghaaDoor.Wire
open Go.ChangeShapes Go.WideShapes Go.RowKit CrcMath CrcCalls FrameMath
open FrameCalls (frameB)

/-- a unit whose numbers are not below 0 -/
def NonNeg (u : Pdu.U) : Prop := 0 ≤ u.n ∧ 0 ≤ u.ps ∧ 0 ≤ u.mr ∧ ∀ z ∈ u.list, 0 ≤ z
theorem pack_back (u : Pdu.U) (hc : Pdu.checkU u = 0) (hn : NonNeg u) : codeW (packW u) = 0 ∧ Pdu.unitP (dataW (packW u)) = u := by
  obtain ⟨k, hg⟩ := Pdu.good_of u hc hn.1 hn.2.1 hn.2.2.1 hn.2.2.2
  obtain ⟨b1, b2⟩ := Pdu.back u k hg hc
  have hs := bytes_small u hc
  have hp : packW u = frameB 0 (Pdu.bytesU u) := by unfold packW; rw [if_pos hc]
  have hl := FrameCalls.parse_frameB 0 (Pdu.bytesU u) (by omega)
  have hd : dataW (packW u) = Pdu.bytesU u := by unfold dataW; rw [hp, hl]
  refine ⟨?_, by rw [hd]; exact b2⟩
  unfold codeW
  rw [hd, hp, hl, if_neg (by simp), if_neg (by simp), b1]
theorem pack_size (u : Pdu.U) (hc : Pdu.checkU u = 0) : (packW u).size = 48 * cellsN (Pdu.bytesU u).size := by unfold packW; rw [if_pos hc, FrameCalls.frameB_size]
theorem pack_small (u : Pdu.U) (hc : Pdu.checkU u = 0) : (packW u).size ≤ 2100 := by
  rw [pack_size u hc]; have := cellsN_room (Pdu.bytesU u).size; have := bytes_small u hc; omega
theorem pack_sound (u : Pdu.U) (hc : Pdu.checkU u = 0) : (decide ((packW u).size % 48 = 0) && fits (packW u).data.toList) = true := by
  have h1 : (packW u).size % 48 = 0 := by rw [pack_size u hc]; omega
  have h2 : fits (packW u).data.toList = true := by
    unfold packW; rw [if_pos hc, FrameCalls.frame_list]
    exact fits_seal _
  rw [h2, decide_eq_true h1]; rfl
theorem size_pack (u : Pdu.U) : sizeW u = ((packW u).size : Int) := by
  by_cases hc : Pdu.checkU u = 0
  · unfold sizeW; rw [if_pos hc, pack_size u hc, cellsI_nat]; omega
  · unfold sizeW packW; rw [if_neg hc, if_neg hc]; rfl
/-- opening by what it answers, whatever the bytes -/
theorem open_form (s : ByteArray) (hs : s.size ≤ 100000) : ∃ (k sq n ps mr : Int) (L : List Int) (sf : Bool) (d : ByteArray) (m : Nat) (c : Int), m = L.length ∧ c = codeW s ∧ (c ≠ 0 → (⟨k, sq, n, ps, mr, L, sf, d⟩ : Pdu.U) = ⟨0, 0, 0, 0, 0, [], false, ⟨#[]⟩⟩) ∧ (c = 0 → Pdu.unitP (dataW s) = ⟨k, sq, n, ps, mr, L, sf, d⟩) ∧
    (∀ B w, Tab w B → Pdu.Forms w → Calls Tryd.prog 16 #[.pointer (some ⟨B, 0, none⟩), .string s] w fun e w' => ∃ a cap, e = .returned (.tuple #[.agg (Pdu.aggU k sq n ps mr (.slice a m cap) sf d), .int .i64 c]) ∧ Own.RdI .u32 w' a m L ∧ Below w.heap.size w w') := by
  by_cases hc : codeW s = 0
  · have e1 := fun B w hT hF => open_any B s w hT hF hs
    generalize hU : Pdu.unitP (dataW s) = U at *
    obtain ⟨k, sq, n, ps, mr, L, sf, d⟩ := U
    refine ⟨k, sq, n, ps, mr, L, sf, d, L.length, 0, rfl, hc.symm, fun h => absurd rfl h, fun _ => rfl, fun B w hT hF => (e1 B w hT hF).mono ?_⟩
    rintro e w' ⟨hb, ⟨h, _⟩ | ⟨_, lv, rfl, ho⟩⟩
    · exact absurd hc h
    · obtain ⟨a, cap, rfl, hr⟩ := Pdu.owned ho
      exact ⟨a, cap, rfl, hr, hb⟩
  · refine ⟨0, 0, 0, 0, 0, [], false, ⟨#[]⟩, 0, codeW s, rfl, rfl, fun _ => rfl, fun h => absurd h hc, fun B w hT hF => (open_any B s w hT hF hs).mono ?_⟩
    rintro e w' ⟨hb, ⟨_, rfl⟩ | ⟨h, _⟩⟩
    · exact ⟨none, 0, rfl, ⟨rfl, fun h => absurd h (by omega)⟩, hb⟩
    · exact absurd h hc

def ux : Pdu.U := ⟨13, 0, 0, 0, 0, [], false, ⟨#[120]⟩⟩
theorem ux_check : Pdu.checkU ux = 0 := by decide +kernel
theorem ux_neg : NonNeg ux := ⟨by decide, by decide, by decide, by decide⟩
set_option maxRecDepth 100000 in
set_option maxHeartbeats 4000000 in
theorem awake_any (w : World) (hF : Pdu.Forms w) :
    Calls Tryd.prog 8 #[] w fun e w' => e = .returned (.bool true) ∧ Below w.heap.size w w' := by
  have HF := Lib.hid hF
  obtain ⟨S, hS⟩ : ∃ S, packW ux = S := ⟨_, rfl⟩
  have h48 : S.size = 48 := by rw [← hS, pack_size ux ux_check]; decide +kernel
  have hcode := (pack_back ux ux_check ux_neg).1
  have hunit := (pack_back ux ux_check ux_neg).2
  have hsnd := pack_sound ux ux_check
  rw [hS] at hcode hunit hsnd
  obtain ⟨k, sq, n, ps, mr, L, sf, d, m, c, hm, hc, _hz, hu, ho⟩ := open_form S (by omega)
  obtain rfl : c = 0 := hc.trans hcode
  have hu2 := (hu rfl).symm.trans hunit
  have e1 : k = 13 := congrArg Pdu.U.kind hu2
  have e2 : d = ⟨#[120]⟩ := congrArg Pdu.U.data hu2
  subst e1 e2
  have HO := Lib.hid ho
  have HS := Lib.hid hS
  have HSN := Lib.hid hsnd
  have HCK := Lib.hid ux_check
  clear hF hS hcode hunit hsnd hm hc _hz hu ho hu2
  go_enter Tryd.func8, Tryd.ntmps8
  go_wp2_with fail
  refine (new_any _).mono ?_; rintro e W1 ⟨B, rfl, hT, hb1⟩
  have HT := Lib.hid hT
  have HB1 := Lib.hid hb1
  have HF1 := Lib.hid (HF.out.below hb1 (Nat.le_refl _))
  clear hT hb1
  go_wp2_with fail
  refine (pack_any B 13 0 0 0 0 none 0 0 [] false ⟨#[120]⟩ _ HT.out HF1.out ⟨rfl, fun h => absurd h (by omega)⟩ (by omega) (fun z hz => by simp at hz) (by omega)).mono ?_; rintro e W2 ⟨rfl, hb2⟩
  rw [show packW ⟨13, 0, 0, 0, 0, [], false, ⟨#[120]⟩⟩ = S from HS.out, show Pdu.checkU ⟨13, 0, 0, 0, 0, [], false, ⟨#[120]⟩⟩ = 0 from HCK.out]
  have HB2 := Lib.hid (HB1.out.trans (hb2.mono HB1.out.size))
  have HT2 := Lib.hid (HT.out.below hb2)
  have HF2 := Lib.hid (HF1.out.below hb2 (Nat.le_refl _))
  clear hb2
  go_upto_region 6 with (first
    | ((have _s := t1); (refine wpList_store_row rfl 33 _ _ rfl W3.heap.size (Pdu.aggU 13 sq n ps mr (.slice a m cap) sf ⟨#[120]⟩) rfl rfl 33 #[.int .i64 0, .int .i64 0, .int .u32 0, .int .u32 0, .int .u32 0, .slice none 0 0, .bool false, .string ⟨#[]⟩] (heap_alloc_new W3 _) Pdu.info_pdu rfl (by simp [Value.oneCell']) ?_); rw [World.setRow_alloc_new])
    | (go_at_call 16
       refine (HO.out B _ HT2.out HF2.out).mono ?_
       rintro e W3 ⟨a, cap, rfl, hr3, hb3⟩
       have t1 : True := trivial))
  have HT3 := Lib.hid ((HT2.out.below hb3).alloc (.cells (Pdu.aggU 13 sq n ps mr (.slice a m cap) sf ⟨#[120]⟩) 33))
  have HB3 : Hid (Below w.heap.size w (W3.alloc (.cells (Pdu.aggU 13 sq n ps mr (.slice a m cap) sf ⟨#[120]⟩) 33))) := Lib.hid ((HB2.out.trans (hb3.mono HB2.out.size)).alloc (Nat.le_trans HB2.out.size hb3.size) _)
  have e := heap_alloc_new W3 (.cells (Pdu.aggU 13 sq n ps mr (.slice a m cap) sf ⟨#[120]⟩) 33)
  have q0 : (W3.alloc (.cells (Pdu.aggU 13 sq n ps mr (.slice a m cap) sf ⟨#[120]⟩) 33)).cell? ⟨W3.heap.size, 0, none⟩ = some (.int .i64 13) := Go.Joins.cell_of_block e 0
  have q7 : (W3.alloc (.cells (Pdu.aggU 13 sq n ps mr (.slice a m cap) sf ⟨#[120]⟩) 33)).cell? ⟨W3.heap.size, 7, none⟩ = some (.string ⟨#[120]⟩) := Go.Joins.cell_of_block e 7
  clear e hr3 hb3 t1
  generalize W3.alloc (.cells (Pdu.aggU 13 sq n ps mr (.slice a m cap) sf ⟨#[120]⟩) 33) = W4 at *
  generalize W3.heap.size = gp at *
  go_wp2_with (go_at_call 18; refine (sound_any B S _ HT3.out (by omega)).mono ?_; rintro e W5 ⟨rfl, h5⟩; rw [HSN.out])
  go_ret
  exact ⟨rfl, HB3.out.trans (h5.mono HB3.out.size)⟩
end Go.Proofs.YthigcaakkjfghaaDoor.Wire
