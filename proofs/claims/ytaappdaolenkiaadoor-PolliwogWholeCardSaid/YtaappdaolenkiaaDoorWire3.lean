/-
  Units in frames: what the laws share.
-/
import Derived.Test.YtaappdaolenkiaaDoorWire2
import Derived.Test.YtaappdaolenkiaaDoorPduPR1
namespace Go.Proofs.YtaappdaolenkiaaDoor.Wire
open Go.ChangeShapes Go.WideShapes Go.RowKit CrcMath CrcCalls FrameMath
open FrameCalls (frameB)

/-- a unit whose numbers are not below 0 -/
def NonNeg (u : Pdu.U) : Prop := 0 ≤ u.n ∧ 0 ≤ u.ps ∧ 0 ≤ u.mr ∧ ∀ z ∈ u.list, 0 ≤ z
theorem pack_back (u : Pdu.U) (hc : Pdu.checkU u = 0) (hn : NonNeg u) : codeW (packW u) = 0 ∧ Pdu.unitP (dataW (packW u)) = u := by
  obtain ⟨k, hg⟩ := Pdu.good_of u hc hn.1 hn.2.1 hn.2.2.1 hn.2.2.2
  obtain ⟨b1, b2⟩ := Pdu.back u k hg hc
  have hs := bytes_small u hc
  have hp : packW u = frameB 0 (Pdu.bytesU u) := by unfold packW; rw [if_pos hc]
  have hl := FrameCalls.parse_frameB 0 (Pdu.bytesU u) (by omega)
  have hd : dataW (packW u) = Pdu.bytesU u := by unfold dataW; rw [hp, hl]
  refine ⟨?_, by rw [hd]; exact b2⟩
  unfold codeW
  rw [hd, hp, hl, if_neg (by simp), if_neg (by simp), b1]
theorem pack_size (u : Pdu.U) (hc : Pdu.checkU u = 0) : (packW u).size = 48 * cellsN (Pdu.bytesU u).size := by unfold packW; rw [if_pos hc, FrameCalls.frameB_size]
theorem pack_small (u : Pdu.U) (hc : Pdu.checkU u = 0) : (packW u).size ≤ 2100 := by
  rw [pack_size u hc]; have := cellsN_room (Pdu.bytesU u).size; have := bytes_small u hc; omega
theorem pack_sound (u : Pdu.U) (hc : Pdu.checkU u = 0) : (decide ((packW u).size % 48 = 0) && fits (packW u).data.toList) = true := by
  have h1 : (packW u).size % 48 = 0 := by rw [pack_size u hc]; omega
  have h2 : fits (packW u).data.toList = true := by
    unfold packW; rw [if_pos hc, FrameCalls.frame_list]
    exact fits_seal _
  rw [h2, decide_eq_true h1]; rfl
theorem size_pack (u : Pdu.U) : sizeW u = ((packW u).size : Int) := by
  by_cases hc : Pdu.checkU u = 0
  · unfold sizeW; rw [if_pos hc, pack_size u hc, cellsI_nat]; omega
  · unfold sizeW packW; rw [if_neg hc, if_neg hc]; rfl
/-- opening by what it answers, whatever the bytes -/
theorem open_form (s : ByteArray) (hs : s.size ≤ 100000) : ∃ (k sq n ps mr : Int) (L : List Int) (sf : Bool) (d : ByteArray) (m : Nat) (c : Int), m = L.length ∧ c = codeW s ∧ (c ≠ 0 → (⟨k, sq, n, ps, mr, L, sf, d⟩ : Pdu.U) = ⟨0, 0, 0, 0, 0, [], false, ⟨#[]⟩⟩) ∧ (c = 0 → Pdu.unitP (dataW s) = ⟨k, sq, n, ps, mr, L, sf, d⟩) ∧
    (∀ B w, Tab w B → Pdu.Forms w → Calls Tryd.prog 14 #[.pointer (some ⟨B, 0, none⟩), .string s] w fun e w' => ∃ a cap, e = .returned (.tuple #[.agg (Pdu.aggU k sq n ps mr (.slice a m cap) sf d), .int .i64 c]) ∧ Own.RdI .u32 w' a m L ∧ Below w.heap.size w w') := by
  by_cases hc : codeW s = 0
  · have e1 := fun B w hT hF => open_any B s w hT hF hs
    generalize hU : Pdu.unitP (dataW s) = U at *
    obtain ⟨k, sq, n, ps, mr, L, sf, d⟩ := U
    refine ⟨k, sq, n, ps, mr, L, sf, d, L.length, 0, rfl, hc.symm, fun h => absurd rfl h, fun _ => rfl, fun B w hT hF => (e1 B w hT hF).mono ?_⟩
    rintro e w' ⟨hb, ⟨h, _⟩ | ⟨_, lv, rfl, ho⟩⟩
    · exact absurd hc h
    · obtain ⟨a, cap, rfl, hr⟩ := Pdu.owned ho
      exact ⟨a, cap, rfl, hr, hb⟩
  · refine ⟨0, 0, 0, 0, 0, [], false, ⟨#[]⟩, 0, codeW s, rfl, rfl, fun _ => rfl, fun h => absurd h hc, fun B w hT hF => (open_any B s w hT hF hs).mono ?_⟩
    rintro e w' ⟨hb, ⟨_, rfl⟩ | ⟨h, _⟩⟩
    · exact ⟨none, 0, rfl, ⟨rfl, fun h => absurd h (by omega)⟩, hb⟩
    · exact absurd h hc

def ux : Pdu.U := ⟨13, 0, 0, 0, 0, [], false, ⟨#[120]⟩⟩
theorem ux_check : Pdu.checkU ux = 0 := by decide +kernel
theorem ux_neg : NonNeg ux := ⟨by decide, by decide, by decide, by decide⟩
end Go.Proofs.YtaappdaolenkiaaDoor.Wire
