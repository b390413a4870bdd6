/-
  Units in frames, by hand: what the law through the layers asks.
-/
import Derived.Test.YtaappdaolenkiaaDoorWire4
import Derived.Test.YtaappdaolenkiaaDoorWhole1
import Derived.Test.YtaappdaolenkiaaDoorPduLaw2
namespace Go.Proofs.YtaappdaolenkiaaDoor.Wire
open Go.ChangeShapes Go.WideShapes Go.RowKit CrcMath CrcCalls FrameMath
open FrameCalls (frameB)

theorem parse_pack (k sq n ps mr : Int) (m : Nat) (L : List Int) (self : Bool) (data S : ByteArray) (w : World) (hF : Pdu.Forms w) (hm : m = L.length) (hS : Pdu.bytesU ⟨k, sq, n, ps, mr, L, self, data⟩ = S) (hc : Pdu.checkU ⟨k, sq, n, ps, mr, L, self, data⟩ = 0) (hn : NonNeg ⟨k, sq, n, ps, mr, L, self, data⟩) :
    Calls Tryd.prog 13 #[.string S] w fun e w' => ∃ a cap, e = .returned (.tuple #[.agg (Pdu.aggU k sq n ps mr (.slice a m cap) self data), .int .i64 0]) ∧ Own.RdI .u32 w' a m L ∧ Below w.heap.size w w' := by
  subst hS
  obtain ⟨k', hg⟩ := Pdu.good_of _ hc hn.1 hn.2.1 hn.2.2.1 hn.2.2.2
  obtain ⟨b1, b2⟩ := Pdu.back _ k' hg hc
  have hs := bytes_small _ hc
  refine (Pdu.parse_any _ w hF (by omega)).mono ?_
  rintro e w' ⟨hb, ⟨h, _⟩ | ⟨_, lv, rfl, ho⟩⟩
  · exact absurd b1 h
  · rw [b2] at ho ⊢
    obtain ⟨a, cap, rfl, hr⟩ := Pdu.owned ho
    subst hm
    exact ⟨a, cap, rfl, hr, hb⟩
/-- a frame of another user -/
theorem other_code (u : UInt8) (hu : u ≠ 0) (S : ByteArray) (hs : S.size ≤ 65535) : codeW (frameB u S) = 3 := by
  unfold codeW
  rw [FrameCalls.parse_frameB u S hs]
  rw [if_neg (by simp), if_pos hu]
theorem frame_sound (u : UInt8) (S : ByteArray) : (decide ((frameB u S).size % 48 = 0) && fits (frameB u S).data.toList) = true := by
  have h1 : (frameB u S).size % 48 = 0 := by rw [FrameCalls.frameB_size]; omega
  have h2 : fits (frameB u S).data.toList = true := by rw [FrameCalls.frame_list]; exact fits_seal _
  rw [h2, decide_eq_true h1]; rfl
def u10 : Pdu.U := ⟨10, 0, 0, 0, 0, [], false, ⟨#[]⟩⟩
theorem u10_size : sizeW u10 = 48 := by decide +kernel
end Go.Proofs.YtaappdaolenkiaaDoor.Wire
