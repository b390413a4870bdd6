/-
  Units in frames: the document's own words.
-/
import Derived.Test.YtaappdaolenkiaaDoorWire3
import Derived.Test.YtaappdaolenkiaaDoorPduRef5
import Derived.Test.YtaappdaolenkiaaDoorFrameTurn
namespace Go.Proofs.YtaappdaolenkiaaDoor.Wire
open Go.ChangeShapes Go.WideShapes Go.RowKit CrcMath CrcCalls FrameMath
open FrameCalls (frameB)

theorem open_pack (B : Nat) (k sq n ps mr : Int) (m : Nat) (L : List Int) (self : Bool) (data : ByteArray) (w : World) (hT : Tab w B) (hF : Pdu.Forms w) (hm : m = L.length) (hc : Pdu.checkU ⟨k, sq, n, ps, mr, L, self, data⟩ = 0) (hn : NonNeg ⟨k, sq, n, ps, mr, L, self, data⟩) :
    Calls Tryd.prog 14 #[.pointer (some ⟨B, 0, none⟩), .string (packW ⟨k, sq, n, ps, mr, L, self, data⟩)] w fun e w' => ∃ a cap, e = .returned (.tuple #[.agg (Pdu.aggU k sq n ps mr (.slice a m cap) self data), .int .i64 0]) ∧ Own.RdI .u32 w' a m L ∧ Below w.heap.size w w' := by
  obtain ⟨h1, h2⟩ := pack_back _ hc hn
  have hs := pack_small _ hc
  refine (open_any B _ w hT hF (by omega)).mono ?_
  rintro e w' ⟨hb, ⟨h, _⟩ | ⟨_, lv, rfl, ho⟩⟩
  · exact absurd h1 h
  · rw [h2] at ho ⊢
    obtain ⟨a, cap, rfl, hr⟩ := Pdu.owned ho
    subst hm
    exact ⟨a, cap, rfl, hr, hb⟩
/-- opening what is wrong -/
theorem open_bad (s : ByteArray) (hs : s.size ≤ 100000) (c : Int) (hc : codeW s = c) (h0 : c ≠ 0) (B : Nat) (w : World) (hT : Tab w B) (hF : Pdu.Forms w) :
    Calls Tryd.prog 14 #[.pointer (some ⟨B, 0, none⟩), .string s] w fun e w' => e = .returned (.tuple #[.agg Pdu.zeroC, .int .i64 c]) ∧ Below w.heap.size w w' :=
  (open_any B s w hT hF hs).mono fun e w' ⟨hb, h⟩ => by
    rcases h with ⟨_, rfl⟩ | ⟨h, _⟩
    · exact ⟨by rw [hc]; rfl, hb⟩
    · exact absurd (hc.symm.trans h) h0
theorem bytes_740 (u : Pdu.U) (h : Pdu.checkU u = 0) : (Pdu.bytesU u).size ≤ 740 := by
  obtain ⟨k, hk, h1, h2, s1, s2, n1, p1, m1, l1, d1, b1⟩ := Pdu.check_ok u h
  have hl := Pdu.bytes_len u h
  have : ((Pdu.bytesU u).size : Int) ≤ 740 := by
    rw [hl]; split <;> split <;> split <;> omega
  omega
theorem pack_800 (u : Pdu.U) (hc : Pdu.checkU u = 0) : (packW u).size ≤ 800 := by
  rw [pack_size u hc]; have := cellsN_room (Pdu.bytesU u).size; have := bytes_740 u hc; omega
/-- a packed unit with bits turned, that is another text, is told -/
theorem turned_code (u : Pdu.U) (hc : Pdu.checkU u = 0) (mask at_ : Int) (h : FrameCalls.turnB (packW u) mask at_ ≠ packW u) : codeW (FrameCalls.turnB (packW u) mask at_) = 4 ∧ fits (FrameCalls.turnB (packW u) mask at_).data.toList = false := by
  have hp : packW u = frameB 0 (Pdu.bytesU u) := by unfold packW; rw [if_pos hc]
  rw [hp] at h ⊢
  have hl := FrameCalls.parse_turned 0 (Pdu.bytesU u) mask at_ (fun e => h (by
    rw [ByteArray.toList_eq, ByteArray.toList_eq] at e
    exact Pdu.str_ext e))
  constructor
  · unfold codeW; rw [hl]; rfl
  · have h2 := FrameCalls.turn_fits (bodyL 0 (Pdu.bytesU u).data.toList) mask at_
    have h3 : (FrameCalls.turnB (frameB 0 (Pdu.bytesU u)) mask at_).data.toList = FrameCalls.turnN (seal_ (bodyL 0 (Pdu.bytesU u).data.toList)) mask at_ 32 := rfl
    rw [h3, h2, decide_eq_false_iff_not]
    intro e
    exact h (Pdu.str_ext (by rw [h3, e]; rfl))
end Go.Proofs.YtaappdaolenkiaaDoor.Wire
