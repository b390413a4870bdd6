/-
  Units in frames: the document's own words.
-/
import Derived.Test.YthigcaakkjfghaaDoorWire3
import Derived.Test.YthigcaakkjfghaaDoorPduRef5
import Derived.Test.YthigcaakkjfghaaDoorFrameTurn
namespace Go.Proofs.YthigcaakkjfghaaDoor.Wire
open Go.ChangeShapes Go.WideShapes Go.RowKit CrcMath CrcCalls FrameMath
open FrameCalls (frameB)

set_option maxRecDepth 100000 in
set_option maxHeartbeats 4000000 in
theorem rpack_any (k sq n ps mr : Int) (a : Option Addr) (m cap : Nat) (L : List Int) (self : Bool) (data : ByteArray) (w : World) (hL : Own.RdI .i64 w a m L) (hll : m ≤ 1000000) (hn : 0 ≤ n) (hps : 0 ≤ ps) (hmr : 0 ≤ mr) (hpos : ∀ z ∈ L, 0 ≤ z) :
    Calls Tryd.prog 14 #[.agg (Pdu.aggR k sq n ps mr (.slice a m cap) self data)] w fun e w' => e = .returned (.string (packW ⟨k, sq, n, ps, mr, L, self, data⟩)) ∧ Below w.heap.size w w' := by
  have H0 : Hid (Pdu.RAt w (w.alloc (.cells (Pdu.aggR k sq n ps mr (.slice a m cap) self data) 24)) w.heap.size k sq n ps mr a m cap L self data) := Lib.hid (Pdu.RAt.new hL)
  have HCK := Lib.hid (fun (w' : World) (h : Own.RdI .i64 w' a m L) => Pdu.rcheck_any k sq n ps mr a m cap L self data w' h hll hn hps hmr hpos)
  have HBY := Lib.hid (fun (w' : World) (h : Own.RdI .i64 w' a m L) => Pdu.rbytes_any k sq n ps mr a m cap L self data w' h hll hn hps hmr hpos)
  obtain ⟨C, hC⟩ : ∃ C, Pdu.checkU ⟨k, sq, n, ps, mr, L, self, data⟩ = C := ⟨_, rfl⟩
  have HC := Lib.hid hC
  have HSM : Hid (C = 0 → (Pdu.bytesU ⟨k, sq, n, ps, mr, L, self, data⟩).size ≤ 2000) := Lib.hid (fun h => bytes_small _ (hC.trans h))
  obtain ⟨S, hS⟩ : ∃ S, Pdu.bytesU ⟨k, sq, n, ps, mr, L, self, data⟩ = S := ⟨_, rfl⟩
  have HS := Lib.hid hS
  have HSZ : Hid (packW ⟨k, sq, n, ps, mr, L, self, data⟩ = if C = 0 then frameB 0 S else ⟨#[]⟩) := Lib.hid (by unfold packW; rw [hC, hS])
  rw [hS] at HSM
  clear hC hS hL hll hn hps hmr hpos
  obtain ⟨k0, k1, k2, k3, k4, k5, k6, k7⟩ := H0.out.cells
  by_cases hc : C = 0
  · subst hc
    have HPW : Hid (packW ⟨k, sq, n, ps, mr, L, self, data⟩ = frameB 0 S) := Lib.hid (by rw [HSZ.out, if_pos rfl])
    have HSS : Hid (S.size ≤ 65535) := Lib.hid (by have := HSM.out rfl; omega)
    clear HSM HSZ
    go_enter Tryd.func14, Tryd.ntmps14
    go_wp2_with (first
      | ((have _s := t2); go_at_call 36
         refine (FrameCalls.rbytes_any 0 S _ HSS.out).mono ?_
         rintro e W3 ⟨rfl, h3⟩)
      | ((have _s := t1); go_at_call 37
         refine (HBY.out _ H1.out.rd).mono ?_
         rintro e W2 ⟨rfl, h2⟩
         rw [HS.out]
         (have H2 := Lib.hid (H1.out.below h2))
         have t2 : True := trivial)
      | (go_at_call 13
         refine (HCK.out _ H0.out.rd).mono ?_
         rintro e W1 ⟨rfl, h1⟩
         rw [HC.out]
         (have H1 := Lib.hid (H0.out.below h1))
         clear k0 k1 k2 k3 k4 k5 k6 k7
         obtain ⟨k0, k1, k2, k3, k4, k5, k6, k7⟩ := H1.out.cells
         have t1 : True := trivial))
    go_ret
    exact ⟨by rw [HPW.out]; rfl, H2.out.bel.trans (h3.mono (Nat.le_of_lt H2.out.lt))⟩
  · have hcb : (C != 0) = true := by simp [hc]
    have HPW : Hid (packW ⟨k, sq, n, ps, mr, L, self, data⟩ = ⟨#[]⟩) := Lib.hid (by rw [HSZ.out, if_neg hc])
    go_enter Tryd.func14, Tryd.ntmps14
    go_wp2_with (go_at_call 13; refine (HCK.out _ H0.out.rd).mono ?_; rintro e W1 ⟨rfl, h1⟩; rw [HC.out])
    go_ret
    exact ⟨by rw [HPW.out]; rfl, (H0.out.below h1).bel⟩
theorem open_pack (B : Nat) (k sq n ps mr : Int) (m : Nat) (L : List Int) (self : Bool) (data : ByteArray) (w : World) (hT : Tab w B) (hF : Pdu.Forms w) (hm : m = L.length) (hc : Pdu.checkU ⟨k, sq, n, ps, mr, L, self, data⟩ = 0) (hn : NonNeg ⟨k, sq, n, ps, mr, L, self, data⟩) :
    Calls Tryd.prog 16 #[.pointer (some ⟨B, 0, none⟩), .string (packW ⟨k, sq, n, ps, mr, L, self, data⟩)] w fun e w' => ∃ a cap, e = .returned (.tuple #[.agg (Pdu.aggU k sq n ps mr (.slice a m cap) self data), .int .i64 0]) ∧ Own.RdI .u32 w' a m L ∧ Below w.heap.size w w' := by
  obtain ⟨h1, h2⟩ := pack_back _ hc hn
  have hs := pack_small _ hc
  refine (open_any B _ w hT hF (by omega)).mono ?_
  rintro e w' ⟨hb, ⟨h, _⟩ | ⟨_, lv, rfl, ho⟩⟩
  · exact absurd h1 h
  · rw [h2] at ho ⊢
    obtain ⟨a, cap, rfl, hr⟩ := Pdu.owned ho
    subst hm
    exact ⟨a, cap, rfl, hr, hb⟩
/-- opening what is wrong -/
theorem open_bad (s : ByteArray) (hs : s.size ≤ 100000) (c : Int) (hc : codeW s = c) (h0 : c ≠ 0) (B : Nat) (w : World) (hT : Tab w B) (hF : Pdu.Forms w) :
    Calls Tryd.prog 16 #[.pointer (some ⟨B, 0, none⟩), .string s] w fun e w' => e = .returned (.tuple #[.agg Pdu.zeroC, .int .i64 c]) ∧ Below w.heap.size w w' :=
  (open_any B s w hT hF hs).mono fun e w' ⟨hb, h⟩ => by
    rcases h with ⟨_, rfl⟩ | ⟨h, _⟩
    · exact ⟨by rw [hc]; rfl, hb⟩
    · exact absurd (hc.symm.trans h) h0
theorem bytes_740 (u : Pdu.U) (h : Pdu.checkU u = 0) : (Pdu.bytesU u).size ≤ 740 := by
  obtain ⟨k, hk, h1, h2, s1, s2, n1, p1, m1, l1, d1, b1⟩ := Pdu.check_ok u h
  have hl := Pdu.bytes_len u h
  have : ((Pdu.bytesU u).size : Int) ≤ 740 := by
    rw [hl]; split <;> split <;> split <;> omega
  omega
theorem pack_800 (u : Pdu.U) (hc : Pdu.checkU u = 0) : (packW u).size ≤ 800 := by
  rw [pack_size u hc]; have := cellsN_room (Pdu.bytesU u).size; have := bytes_740 u hc; omega
/-- a packed unit with bits turned, that is another text, is told -/
theorem turned_code (u : Pdu.U) (hc : Pdu.checkU u = 0) (mask at_ : Int) (h : FrameCalls.turnB (packW u) mask at_ ≠ packW u) : codeW (FrameCalls.turnB (packW u) mask at_) = 4 ∧ fits (FrameCalls.turnB (packW u) mask at_).data.toList = false := by
  have hp : packW u = frameB 0 (Pdu.bytesU u) := by unfold packW; rw [if_pos hc]
  rw [hp] at h ⊢
  have hl := FrameCalls.parse_turned 0 (Pdu.bytesU u) mask at_ (fun e => h (by
    rw [ByteArray.toList_eq, ByteArray.toList_eq] at e
    exact Pdu.str_ext e))
  constructor
  · unfold codeW; rw [hl]; rfl
  · have h2 := FrameCalls.turn_fits (bodyL 0 (Pdu.bytesU u).data.toList) mask at_
    have h3 : (FrameCalls.turnB (frameB 0 (Pdu.bytesU u)) mask at_).data.toList = FrameCalls.turnN (seal_ (bodyL 0 (Pdu.bytesU u).data.toList)) mask at_ 32 := rfl
    rw [h3, h2, decide_eq_false_iff_not]
    intro e
    exact h (Pdu.str_ext (by rw [h3, e]; rfl))
end Go.Proofs.YthigcaakkjfghaaDoor.Wire
