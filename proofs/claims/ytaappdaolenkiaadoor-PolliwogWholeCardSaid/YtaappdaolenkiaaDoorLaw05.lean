/-
  The fixed fact that each law of frames asks first.
-/
import Derived.Test.YtaappdaolenkiaaDoorFrameRef
import Derived.Laws.StructEq
namespace Go.Proofs.YtaappdaolenkiaaDoor.FrameCalls
open Go.ChangeShapes Go.WideShapes Go.RowKit CrcMath CrcCalls FrameMath

theorem tab_new (w : World) (t : TypeId) : Tab (w.alloc (.cells table t)) w.heap.size := fun j hj => by
  rw [World.cell?_alloc_at _ _ _ _ rfl]; exact table_at j hj

theorem frame_list (u : UInt8) (d : ByteArray) : (frameB u d).data.toList = frameL u d.data.toList := rfl
theorem parse_frameB (u : UInt8) (d : ByteArray) (h : d.size ≤ 65535) : parseL (frameB u d).data.toList = (u, d.data.toList, 0) := parse_frame u d.data.toList h
theorem frameB_size (u : UInt8) (d : ByteArray) : (frameB u d).size = 48 * cellsN d.size := frameL_length u d.data.toList
theorem back_bytes (d : ByteArray) : (⟨d.data.toList.toArray⟩ : ByteArray) = d := by simp

theorem bytes_frame (B u : Nat) (hu : u < 256) (d : ByteArray) (w : World) (hT : Tab w B) (hd : d.size ≤ 65535) :
    Calls Tryd.prog 11 #[.agg #[.int .u8 (u : Int), .string d], .pointer (some ⟨B, 0, none⟩)] w fun e w' => e = .returned (.tuple #[.string (frameB (UInt8.ofNat u) d), .int .i64 0]) ∧ Below w.heap.size w w' := bytes_any B u hu d w hT hd
/-- a frame's bytes are read -/
theorem parse_back (B : Nat) (u : UInt8) (d F : ByteArray) (w : World) (hT : Tab w B) (hF : frameB u d = F) (hd : d.size ≤ 65535) :
    Calls Tryd.prog 12 #[.pointer (some ⟨B, 0, none⟩), .string F] w fun e w' => e = .returned (.tuple #[.agg #[.int .u8 (u.toNat : Int), .string d], .int .i64 0]) ∧ Below w.heap.size w w' := by
  subst hF
  have h := parse_any B (frameB u d) w hT (by rw [frameB_size]; have := cellsN_room d.size; omega)
  rw [parse_frameB u d hd] at h
  simpa [parsed, back_bytes] using h

theorem parse_backN (B u : Nat) (hu : u < 256) (d F : ByteArray) (w : World) (hT : Tab w B) (hF : frameB (UInt8.ofNat u) d = F) (hd : d.size ≤ 65535) :
    Calls Tryd.prog 12 #[.pointer (some ⟨B, 0, none⟩), .string F] w fun e w' => e = .returned (.tuple #[.agg #[.int .u8 (u : Int), .string d], .int .i64 0]) ∧ Below w.heap.size w w' := by
  have h := parse_back B (UInt8.ofNat u) d F w hT hF hd
  rw [show (UInt8.ofNat u).toNat = u by rw [UInt8.toNat_ofNat']; omega] at h
  exact h

end Go.Proofs.YtaappdaolenkiaaDoor.FrameCalls
