/-
  The fixed fact that each law of frames asks first.
-/
import Derived.Test.YtkjephbfbagckaaDoorFrameRef
import Derived.Laws.StructEq
namespace Go.Proofs.YtkjephbfbagckaaDoor.FrameCalls
open Go.ChangeShapes Go.WideShapes Go.RowKit CrcMath CrcCalls FrameMath

theorem tab_new (w : World) (t : TypeId) : Tab (w.alloc (.cells table t)) w.heap.size := fun j hj => by
  rw [World.cell?_alloc_at _ _ _ _ rfl]; exact table_at j hj

theorem frame_list (u : UInt8) (d : ByteArray) : (frameB u d).data.toList = frameL u d.data.toList := rfl
theorem parse_frameB (u : UInt8) (d : ByteArray) (h : d.size ≤ 65535) : parseL (frameB u d).data.toList = (u, d.data.toList, 0) := parse_frame u d.data.toList h
theorem frameB_size (u : UInt8) (d : ByteArray) : (frameB u d).size = 48 * cellsN d.size := frameL_length u d.data.toList
theorem back_bytes (d : ByteArray) : (⟨d.data.toList.toArray⟩ : ByteArray) = d := by simp

theorem bytes_frame (B u : Nat) (hu : u < 256) (d : ByteArray) (w : World) (hT : Tab w B) (hd : d.size ≤ 65535) :
    Calls Tryd.prog 12 #[.agg #[.int .u8 (u : Int), .string d], .pointer (some ⟨B, 0, none⟩)] w fun e w' => e = .returned (.tuple #[.string (frameB (UInt8.ofNat u) d), .int .i64 0]) ∧ Below w.heap.size w w' := bytes_any B u hu d w hT hd
/-- a frame's bytes are read -/
theorem parse_back (B : Nat) (u : UInt8) (d F : ByteArray) (w : World) (hT : Tab w B) (hF : frameB u d = F) (hd : d.size ≤ 65535) :
    Calls Tryd.prog 13 #[.pointer (some ⟨B, 0, none⟩), .string F] w fun e w' => e = .returned (.tuple #[.agg #[.int .u8 (u.toNat : Int), .string d], .int .i64 0]) ∧ Below w.heap.size w w' := by
  subst hF
  have h := parse_any B (frameB u d) w hT (by rw [frameB_size]; have := cellsN_room d.size; omega)
  rw [parse_frameB u d hd] at h
  simpa [parsed, back_bytes] using h

theorem awake_any (w : World) :
    Calls Tryd.prog 9 #[] w fun e w' => e = .returned (.bool true) ∧ Below w.heap.size w w' := by
  have hz := zero_run
  have hS48 : (frameB 7 ⟨#[97, 98]⟩).size = 48 := by rw [frameB_size]; decide
  obtain ⟨F, hF⟩ : ∃ F, frameB 7 ⟨#[97, 98]⟩ = F := ⟨_, rfl⟩
  rw [hF] at hS48
  have HF := Lib.hid hF
  clear hF
  go_enter Tryd.func9, Tryd.ntmps9
  go_wp2_with fail
  refine (make_any _).mono ?_; rintro e w1 ⟨rfl, hb1⟩
  go_wp2_with (refine wpList_store_row rfl 26 _ _ rfl _ table rfl rfl 26 zeros (heap_alloc_last _ _) (by rw [table_size]; exact tableInfo) (by rw [table_size, zeros_size]) table_cells ?_; rw [World.setRow_alloc_new])
  have hT := Lib.hid (tab_new w1 26)
  have hb2 : Below w.heap.size w (w1.alloc (.cells table 26)) := hb1.alloc hb1.size _
  have hs2 : w.heap.size ≤ (w1.alloc (.cells table 26)).heap.size := hb2.size
  generalize w1.heap.size = B at *
  generalize w1.alloc (.cells table 26) = w2 at *
  refine (bytes_frame B 7 (by decide) ⟨#[97, 98]⟩ _ hT.out (by decide)).mono ?_
  rintro e w3 ⟨rfl, hb3⟩
  rw [show frameB (UInt8.ofNat 7) ⟨#[97, 98]⟩ = F from HF.out]
  have hT3 := Lib.hid (hT.out.below hb3)
  have hb3' := hb2.trans (hb3.mono hs2)
  have hs3 := hb3'.size
  clear hb3 hb2 hs2 hT
  go_wp2_with fail
  refine (parse_back B 7 ⟨#[97, 98]⟩ F _ hT3.out HF.out (by decide)).mono ?_
  rintro e w4 ⟨rfl, hb4⟩
  have hb4' := hb3'.trans (hb4.mono hs3)
  clear hb3' hs3 hb4
  go_wp2_with fail
  refine (cells_any 0 _ (by decide) (by decide)).mono ?_
  rintro e w' ⟨rfl, rfl⟩
  rw [show cellsI 0 = 1 from by decide]
  go_wp2_with fail
  go_ret
  exact ⟨rfl, hb4'.alloc hb4'.size _⟩

theorem parse_backN (B u : Nat) (hu : u < 256) (d F : ByteArray) (w : World) (hT : Tab w B) (hF : frameB (UInt8.ofNat u) d = F) (hd : d.size ≤ 65535) :
    Calls Tryd.prog 13 #[.pointer (some ⟨B, 0, none⟩), .string F] w fun e w' => e = .returned (.tuple #[.agg #[.int .u8 (u : Int), .string d], .int .i64 0]) ∧ Below w.heap.size w w' := by
  have h := parse_back B (UInt8.ofNat u) d F w hT hF hd
  rw [show (UInt8.ofNat u).toNat = u by rw [UInt8.toNat_ofNat']; omega] at h
  exact h

/-- what is told of any bytes, by the program and by the document, is one -/
theorem parse_both (s : ByteArray) (hs : s.size ≤ 1000) : ∃ (U : Int) (D : ByteArray) (E : Int), (∀ (B : Nat) (w : World), Tab w B →
      Calls Tryd.prog 13 #[.pointer (some ⟨B, 0, none⟩), .string s] w fun e w' => e = .returned (.tuple #[.agg #[.int .u8 U, .string D], .int .i64 E]) ∧ Below w.heap.size w w') ∧
    (∀ w : World, Calls Tryd.prog 18 #[.string s] w fun e w' => e = .returned (.tuple #[.int .u8 U, .string D, .int .i64 E]) ∧ Below w.heap.size w w') :=
  ⟨_, _, _, fun B w hT => parse_any B s w hT (by omega), fun w => rparse_any s w hs⟩
end Go.Proofs.YtkjephbfbagckaaDoor.FrameCalls
