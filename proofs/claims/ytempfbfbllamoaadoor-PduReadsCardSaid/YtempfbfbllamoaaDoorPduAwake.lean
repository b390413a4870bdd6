/-
  Units: the fixed fact.
-/
import Derived.Test.YtempfbfbllamoaaDoorPduParse2
namespace Go.Proofs.YtempfbfbllamoaaDoor.Pdu
open Go.ChangeShapes Go.WideShapes Go.RowKit Own

def s0 : ByteArray := ⟨#[97, 98, 0, 0, 136, 0, 0, 5]⟩
def ab : ByteArray := ⟨#[97, 98]⟩
theorem bytes0 : bytesU ⟨8, 0, 5, 0, 0, [], false, ab⟩ = s0 := by decide +kernel
theorem code0 : codeP s0 = 0 := by decide +kernel
theorem unit0 : (unitP s0).kind = 8 ∧ (unitP s0).n = 5 ∧ (unitP s0).data = ab := by decide +kernel
theorem str_s0 : s0.toList = [97, 98, 0, 0, 136, 0, 0, 5] := by decide +kernel
set_option maxHeartbeats 1000000 in
theorem awake_any (w : World) (hF : Forms w) : Calls Tryd.prog 4 #[] w fun e w' => e = .returned (.bool true) ∧ Below w.heap.size w w' := by
  have HF := Lib.hid hF
  clear hF
  go_enter Tryd.func4, Tryd.ntmps4
  go_wp2_with fail
  have hb0 : Below w.heap.size w (w.alloc (.cells #[.int .i64 8, .int .i64 0, .int .u32 5, .int .u32 0, .int .u32 0, .slice none 0 0, .bool false, .string ab] 28)) := (Below.refl _ _).alloc (Nat.le_refl _) _
  refine (parse_any s0 _ (HF.out.below hb0 (Nat.le_refl _)) (by decide +kernel)).mono ?_
  rintro e W2 ⟨hb2, hres⟩
  rcases hres with ⟨hne, _⟩ | ⟨_, lv, rfl, ho⟩
  · exact absurd code0 hne
  · have hg2 : W2.heap[w.heap.size]? = some (.cells #[.int .i64 8, .int .i64 0, .int .u32 5, .int .u32 0, .int .u32 0, .slice none 0 0, .bool false, .string ab] 28 (0, 0)) := (hb2.block _ (by simp)).trans (heap_alloc_new w _)
    have hbw : Below w.heap.size w W2 := hb0.trans (hb2.mono (by simp))
    obtain ⟨u1, u2, u3⟩ := unit0
    generalize unitP s0 = u at *
    obtain ⟨uk, usq, un, ups, umr, ul, usf, ud⟩ := u
    dsimp only at u1 u2 u3 ho ⊢
    subst u1 u2 u3
    obtain ⟨la, ln, lcap, rfl, _, _⟩ := ho.form
    have HB := Lib.hid hbw
    have HG := Lib.hid hg2
    clear hb2 hb0 ho hbw hg2
    unfold told U.val
    dsimp only
    obtain ⟨W3, hW3⟩ : ∃ W3, W2.alloc (.cells #[.int .i64 8, .int .i64 usq, .int .u32 5, .int .u32 ups, .int .u32 umr, .slice la ln lcap, .bool usf, .string ab] 28) = W3 := ⟨_, rfl⟩
    have hba : Below W2.heap.size W2 W3 := by rw [← hW3]; exact (Below.refl _ _).alloc (Nat.le_refl _) _
    have hg3 : W3.heap[w.heap.size]? = some (.cells #[.int .i64 8, .int .i64 0, .int .u32 5, .int .u32 0, .int .u32 0, .slice none 0 0, .bool false, .string ab] 28 (0, 0)) := (hba.block _ (Array.getElem?_eq_some_iff.1 HG.out).1).trans HG.out
    have hn3 : W3.heap[W2.heap.size]? = some (.cells #[.int .i64 8, .int .i64 usq, .int .u32 5, .int .u32 ups, .int .u32 umr, .slice la ln lcap, .bool usf, .string ab] 28 (0, 0)) := by rw [← hW3]; exact heap_alloc_new W2 _
    have HB3 := Lib.hid (HB.out.trans (hba.mono HB.out.size))
    have HN3 := Lib.hid hn3
    have HG3 := Lib.hid hg3
    have HW3 := Lib.hid hW3
    clear hba hg3 hn3 hW3 HG
    go_wp2_with (refine wpList_load_row rfl 28 _ rfl w.heap.size rfl 28 #[.int .i64 8, .int .i64 0, .int .u32 5, .int .u32 0, .int .u32 0, .slice none 0 0, .bool false, .string ab] (0, 0) _ (by exact HW3.out ▸ HG3.out) Tryd.underlying28 rfl info_pdu ?_)
    rw [show W2.alloc (.cells #[.int .i64 8, .int .i64 usq, .int .u32 5, .int .u32 ups, .int .u32 umr, .slice la ln lcap, .bool usf, .string ab] 28) = W3 from HW3.out]
    refine (bytes_any 8 none 0 0 5 0 0 [] false ab W3 (HF.out.below HB3.out (Nat.le_refl _)) ⟨none, 0, rfl, by decide, fun z hz => by simp at hz, .inl rfl⟩ (by decide)).mono ?_
    rintro e W4 ⟨rfl, hb4⟩
    rw [show bytesU ⟨((8 : Nat) : Int), 0, 5, 0, 0, [], false, ab⟩ = s0 from bytes0]
    have hn4 : W4.heap[W2.heap.size]? = _ := (hb4.block _ (Array.getElem?_eq_some_iff.1 HN3.out).1).trans HN3.out
    have k0 : W4.cell? ⟨W2.heap.size, 0, none⟩ = some (.int .i64 8) := Go.Joins.cell_of_block hn4 0
    have k2 : W4.cell? ⟨W2.heap.size, 2, none⟩ = some (.int .u32 5) := Go.Joins.cell_of_block hn4 2
    have k7 : W4.cell? ⟨W2.heap.size, 7, none⟩ = some (.string ab) := Go.Joins.cell_of_block hn4 7
    have HB4 := Lib.hid (HB3.out.trans (hb4.mono HB3.out.size))
    have t1 : (s0.toList == [97, 98, 0, 0, 136, 0, 0, 5]) = true := by rw [str_s0]; rfl
    have t2 : (ab.toList == [97, 98]) = true := by decide +kernel
    clear hb4 hn4
    go_wp2_with fail
    go_ret
    exact ⟨rfl, HB4.out⟩
end Go.Proofs.YtempfbfbllamoaaDoor.Pdu
