/-
  Gaps: which numbers a status names.
-/
import Derived.Test.YtdnikjjcgoilfaaGaps4
namespace Go.Proofs.Ytdnikjjcgoilfaa.Gaps
open Go.ChangeShapes Go.WideShapes Go.RowKit Own

def aggP (k sq n ps mr : Int) (l : Value) (sf : Bool) (d : ByteArray) : Array Value := #[.int .i64 k, .int .i64 sq, .int .u32 n, .int .u32 ps, .int .u32 mr, l, .bool sf, .string d]
theorem named_other (k sq n ps mr : Int) (l : Value) (sf : Bool) (d : ByteArray) (w : World) (hk : k ≠ 11 ∧ k ≠ 12) :
    Calls Try.prog 24 #[.agg (aggP k sq n ps mr l sf d)] w fun e w' => e = .returned (.slice none 0 0) ∧ Below w.heap.size w w' := by
  have h1 : (k != 11) = true := by simpa using hk.1
  have h2 : (k != 12) = true := by simpa using hk.2
  clear hk
  unfold aggP
  go_enter Try.func24, Try.ntmps24
  go_wp2_with fail
  go_ret
  exact ⟨rfl, (Below.refl _ _).alloc (Nat.le_refl _) _⟩
theorem ns_start (w : World) (cs : Array Value) : NS w w.heap.size ((((w.alloc (.cells cs 48)).alloc (.cells #[.slice none 0 0] 32)).alloc (.map #[] 0)).alloc (.cells #[.map (some (w.heap.size + 1 + 1))] 70)) (w.heap.size + 1) (w.heap.size + 1 + 1 + 1) (w.heap.size + 1 + 1) (w.heap.size + 4) (.slice none 0 0) [] := by
  generalize hW1 : w.alloc (.cells cs 48) = W1
  have s1 : W1.heap.size = w.heap.size + 1 := by rw [← hW1]; simp
  have b1 : Below w.heap.size w W1 := by rw [← hW1]; exact (Below.refl _ _).alloc (Nat.le_refl _) _
  generalize hW2 : W1.alloc (.cells #[.slice none 0 0] 32) = W2
  have s2 : W2.heap.size = w.heap.size + 1 + 1 := by rw [← hW2]; simp [s1]
  have b2 : Below W1.heap.size W1 W2 := by rw [← hW2]; exact (Below.refl _ _).alloc (Nat.le_refl _) _
  have g2 : W2.heap[w.heap.size + 1]? = some (.cells #[.slice none 0 0] 32 (0, 0)) := by rw [← hW2, ← s1]; exact heap_alloc_new _ _
  generalize hW3 : W2.alloc (.map #[] 0) = W3
  have s3 : W3.heap.size = w.heap.size + 1 + 1 + 1 := by rw [← hW3]; simp [s2]
  have b3 : Below W2.heap.size W2 W3 := by rw [← hW3]; exact (Below.refl _ _).alloc (Nat.le_refl _) _
  have m3 : W3.ownsMap Try.prog 28 (unitElem (H := Unit)) (w.heap.size + 1 + 1) 0 (.map []) := by rw [← hW3, ← s2]; exact World.ownsMap_made _ _ _ _
  have b4 : Below W3.heap.size W3 (W3.alloc (.cells #[.map (some (w.heap.size + 1 + 1))] 70)) := (Below.refl _ _).alloc (Nat.le_refl _) _
  have g4 : (W3.alloc (.cells #[.map (some (w.heap.size + 1 + 1))] 70)).heap[w.heap.size + 1 + 1 + 1]? = some (.cells #[.map (some (w.heap.size + 1 + 1))] 70 (0, 0)) := by rw [← s3]; exact heap_alloc_new _ _
  refine ⟨((b4.block _ (by omega)).trans (b3.block _ (by omega))).trans g2, g4, OwnI.nil, ⟨.map [], m3.alloc _, fun x => by simp [Go.Maps.has]⟩, by omega, ?_, by omega, by simp [s3]⟩
  exact ((b1.trans (b2.mono (by omega))).trans (b3.mono (by omega))).trans (b4.mono (by omega))
set_option maxRecDepth 100000 in
set_option maxHeartbeats 2000000 in
theorem named_any (k sq n ps mr : Int) (a : Option Addr) (q cap : Nat) (L : List Int) (sf : Bool) (d : ByteArray) (w : World) (h : RdI .u32 w a q L) (hf : Fit a q cap) (hk : k = 11 ∨ k = 12) :
    Calls Try.prog 24 #[.agg (aggP k sq n ps mr (.slice a q cap) sf d)] w fun e w' => ∃ v, e = .returned v ∧ OwnI .u32 28 w' w.heap.size v (namedL L) ∧ Below w.heap.size w w' := by
  obtain ⟨f1, f2, _⟩ := hf
  unfold maxLen at f2
  have HR := Lib.hid h
  have HF := Lib.hid (And.intro f1 f2)
  have hmm := @run_makeMap Try.prog
  have hP : ∀ W : World, NS w w.heap.size W (w.heap.size + 1) (w.heap.size + 3) (w.heap.size + 2) (w.heap.size + 4) (.slice none 0 0) [] →
      Calls Try.prog 37 #[.slice a q cap, .func (.func 42) #[] #[.pointer (some ⟨w.heap.size + 1, 0, none⟩), .pointer (some ⟨w.heap.size + 3, 0, none⟩)]] W fun e W' => (∃ v, e = .returned v) ∧ ∃ v', NS w w.heap.size W' (w.heap.size + 1) (w.heap.size + 3) (w.heap.size + 2) (w.heap.size + 4) v' (namedL L) := fun W hW =>
    pairsN_any (w.heap.size + 1) (w.heap.size + 3) a q cap L W (fun k W => ∃ v', NS w w.heap.size W (w.heap.size + 1) (w.heap.size + 3) (w.heap.size + 2) (w.heap.size + 4) v' (namTo L k)) ⟨_, hW⟩ h.1 f1 f2
      (fun k W ⟨_, h3⟩ => h.below h3.below)
      (fun k W r ⟨v', h3⟩ => ⟨v', h3.drewN r⟩)
      (fun k W hk hno ⟨v', h3⟩ => ⟨v', by rw [namTo, if_neg (show ¬ (wayI (L.getD (2 * k) 0) (L.getD (2 * k + 1) 0) ≤ 8388608) from hno)]; exact h3⟩)
      (fun k W hk hok ⟨v', h3⟩ => by
        have hw := way_bounds (L.getD (2 * k) 0) (L.getD (2 * k + 1) 0)
        refine (namedC_any w w.heap.size _ _ _ _ v' (namTo L k) _ _ W h3 (nam_cap L k) ⟨hw.1, by omega⟩).mono ?_
        rintro e W' ⟨hv, v2, h4⟩
        exact ⟨hv, v2, by rw [namTo, if_pos (show wayI (L.getD (2 * k) 0) (L.getD (2 * k + 1) 0) ≤ 8388608 from hok)]; exact h4⟩)
  have HP := Lib.hid hP
  have e11 : (k != 11 && k != 12) = false := by rcases hk with rfl | rfl <;> rfl
  clear h f1 f2 hP
  rcases hk with rfl | rfl
  all_goals
    clear e11
    unfold aggP
    go_enter Try.func24, Try.ntmps24
    go_wp2_with fail
    refine (HP.out _ (ns_start w _)).mono ?_; rintro e W1 ⟨⟨_, rfl⟩, v', hs⟩
    obtain ⟨a5, q5, c5, rfl, _, _⟩ := hs.own.form
    have k0 : W1.cell? ⟨w.heap.size + 1, 0, none⟩ = some (.slice a5 q5 c5) := Go.Joins.cell_of_block hs.gl1 0
    have HS := Lib.hid hs
    clear hs
    go_wp2_with fail
    go_ret
    exact ⟨_, rfl, HS.out.own.lower (by omega), HS.out.below⟩
end Go.Proofs.Ytdnikjjcgoilfaa.Gaps
