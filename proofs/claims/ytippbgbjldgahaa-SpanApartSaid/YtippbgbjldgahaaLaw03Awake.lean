/-
  The fixed fact that each law of sets asks first.
-/
import Derived.Test.YtippbgbjldgahaaSetOf
import Derived.Test.YtippbgbjldgahaaSpanLen
import Derived.Test.YtippbgbjldgahaaSpanSame
namespace Go.Proofs.Ytippbgbjldgahaa.Law03
open Go.RowKit SpanMath View SpanCalls

theorem eqlSp (x1 x2 y1 y2 : Int) (w : World) : (binOp .eql 35 (.agg #[.int .i64 x1, .int .i64 x2]) (.agg #[.int .i64 y1, .int .i64 y2])).run Try.prog w = .ok (.bool (x1 == y1 && x2 == y2)) w := by
  have u3 := Try.underlying3
  have a3 := Try.isAgg3
  have z3 := Try.sizeOf3
  have hS : Try.prog.underlying 35 = some (.struct (Try.prog.fieldsOf 35)) := by kernel_rfl
  have hp : Try.prog.stoodInHeld 35 = false := by kernel_rfl
  rw [run_eql_struct, show (10000 : Nat) = 9999 + 1 from rfl, run_equalIn_agg w 9999 35 _ _ hS hp]
  simp only [Program.fieldsOf, Try.underlying35]
  go_simp
  by_cases h1 : x1 = y1 <;> by_cases h2 : x2 = y2 <;> simp [h1, h2]

theorem rdS_lit3 (w : World) (a b c d e f : Int) : RdS (w.alloc (.cells #[.int .i64 a, .int .i64 b, .int .i64 c, .int .i64 d, .int .i64 e, .int .i64 f] 35)) (some ⟨w.heap.size, 0, none⟩) 3 [(a, b), (c, d), (e, f)] :=
  ⟨rfl, fun _ => ⟨_, 0, rfl, by simp, fun i hi => by
    rcases (show i = 0 ∨ i = 1 ∨ i = 2 by omega) with rfl | rfl | rfl <;> simp⟩⟩

theorem set0 : IsSet [(1, 3), (5, 9)] (inSp [(5, 7), (1, 3), (6, 9)]) := by
  refine ⟨⟨by simp, by simp⟩, fun n => ?_⟩
  rw [mem_nums]
  simp only [inSp, List.mem_cons, List.not_mem_nil, or_false, exists_eq_or_imp, exists_eq_left]
  omega

theorem awake_any (w : World) : Calls Try.prog 8 #[] w fun e w' => e = .returned (.bool true) ∧ Below w.heap.size w w' := by
  go_enter Try.func8, Try.ntmps8
  go_wp2_with fail
  refine (of_any _ 3 3 _ [(1, 3), (5, 9)] _ (rdS_lit3 w 5 7 1 3 6 9) ⟨Nat.le_refl _, by simp [maxLen], fun h => by cases h⟩ ⟨by simp, by simp⟩ set0).mono ?_; rintro e w1 ⟨v1, rfl, hown, hb1⟩
  have hb2 := ((Below.refl _ w).alloc (Nat.le_refl _) (.cells #[.int .i64 5, .int .i64 7, .int .i64 1, .int .i64 3, .int .i64 6, .int .i64 9] 35)).trans (hb1.mono (by simp))
  obtain ⟨a1, n1, c1, rfl, hf1, hr1⟩ := hown.form
  obtain ⟨hn1, hrd⟩ := hr1
  have hn1' : n1 = 2 := hn1
  subst hn1'
  obtain ⟨b, off, rfl, hlt, hc⟩ := hrd (by omega)
  have h0 := hc 0 (by omega)
  have h1 := hc 1 (by omega)
  have HR : Hid (RdS w1 (some ⟨b, off, none⟩) 2 [(1, 3), (5, 9)]) := Lib.hid ⟨hn1, hrd⟩
  simp only [Nat.zero_mul, Nat.add_zero, Nat.one_mul, List.getD_cons_zero, List.getD_cons_succ] at h0 h1
  obtain ⟨h00, h01⟩ := h0
  obtain ⟨h10, h11⟩ := h1
  have he := eqlSp
  have hg := guardSp
  clear hb1 hown hf1 hn1 hrd hc
  go_wp2_with fail
  refine (len_any _ 2 c1 [(1, 3), (5, 9)] _ HR.out ⟨by simp, by simp⟩ set0.1).mono ?_; rintro e w2 ⟨rfl, hb3⟩
  rw [show ((nums [(1, 3), (5, 9)]).length : Int) = 6 from by decide]
  have hb4 := hb2.trans (hb3.mono hb2.size)
  go_wp2_with fail
  go_ret
  exact ⟨rfl, hb4⟩
end Go.Proofs.Ytippbgbjldgahaa.Law03
