/-
  The fixed fact that each law of sets asks first.
-/
import Derived.Test.YtdnikjjcgoilfaaSetOf
import Derived.Test.YtdnikjjcgoilfaaSpanLen
import Derived.Test.YtdnikjjcgoilfaaSpanSame
namespace Go.Proofs.Ytdnikjjcgoilfaa.Law03
open Go.RowKit SpanMath View SpanCalls

theorem eqlSp (x1 x2 y1 y2 : Int) (w : World) : (binOp .eql 56 (.agg #[.int .i64 x1, .int .i64 x2]) (.agg #[.int .i64 y1, .int .i64 y2])).run Try.prog w = .ok (.bool (x1 == y1 && x2 == y2)) w := by
  have u3 := Try.underlying3
  have a3 := Try.isAgg3
  have z3 := Try.sizeOf3
  have hS : Try.prog.underlying 56 = some (.struct (Try.prog.fieldsOf 56)) := by kernel_rfl
  have hp : Try.prog.stoodInHeld 56 = false := by kernel_rfl
  rw [run_eql_struct, show (10000 : Nat) = 9999 + 1 from rfl, run_equalIn_agg w 9999 56 _ _ hS hp]
  simp only [Program.fieldsOf, Try.underlying56]
  go_simp
  by_cases h1 : x1 = y1 <;> by_cases h2 : x2 = y2 <;> simp [h1, h2]

theorem rdS_lit3 (w : World) (a b c d e f : Int) : RdS (w.alloc (.cells #[.int .i64 a, .int .i64 b, .int .i64 c, .int .i64 d, .int .i64 e, .int .i64 f] 56)) (some ⟨w.heap.size, 0, none⟩) 3 [(a, b), (c, d), (e, f)] :=
  ⟨rfl, fun _ => ⟨_, 0, rfl, by simp, fun i hi => by
    rcases (show i = 0 ∨ i = 1 ∨ i = 2 by omega) with rfl | rfl | rfl <;> simp⟩⟩

theorem set0 : IsSet [(1, 3), (5, 9)] (inSp [(5, 7), (1, 3), (6, 9)]) := by
  refine ⟨⟨by simp, by simp⟩, fun n => ?_⟩
  rw [mem_nums]
  simp only [inSp, List.mem_cons, List.not_mem_nil, or_false, exists_eq_or_imp, exists_eq_left]
  omega

end Go.Proofs.Ytdnikjjcgoilfaa.Law03
