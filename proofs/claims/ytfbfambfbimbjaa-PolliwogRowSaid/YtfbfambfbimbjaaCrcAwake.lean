/-
  The fixed fact that each law asks first; a table in a new block.
-/
import Derived.Test.YtfbfambfbimbjaaCrcSeal
namespace Go.Proofs.Ytfbfambfbimbjaa.CrcCalls
open Go.RowKit CrcMath

theorem tab_new (w : World) (t : TypeId) : Tab (w.alloc (.cells table t)) w.heap.size := fun j hj => by
  rw [World.cell?_alloc_at _ _ _ _ rfl]; exact table_at j hj

/-- what the arguments of a call leave, read behind it -/
theorem fact1 : ((sum (cat (fun _ => ⟨#[49, 50, 51, 52, 53, 54, 55, 56, 57]⟩) 1)).toNat : Int) = 4236843288 := by decide +kernel
theorem fact0 : ((sum []).toNat : Int) = 0 := by decide +kernel

end Go.Proofs.Ytfbfambfbimbjaa.CrcCalls
