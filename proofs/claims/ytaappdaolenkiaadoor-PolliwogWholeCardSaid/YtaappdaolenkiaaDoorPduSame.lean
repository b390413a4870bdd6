/-
  Units: is the program's the document's?
-/
import Derived.Test.YtaappdaolenkiaaDoorPduOwn
namespace Go.Proofs.YtaappdaolenkiaaDoor.Pdu
open Go.ChangeShapes Go.WideShapes Go.RowKit Own

/-- are two the same, field by field -/
def sameU (u v : U) : Bool := decide (u.kind = v.kind ∧ u.sq = v.sq ∧ u.n = v.n ∧ u.ps = v.ps ∧ u.mr = v.mr ∧ u.self = v.self ∧ u.data = v.data ∧ u.list = v.list)
theorem bytes_ne (a b : ByteArray) : (a.toList != b.toList) = !(decide (a = b)) := by
  rw [bne, ByteArray.toList_eq, ByteArray.toList_eq]
  congr 1
  rw [Bool.eq_iff_iff, beq_iff_eq, decide_eq_true_eq]
  constructor
  · intro h; apply ByteArray.ext; apply Array.toList_inj.1; exact h
  · intro h; rw [h]
end Go.Proofs.YtaappdaolenkiaaDoor.Pdu
