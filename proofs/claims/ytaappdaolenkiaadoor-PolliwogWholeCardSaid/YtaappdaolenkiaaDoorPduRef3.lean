/-
  The document's own words on units: may a unit be: the walk.
-/
import Derived.Test.YtaappdaolenkiaaDoorPduRAt
namespace Go.Proofs.YtaappdaolenkiaaDoor.Pdu
open Go.ChangeShapes Go.WideShapes Go.RowKit Own

end Go.Proofs.YtaappdaolenkiaaDoor.Pdu
