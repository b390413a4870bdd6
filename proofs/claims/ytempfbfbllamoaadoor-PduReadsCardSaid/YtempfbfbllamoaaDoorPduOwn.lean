/-
  Units as the laws hand them over: the program's own, of the document's.
-/
import Derived.Test.YtempfbfbllamoaaDoorPduFew
import Derived.Test.YtempfbfbllamoaaDoorPduRead2
namespace Go.Proofs.YtempfbfbllamoaaDoor.Pdu
open Go.ChangeShapes Go.WideShapes Go.RowKit Own

abbrev aggU (k sq n ps mr : Int) (lv : Value) (sf : Bool) (d : ByteArray) : Array Value := #[.int .i64 k, .int .i64 sq, .int .u32 n, .int .u32 ps, .int .u32 mr, lv, .bool sf, .string d]
end Go.Proofs.YtempfbfbllamoaaDoor.Pdu
