/-
  Is a set just these numbers: yes, where it is.
-/
import Derived.Test.YtpaogpjdkkkihaaRefSpans
import Derived.Test.YtpaogpjdkkkihaaSpanLen
import Derived.Test.YtpaogpjdkkkihaaSpanList
namespace Go.Proofs.Ytpaogpjdkkkihaa.Law03
open Go.RowKit SpanMath View SpanCalls Ref

end Go.Proofs.Ytpaogpjdkkkihaa.Law03
