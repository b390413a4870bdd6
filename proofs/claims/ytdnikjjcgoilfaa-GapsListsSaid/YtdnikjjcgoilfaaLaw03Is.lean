/-
  Is a set just these numbers: yes, where it is.
-/
import Derived.Test.YtdnikjjcgoilfaaRefSpans
import Derived.Test.YtdnikjjcgoilfaaSpanLen
import Derived.Test.YtdnikjjcgoilfaaSpanList
namespace Go.Proofs.Ytdnikjjcgoilfaa.Law03
open Go.RowKit SpanMath View SpanCalls Ref

end Go.Proofs.Ytdnikjjcgoilfaa.Law03
