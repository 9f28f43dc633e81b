/-
  What is looked for by a function literal: 'slices.IndexFunc', 'slices.ContainsFunc' of taps with the literal of 'wrong' (package rule).
-/
import Derived.Test.YtedmfgcphjcdgaaP1
import Derived.Test.YtedmfgcphjcdgaaR3
namespace Go.Proofs.Ytedmfgcphjcdgaa
open Go.RowKit

end Go.Proofs.Ytedmfgcphjcdgaa
