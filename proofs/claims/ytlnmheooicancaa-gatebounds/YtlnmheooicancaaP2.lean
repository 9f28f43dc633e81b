/-
  What is looked for by a function literal: 'slices.IndexFunc', 'slices.ContainsFunc' of taps with the literal of 'wrong' (package rule).
-/
import Derived.Test.YtlnmheooicancaaP1
import Derived.Test.YtlnmheooicancaaR3
namespace Go.Proofs.Ytlnmheooicancaa
open Go.RowKit

end Go.Proofs.Ytlnmheooicancaa
