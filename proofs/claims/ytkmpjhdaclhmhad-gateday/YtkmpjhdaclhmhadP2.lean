/-
  What is looked for by a function literal: 'slices.IndexFunc', 'slices.ContainsFunc' of taps with the literal of 'wrong' (package rule).
-/
import Derived.Test.YtkmpjhdaclhmhadP1
import Derived.Test.YtkmpjhdaclhmhadR3
namespace Go.Proofs.Ytkmpjhdaclhmhad
open Go.RowKit

end Go.Proofs.Ytkmpjhdaclhmhad
