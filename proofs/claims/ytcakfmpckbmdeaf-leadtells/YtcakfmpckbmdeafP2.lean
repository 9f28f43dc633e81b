/-
  What is looked for by a function literal: 'slices.IndexFunc', 'slices.ContainsFunc' of taps with the literal of 'wrong' (package rule).
-/
import Derived.Test.YtcakfmpckbmdeafP1
import Derived.Test.YtcakfmpckbmdeafR3
namespace Go.Proofs.Ytcakfmpckbmdeaf
open Go.RowKit

end Go.Proofs.Ytcakfmpckbmdeaf
