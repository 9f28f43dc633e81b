/-
  'SameInts' (package leeboardref), of the same ones.
-/
import Derived.Test.YtlnmheooicancaaR5
namespace Go.Proofs.Ytlnmheooicancaa
open Go.RowKit

end Go.Proofs.Ytlnmheooicancaa
