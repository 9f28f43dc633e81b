/-
  'slices.Clone' of taps, tickets and integers.
-/
import Derived.Test.YtcakfmpckbmdeafK1
import Derived.Laws.AppendOwnNone
import Derived.Lib.SliceRun
namespace Go.Proofs.Ytcakfmpckbmdeaf
open Go.RowKit

/-- a slice that lies in a block from B on, if it lies in one -/
def Fresh (B : Nat) (v : Value) : Prop := ∀ k, v.ownBlock = some k → B ≤ k

end Go.Proofs.Ytcakfmpckbmdeaf
