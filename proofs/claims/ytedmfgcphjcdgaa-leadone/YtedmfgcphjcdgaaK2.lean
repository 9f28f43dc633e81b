/-
  'slices.Clone' of taps, tickets and integers.
-/
import Derived.Test.YtedmfgcphjcdgaaK1
import Derived.Laws.AppendOwnNone
import Derived.Lib.SliceRun
namespace Go.Proofs.Ytedmfgcphjcdgaa
open Go.RowKit

/-- a slice that lies in a block from B on, if it lies in one -/
def Fresh (B : Nat) (v : Value) : Prop := ∀ k, v.ownBlock = some k → B ≤ k

end Go.Proofs.Ytedmfgcphjcdgaa
