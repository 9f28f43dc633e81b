/-
  The document's answers on taps: 'IsZone', 'CheckTap', 'PlaceOf', 'JudgeOf' (package leeboardref).
-/
import Derived.Test.YtlnmheooicancaaT12
namespace Go.Proofs.Ytlnmheooicancaa
open Go.RowKit

/-- a tap, as the model holds it -/
abbrev tp (a g s m z : Int) : Value := .agg #[.int .i64 a, .int .i64 g, .int .i64 s, .int .i64 m, .int .i64 z]

def isZ (n : Int) : Bool := n == 1 || n == 2 || n == 4 || n == 8

/-- what the check says of a tap -/
def chkP (a g s m z : Int) : Int :=
  if (wi a 1 9999 && wi g 0 2 && wi s 1 99 && wi m 0 9999) = false then 3 else if isZ z = false then 9 else 0

end Go.Proofs.Ytlnmheooicancaa
