/-
  The document's answers on taps: 'PlaceOf', 'JudgeOf' (package leeboardref).
-/
import Derived.Test.YtlnmheooicancaaR1
namespace Go.Proofs.Ytlnmheooicancaa
open Go.RowKit

/-- a ticket's time and zones -/
def place (f t z m zone : Int) : Int := if wi m f t = false then 8 else if z / zone % 2 = 0 then 9 else 0

/-- a verdict, and an error; last: when the last ride was, below 0: there is none -/
def judge (k f t z r last rides m zone : Int) : Int × Int :=
  if place f t z m zone ≠ 0 then (3, place f t z m zone)
  else if 0 ≤ last ∧ last ≤ m ∧ m < last + 60 then (2, 0)
  else if (k = 1 ∧ 0 < rides) ∨ (k = 3 ∧ r ≤ rides) then (3, 10) else (1, 0)

end Go.Proofs.Ytlnmheooicancaa
