/-
  The rule's own checks: 'inRange', 'oneZone', 'Check', 'shut', 'spent' (package rule).
-/
import Derived.Test.YtcakfmpckbmdeafR2
namespace Go.Proofs.Ytcakfmpckbmdeaf
open Go.RowKit

def inP (a g s m : Int) : Bool := wi a 1 9999 && wi g 0 2 && wi s 1 99 && wi m 0 9999

def spent (k r rides : Int) : Bool := decide ((k = 1 ∧ 0 < rides) ∨ (k = 3 ∧ r ≤ rides))

theorem and_zone (z zone : Int) (hz : 0 ≤ z) (hz2 : z ≤ 15) (hzone : isZ zone = true) : (bits BinOp.and IntKind.i64 z zone == 0) = decide (z / zone % 2 = 0) := by
  have hq : zone = 1 ∨ zone = 2 ∨ zone = 4 ∨ zone = 8 := by simpa [isZ, or_assoc] using hzone
  obtain ⟨n, rfl⟩ := Int.eq_ofNat_of_zero_le hz
  have hn : n < 16 := by omega
  have key : ∀ n : Fin 16, ∀ q ∈ [(1 : Int), 2, 4, 8], (bits BinOp.and IntKind.i64 (n.val : Int) q == 0) = decide (((n.val : Int)) / q % 2 = 0) := by decide +kernel
  exact key ⟨n, hn⟩ zone (by simpa using hq)

end Go.Proofs.Ytcakfmpckbmdeaf
