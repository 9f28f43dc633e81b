/-
  The walk of RuleTells.
-/
import Derived.Test.YtcakfmpckbmdeaeP5
import Derived.Lib.QuietBelow
import Derived.BigQuiet
namespace Go.Proofs.Ytcakfmpckbmdeae
open Go.RowKit

/-- the two boxes of a law that takes a ticket and a tap -/
def Boxes2 (w w1 : World) (x : TK) (p : TP) : Prop := Tik6 w1 ⟨w.heap.size, 0, none⟩ x ∧ Tap5 w1 ⟨w.heap.size + 1, 0, none⟩ p ∧ w.heap.size + 1 < w1.heap.size ∧ Below w.heap.size w w1

theorem boxes2_of (i k f t z r a g s m zone : Int) (T1 T2 : TypeId) (w w1 : World) (h : Below ((w.alloc (cK i k f t z r T1)).alloc (cP a g s m zone T2)).heap.size ((w.alloc (cK i k f t z r T1)).alloc (cP a g s m zone T2)) w1) :
    Boxes2 w w1 ⟨i, k, f, t, z, r⟩ ⟨a, g, s, m, zone⟩ := by
  have s1 := h.size
  simp at s1
  refine ⟨Tik6.below (w := (w.alloc (cK i k f t z r T1)).alloc (cP a g s m zone T2)) ⟨?_, ?_, ?_, ?_, ?_, ?_⟩ h (by simp; omega), Tap5.below (w := (w.alloc (cK i k f t z r T1)).alloc (cP a g s m zone T2)) ⟨?_, ?_, ?_, ?_, ?_⟩ h (by simp), by omega,
    Below.trans (((Below.refl _ _).alloc (Nat.le_refl _) _).alloc (by simp) _) (h.mono (by simp; omega))⟩
  all_goals simp [go_sem]

theorem Boxes2.on {w w1 w2 : World} {x : TK} {p : TP} (h : Boxes2 w w1 x p) (hb : Below w1.heap.size w1 w2) : Boxes2 w w2 x p :=
  ⟨h.1.below hb h.1.lt, h.2.1.below hb h.2.1.lt, Nat.lt_of_lt_of_le h.2.2.1 hb.size, h.2.2.2.trans (hb.mono h.2.2.2.size)⟩

end Go.Proofs.Ytcakfmpckbmdeae
