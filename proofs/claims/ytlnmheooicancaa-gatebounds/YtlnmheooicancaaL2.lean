/-
  'unfit', 'early' (package ledger), with what looks for a tap of the same gate and Seq.
-/
import Derived.Test.YtlnmheooicancaaL1
import Derived.Test.YtlnmheooicancaaP4
namespace Go.Proofs.Ytlnmheooicancaa
open Go.RowKit

abbrev cL (o1 o2 o3 : Option Addr) (n1 c1 n2 c2 n3 c3 : Nat) (T : TypeId) : Obj := .cells #[.slice o1 n1 c1, .slice o2 n2 c2, .slice o3 n3 c3] T

/-- a ledger that lies in memory -/
structure Led3 (w : World) (b : Nat) (o1 o2 o3 : Option Addr) (n1 c1 n2 c2 n3 c3 : Nat) : Prop where
  c0 : w.cell? ⟨b, 0, none⟩ = some (.slice o1 n1 c1)
  c1 : w.cell? ⟨b, 1, none⟩ = some (.slice o2 n2 c2)
  c2 : w.cell? ⟨b, 2, none⟩ = some (.slice o3 n3 c3)

theorem Led3.lt {w : World} {b : Nat} {o1 o2 o3 : Option Addr} {n1 c1 n2 c2 n3 c3 : Nat} (h : Led3 w b o1 o2 o3 n1 c1 n2 c2 n3 c3) : b < w.heap.size := World.block_lt_of_cell? w ⟨b, 0, none⟩ h.c0
theorem Led3.below {B : Nat} {w w' : World} {b : Nat} {o1 o2 o3 : Option Addr} {n1 c1 n2 c2 n3 c3 : Nat} (h : Led3 w b o1 o2 o3 n1 c1 n2 c2 n3 c3) (hb : Below B w w') (hlt : b < B) : Led3 w' b o1 o2 o3 n1 c1 n2 c2 n3 c3 :=
  ⟨by rw [hb.cell (p := ⟨b, 0, none⟩) hlt]; exact h.c0, by rw [hb.cell (p := ⟨b, 1, none⟩) hlt]; exact h.c1, by rw [hb.cell (p := ⟨b, 2, none⟩) hlt]; exact h.c2⟩

/-- the two boxes of a method of a book that takes a tap -/
def BoxesB (w w1 : World) (o1 o2 o3 : Option Addr) (n1 c1 n2 c2 n3 c3 : Nat) (p : TP) : Prop :=
  Led3 w1 w.heap.size o1 o2 o3 n1 c1 n2 c2 n3 c3 ∧ Tap5 w1 ⟨w.heap.size + 1, 0, none⟩ p ∧ w.heap.size + 1 < w1.heap.size ∧ Below w.heap.size w w1

theorem boxesB_of (o1 o2 o3 : Option Addr) (n1 c1 n2 c2 n3 c3 : Nat) (a g s m zone : Int) (T1 T2 : TypeId) (w w1 : World) (h : Below ((w.alloc (cL o1 o2 o3 n1 c1 n2 c2 n3 c3 T1)).alloc (cP a g s m zone T2)).heap.size ((w.alloc (cL o1 o2 o3 n1 c1 n2 c2 n3 c3 T1)).alloc (cP a g s m zone T2)) w1) :
    BoxesB w w1 o1 o2 o3 n1 c1 n2 c2 n3 c3 ⟨a, g, s, m, zone⟩ := by
  have s1 := h.size
  simp at s1
  refine ⟨Led3.below (w := (w.alloc (cL o1 o2 o3 n1 c1 n2 c2 n3 c3 T1)).alloc (cP a g s m zone T2)) ⟨?_, ?_, ?_⟩ h (by simp; omega), Tap5.below (w := (w.alloc (cL o1 o2 o3 n1 c1 n2 c2 n3 c3 T1)).alloc (cP a g s m zone T2)) ⟨?_, ?_, ?_, ?_, ?_⟩ h (by simp), by omega,
    Below.trans (((Below.refl _ _).alloc (Nat.le_refl _) _).alloc (by simp) _) (h.mono (by simp; omega))⟩
  all_goals simp [go_sem]

theorem BoxesB.on {w w1 w2 : World} {o1 o2 o3 : Option Addr} {n1 c1 n2 c2 n3 c3 : Nat} {p : TP} (h : BoxesB w w1 o1 o2 o3 n1 c1 n2 c2 n3 c3 p) (hb : Below w1.heap.size w1 w2) : BoxesB w w2 o1 o2 o3 n1 c1 n2 c2 n3 c3 p :=
  ⟨h.1.below hb h.1.lt, h.2.1.below hb h.2.1.lt, Nat.lt_of_lt_of_le h.2.2.1 hb.size, h.2.2.2.trans (hb.mono h.2.2.2.size)⟩

/-- why a tap can't be one that comes next -/
def unf (T : List TK) (P : List TP) (p : TP) : Int := firstE [chkT p, if hasT T p.a = true then 0 else 5, if twiceT P p = true then 6 else 0]

/-- less in time than the last one -/
def earlyB (P : List TP) (m : Int) : Bool := match P.getLast? with
  | none => false
  | some p => decide (m < p.m)

end Go.Proofs.Ytlnmheooicancaa
