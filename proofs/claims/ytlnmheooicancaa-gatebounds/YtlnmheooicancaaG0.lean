/-
  Blocks that a call has made, and that stay as they were made.
-/
import Derived.Test.YtlnmheooicancaaT1
namespace Go.Proofs.Ytlnmheooicancaa
open Go.RowKit

/-- the blocks that were made first, from w on, are these -/
def Blks (w w1 : World) (os : List Obj) : Prop :=
  (∀ i o, os[i]? = some o → w1.heap[w.heap.size + i]? = some o) ∧ w.heap.size + os.length ≤ w1.heap.size ∧ Below w.heap.size w w1

theorem Blks.nil (w : World) : Blks w w [] := ⟨fun i o h => by simp at h, by simp, Below.refl _ _⟩

theorem Blks.on {w w1 w2 : World} {os : List Obj} (h : Blks w w1 os) (hb : Below w1.heap.size w1 w2) : Blks w w2 os := by
  refine ⟨fun i o hi => ?_, Nat.le_trans h.2.1 hb.size, h.2.2.trans (hb.mono h.2.2.size)⟩
  have h1 := h.1 i o hi
  have hlt : w.heap.size + i < w1.heap.size := by
    have := (List.getElem?_eq_some_iff.1 hi).1
    have := h.2.1
    omega
  rw [hb.block _ hlt]
  exact h1

theorem Blks.more {w w1 : World} {os : List Obj} (h : Blks w w1 os) (o : Obj) (he : w1.heap.size = w.heap.size + os.length) : Blks w (w1.alloc o) (os ++ [o]) := by
  refine ⟨fun i x hi => ?_, by simp; omega, h.2.2.alloc h.2.2.size _⟩
  rcases Nat.lt_or_ge i os.length with hlt | hge
  · rw [List.getElem?_append_left hlt] at hi
    have h1 := h.1 i x hi
    rw [((Below.refl w1.heap.size w1).alloc (Nat.le_refl _) o).block _ (by omega)]
    exact h1
  · rw [List.getElem?_append_right hge] at hi
    have h0 : i - os.length = 0 := by
      have := (List.getElem?_eq_some_iff.1 hi).1
      simp at this
      omega
    rw [h0] at hi
    simp at hi
    subst hi
    rw [show w.heap.size + i = w1.heap.size by omega]
    exact heap_alloc_new w1 o

theorem Blks.cell {w w1 : World} {os : List Obj} (h : Blks w w1 os) (i j b : Nat) (vs : Array Value) (T : TypeId) (v : Value) (hi : os[i]? = some (.cells vs T)) (hb : b = w.heap.size + i) (hj : vs[j]? = some v) :
    w1.cell? ⟨b, j, none⟩ = some v := by
  subst hb
  rw [cell_of_row _ _ j _ _ _ (h.1 i _ hi)]
  exact hj

theorem Blks.frozen {w w1 : World} {os : List Obj} (h : Blks w w1 os) (i j b : Nat) (vs : Array Value) (T : TypeId) (hi : os[i]? = some (.cells vs T)) (hb : b = w.heap.size + i) :
    w1.frozen? ⟨b, j, none⟩ = false := by
  subst hb
  exact frozen_of_row _ _ j _ _ (h.1 i _ hi)

theorem Blks.keep {w w1 w2 : World} {os : List Obj} (h : Blks w w1 os) (hb : Below (w.heap.size + os.length) w1 w2) : Blks w w2 os := by
  refine ⟨fun i o hi => ?_, Nat.le_trans h.2.1 hb.size, h.2.2.trans (hb.mono (Nat.le_add_right _ _))⟩
  have hlt := (List.getElem?_eq_some_iff.1 hi).1
  rw [hb.block _ (by omega)]
  exact h.1 i o hi

theorem Blks.set {w w1 : World} {os : List Obj} (h : Blks w w1 os) (p : Addr) (hp : w.heap.size + os.length ≤ p.block) (u : Value) : Blks w (w1.setCell p u) os :=
  h.keep (Below.setCell (Below.refl _ _) hp u)

theorem Blks.sub {w w1 : World} {os more : List Obj} (h : Blks w w1 (os ++ more)) : Blks w w1 os :=
  ⟨fun i o hi => h.1 i o (by rw [List.getElem?_append_left (List.getElem?_eq_some_iff.1 hi).1]; exact hi), by have := h.2.1; rw [List.length_append] at this; omega, h.2.2⟩

theorem Blks.lt {w w1 : World} {os : List Obj} (h : Blks w w1 os) (i b : Nat) (hi : i < os.length) (hb : b = w.heap.size + i) : b < w1.heap.size := by
  have := h.2.1
  omega

theorem Blks.put {w w1 : World} {os : List Obj} (h : Blks w w1 os) (i j b : Nat) (vs : Array Value) (T : TypeId) (u : Value) (hi : os[i]? = some (.cells vs T)) (hb : b = w.heap.size + i) :
    Blks w (w1.setCell ⟨b, j, none⟩ u) (os.set i (.cells (vs.setIfInBounds j u) T)) := by
  subst hb
  refine ⟨fun n o hn => ?_, by rw [List.length_set, World.size_setCell]; exact h.2.1, h.2.2.setCell (p := ⟨w.heap.size + i, j, none⟩) (by simp) u⟩
  rw [List.getElem?_set] at hn
  by_cases hin : i = n
  · subst hin
    have hlt := (List.getElem?_eq_some_iff.1 hi).1
    rw [if_pos rfl, if_pos hlt] at hn
    cases hn
    exact heap_setCell_same w1 _ j vs T u (h.1 i _ hi)
  · rw [if_neg hin] at hn
    rw [heap_setCell_other w1 _ _ _ (by simp; omega)]
    exact h.1 n o hn

end Go.Proofs.Ytlnmheooicancaa
