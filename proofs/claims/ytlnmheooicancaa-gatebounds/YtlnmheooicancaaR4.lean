/-
  The document's answers on ledgers: 'TicketAt', 'isTwice' (package leeboardref).
-/
import Derived.Test.YtlnmheooicancaaR3
namespace Go.Proofs.Ytlnmheooicancaa
open Go.RowKit

/-- a ticket -/
structure TK where
  i : Int
  k : Int
  f : Int
  t : Int
  z : Int
  r : Int

/-- a ticket that lies in memory -/
structure Tik6 (w : World) (b : Addr) (p : TK) : Prop where
  c0 : w.cell? b = some (.int .i64 p.i)
  c1 : w.cell? ⟨b.block, b.off + 1, none⟩ = some (.int .i64 p.k)
  c2 : w.cell? ⟨b.block, b.off + 2, none⟩ = some (.int .i64 p.f)
  c3 : w.cell? ⟨b.block, b.off + 3, none⟩ = some (.int .i64 p.t)
  c4 : w.cell? ⟨b.block, b.off + 4, none⟩ = some (.int .i64 p.z)
  c5 : w.cell? ⟨b.block, b.off + 5, none⟩ = some (.int .i64 p.r)

theorem Tik6.lt {w : World} {b : Addr} {p : TK} (h : Tik6 w b p) : b.block < w.heap.size := World.block_lt_of_cell? w b h.c0

theorem Tik6.below {B : Nat} {w w' : World} {b : Addr} {p : TK} (h : Tik6 w b p) (hb : Below B w w') (hlt : b.block < B) : Tik6 w' b p :=
  ⟨by rw [hb.cell hlt]; exact h.c0, by rw [hb.cell (p := ⟨b.block, b.off + 1, none⟩) hlt]; exact h.c1, by rw [hb.cell (p := ⟨b.block, b.off + 2, none⟩) hlt]; exact h.c2,
    by rw [hb.cell (p := ⟨b.block, b.off + 3, none⟩) hlt]; exact h.c3, by rw [hb.cell (p := ⟨b.block, b.off + 4, none⟩) hlt]; exact h.c4,
    by rw [hb.cell (p := ⟨b.block, b.off + 5, none⟩) hlt]; exact h.c5⟩

/-- tickets that lie in memory from an address on -/
def TiksAt (w : World) (o : Option Addr) (L : List TK) : Prop := ∀ i p, L[i]? = some p → ∃ b, o = some b ∧ Tik6 w (b.add (i * 6)) p

theorem TiksAt.below {w w' : World} {o : Option Addr} {L : List TK} (h : TiksAt w o L) (hb : Below w.heap.size w w') : TiksAt w' o L :=
  fun i p hi => have ⟨b, e, h5⟩ := h i p hi; ⟨b, e, h5.below hb h5.lt⟩

/-- the place of a ticket; -1: it is not there -/
def idxT (L : List TK) (id : Int) : Int := match L.findIdx? (fun p => p.i == id) with
  | some n => n
  | none => -1

theorem idxT_some {L : List TK} {id : Int} {q : Nat} {p : TK} (h : L[q]? = some p) (hp : p.i = id) (hno : ∀ j, j < q → ∀ p, L[j]? = some p → p.i ≠ id) : idxT L id = q := by
  obtain ⟨hq, he⟩ := List.getElem?_eq_some_iff.1 h
  have : L.findIdx? (fun p => p.i == id) = some q := by
    rw [List.findIdx?_eq_some_iff_getElem]
    refine ⟨hq, by rw [he]; simpa using hp, fun j hj => ?_⟩
    have := hno j hj L[j] (by simp)
    simpa using this
  rw [idxT, this]

theorem idxT_none {L : List TK} {id : Int} (hno : ∀ (j : Nat) (p : TK), L[j]? = some p → p.i ≠ id) : idxT L id = -1 := by
  have : L.findIdx? (fun p => p.i == id) = none := by
    rw [List.findIdx?_eq_none_iff]
    intro p hp
    obtain ⟨j, hj⟩ := List.mem_iff_getElem?.1 hp
    simpa using hno j p hj
  rw [idxT, this]

/-- has one of some taps a tap's gate and number? -/
def twiceT (L : List TP) (p : TP) : Bool := L.any fun x => x.g == p.g && x.s == p.s

end Go.Proofs.Ytlnmheooicancaa
