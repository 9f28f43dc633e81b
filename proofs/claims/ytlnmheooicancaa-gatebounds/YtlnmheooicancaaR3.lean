/-
  The document's answers on taps: 'CheckJudge' (package leeboardref): taps that lie in memory.
-/
import Derived.Test.YtlnmheooicancaaR2
namespace Go.Proofs.Ytlnmheooicancaa
open Go.RowKit

/-- a tap -/
structure TP where
  a : Int
  g : Int
  s : Int
  m : Int
  z : Int

/-- a tap that lies in memory -/
structure Tap5 (w : World) (b : Addr) (p : TP) : Prop where
  c0 : w.cell? b = some (.int .i64 p.a)
  c1 : w.cell? ⟨b.block, b.off + 1, none⟩ = some (.int .i64 p.g)
  c2 : w.cell? ⟨b.block, b.off + 2, none⟩ = some (.int .i64 p.s)
  c3 : w.cell? ⟨b.block, b.off + 3, none⟩ = some (.int .i64 p.m)
  c4 : w.cell? ⟨b.block, b.off + 4, none⟩ = some (.int .i64 p.z)

theorem Tap5.lt {w : World} {b : Addr} {p : TP} (h : Tap5 w b p) : b.block < w.heap.size := World.block_lt_of_cell? w b h.c0

theorem Tap5.below {B : Nat} {w w' : World} {b : Addr} {p : TP} (h : Tap5 w b p) (hb : Below B w w') (hlt : b.block < B) : Tap5 w' b p :=
  ⟨by rw [hb.cell hlt]; exact h.c0, by rw [hb.cell (p := ⟨b.block, b.off + 1, none⟩) hlt]; exact h.c1, by rw [hb.cell (p := ⟨b.block, b.off + 2, none⟩) hlt]; exact h.c2,
    by rw [hb.cell (p := ⟨b.block, b.off + 3, none⟩) hlt]; exact h.c3, by rw [hb.cell (p := ⟨b.block, b.off + 4, none⟩) hlt]; exact h.c4⟩

/-- taps that lie in memory from an address on -/
def TapsAt (w : World) (o : Option Addr) (L : List TP) : Prop := ∀ i p, L[i]? = some p → ∃ b, o = some b ∧ Tap5 w (b.add (i * 5)) p

theorem TapsAt.below {w w' : World} {o : Option Addr} {L : List TP} (h : TapsAt w o L) (hb : Below w.heap.size w w') : TapsAt w' o L :=
  fun i p hi => have ⟨b, e, h5⟩ := h i p hi; ⟨b, e, h5.below hb h5.lt⟩

def chkT (p : TP) : Int := chkP p.a p.g p.s p.m p.z

def misT (i : Int) (p : TP) : Int := if p.a = i then 0 else 4

/-- the first error among some -/
def firstE : List Int → Int
  | [] => 0
  | e :: l => if e = 0 then firstE l else e

theorem firstE_snoc (l : List Int) (x : Int) : firstE (l ++ [x]) = if firstE l = 0 then x else firstE l := by
  induction l with
  | nil => by_cases h : x = 0 <;> simp [firstE, h]
  | cons e l ih =>
    by_cases h : e = 0
    · simp [firstE, h, ih]
    · simp [firstE, h]

theorem firstE_stop (l k : List Int) (h : firstE l ≠ 0) : firstE (l ++ k) = firstE l := by
  induction l with
  | nil => exact absurd rfl h
  | cons e l ih =>
    by_cases he : e = 0
    · simp [firstE, he] at h ⊢
      exact ih h
    · simp [firstE, he]

theorem firstE_take (E0 : Int) (L : List TP) (f : TP → Int) (q : Nat) (E : Int) (h : E = firstE (E0 :: (L.take q).map f)) (hx : ¬ (q < L.length ∧ E = 0)) : E = firstE (E0 :: L.map f) := by
  by_cases hq : q < L.length
  · have hE : E ≠ 0 := fun e => hx ⟨hq, e⟩
    rw [h] at hE ⊢
    have := firstE_stop _ ((L.drop q).map f) hE
    rw [List.cons_append, ← List.map_append, List.take_append_drop] at this
    exact this.symm
  · rw [h, List.take_of_length_le (by omega)]

theorem firstE_append (l k : List Int) : firstE (l ++ k) = firstE (firstE l :: k) := by
  by_cases h : firstE l = 0
  · rw [h]
    induction l with
    | nil => simp [firstE]
    | cons e l ih =>
      by_cases he : e = 0
      · simp [firstE, he] at h ih ⊢
        exact ih h
      · simp [firstE, he] at h
  · rw [firstE_stop _ _ h]
    simp [firstE, h]

theorem firstE_take' (G : List Int) (L : List TP) (f : TP → Int) (q : Nat) (E : Int) (h : E = firstE (G ++ (L.take q).map f)) (hx : ¬ (q < L.length ∧ E = 0)) : E = firstE (G ++ L.map f) := by
  rw [firstE_append] at h ⊢
  exact firstE_take _ L f q E h hx

/-- what the document's answer says of what is handed to Judge -/
def errJ (i k f t z r rides : Int) (p : TP) (L : List TP) : Int :=
  firstE ([chk i k f t z r, chkT p, if wi rides 0 60 = true then 0 else 3] ++ L.map chkT ++ [misT i p] ++ L.map (misT i))

end Go.Proofs.Ytlnmheooicancaa
