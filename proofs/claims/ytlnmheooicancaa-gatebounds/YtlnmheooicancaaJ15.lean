/-
  For GateBounds: what each operation of its long condition leaves.
-/
import Derived.Test.YtlnmheooicancaaJ13
import Derived.Test.YtlnmheooicancaaH4
import Derived.Test.YtlnmheooicancaaH6
import Derived.Test.YtlnmheooicancaaK1
namespace Go.Proofs.Ytlnmheooicancaa
open Go.RowKit

def phiB (B b4 b5 bx bg : Nat) (i z s v l u ti m : Int) (o1 : Option Addr) (c1 : Nat) (P : List TP) (od : Option Addr) (cd : Nat) (D : List Int) (x1 : Option Addr) (d1 : Nat) (Pn : List TP) (x2 : Option Addr) (d2 : Nat) (k : Nat) (val : Value) (w : World) : Prop :=
  match k with
  | 0 => val = gtV i z (s + 1) x1 Pn.length d1 v x2 D.length d2 (l - 1) u
  | 1 => val = .int .i64 0
  | 2 => val = .bool false
  | 3 => val = .bool false
  | 4 => val = .int .i64 (l - 1)
  | 5 => val = .bool false
  | 6 => val = .bool false
  | 7 => val = .bool false
  | 8 => val = .pointer (some ⟨b4, 6, none⟩)
  | 9 => val = .pointer (some ⟨b4, 6, none⟩)
  | 10 => val = .int .i64 (l - 1)
  | 11 => val = .int .i64 (l - 1)
  | 12 => val = .bool false
  | 13 => val = .bool false
  | 14 => val = .bool false
  | 15 => val = .pointer (some ⟨b5, 2, none⟩)
  | 16 => val = .int .i64 (s + 1)
  | 17 => val = .pointer (some ⟨bx, 2, none⟩)
  | 18 => val = .int .i64 s
  | 19 => val = .int .i64 (s + 1)
  | 20 => val = .bool false
  | 21 => val = .bool false
  | 22 => val = .bool false
  | 23 => val = .pointer (some ⟨b5, 3, none⟩)
  | 24 => val = .int .i64 m
  | 25 => val = .pointer (some ⟨bg, 6, none⟩)
  | 26 => val = .pointer (some ⟨bg, 7, none⟩)
  | 27 => val = .int .i64 u
  | 28 => val = .bool false
  | 29 => val = .bool false
  | 30 => val = .bool false
  | 31 => val = .pointer (some ⟨b5, 4, none⟩)
  | 32 => val = .int .i64 z
  | 33 => val = .pointer (some ⟨bg, 1, none⟩)
  | 34 => val = .int .i64 z
  | 35 => val = .bool false
  | 36 => val = .bool false
  | 37 => val = .bool false
  | 38 => val = .pointer (some ⟨bg, 4, none⟩)
  | 39 => val = .pointer (some ⟨bg, 5, none⟩)
  | 40 => val = .slice od D.length cd
  | 41 => val = .pointer (some ⟨b5, 0, none⟩)
  | 42 => val = .int .i64 ti
  | 43 => val = .bool false
  | 44 => val = .bool false
  | 45 => val = .bool false
  | 46 => val = .pointer (some ⟨b4, 3, none⟩)
  | 47 => val = .slice x1 Pn.length d1
  | 48 => ∃ g, val = .slice (some ⟨g, 0, none⟩) 0 0 ∧ B ≤ g ∧ w.heap[g]? = some (.cells #[] 35 (0, 0))
  | 49 => val = .pointer (some ⟨bx, 3, none⟩)
  | 50 => val = .slice o1 P.length c1
  | 51 => w.ownsRow B 35 5 val P.length (cellsP P)
  | 52 => val = tp ti i (s + 1) m z
  | 53 => ∃ b, val = .slice (some ⟨b, 0, none⟩) 1 1 ∧ w.heap[b]? = some (.cells #[.int .i64 ti, .int .i64 i, .int .i64 (s + 1), .int .i64 m, .int .i64 z] 35 (0, 0))
  | 54 => w.ownsRow B 35 5 val (P.length + 1) (cellsP (P ++ [(⟨ti, i, s + 1, m, z⟩ : TP)]))
  | 55 => val = .bool true
  | 56 => val = .bool false
  | 57 => val = .bool false
  | _ => True

def spoilB (i k : Nat) : Bool := (i == 51 && k == 48) || (i == 54 && (k == 48 || k == 51 || k == 53))
def reachB (j k : Nat) : Bool := j == 54 && k == 51

section
variable {B b4 b5 bx bg : Nat} {i z s v l u ti m : Int} {o1 : Option Addr} {c1 : Nat} {P : List TP} {od : Option Addr} {cd : Nat} {D : List Int} {x1 : Option Addr} {d1 : Nat} {Pn : List TP} {x2 : Option Addr} {d2 : Nat}

theorem phiB_below (k : Nat) (val : Value) (w w' : World) (h : phiB B b4 b5 bx bg i z s v l u ti m o1 c1 P od cd D x1 d1 Pn x2 d2 k val w) (hb : Below w.heap.size w w') : phiB B b4 b5 bx bg i z s v l u ti m o1 c1 P od cd D x1 d1 Pn x2 d2 k val w' := by
  unfold phiB at h ⊢
  split <;> simp only [] at h
  all_goals first
    | exact h
    | exact ownsRow_below h hb
    | (obtain ⟨g, e, h1, h2⟩ := h; exact ⟨g, e, h1, block_below h2 hb⟩)
    | (obtain ⟨g, e, h2⟩ := h; exact ⟨g, e, block_below h2 hb⟩)

theorem phiB_tap (k : Nat) (val : Value) (w w' : World) (row : Option Nat) (h : phiB B b4 b5 bx bg i z s v l u ti m o1 c1 P od cd D x1 d1 Pn x2 d2 k val w) (hg : w.grownBy w' row)
    (h48 : k ≠ 48) (h51 : k ≠ 51) (h53 : k = 53 → ∀ g, row = some g → w.heap[g]? = some (.cells #[] 35 (0, 0))) (h54 : k ≠ 54) : phiB B b4 b5 bx bg i z s v l u ti m o1 c1 P od cd D x1 d1 Pn x2 d2 k val w' := by
  unfold phiB at h ⊢
  split <;> simp only [] at h
  all_goals first
    | exact h
    | exact absurd rfl h48
    | exact absurd rfl h51
    | exact absurd rfl h54
    | (obtain ⟨b, e, h2⟩ := h
       refine ⟨b, e, block_far h2 hg fun g e' e'' => ?_⟩
       have := h53 rfl g e'
       rw [this] at e''
       cases e'')
end
end Go.Proofs.Ytlnmheooicancaa
