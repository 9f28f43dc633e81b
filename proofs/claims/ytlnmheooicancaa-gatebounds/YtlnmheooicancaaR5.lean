/-
  The document's answers on ledgers: 'ManyOf' (package leeboardref).
-/
import Derived.Test.YtlnmheooicancaaR4
namespace Go.Proofs.Ytlnmheooicancaa
open Go.RowKit

/-- integers that lie in memory from an address on -/
def IntsAt (w : World) (o : Option Addr) (L : List Int) : Prop := ∀ (i : Nat) (v : Int), L[i]? = some v → ∃ b, o = some b ∧ w.cell? (b.add i) = some (.int .i64 v)

theorem IntsAt.below {w w' : World} {o : Option Addr} {L : List Int} (h : IntsAt w o L) (hb : Below w.heap.size w w') : IntsAt w' o L :=
  fun i v hi => have ⟨b, e, h1⟩ := h i v hi; ⟨b, e, by rw [hb.cell (World.block_lt_of_cell? w _ h1)]; exact h1⟩

/-- a ledger, as the model holds it -/
abbrev lg (o1 o2 o3 : Option Addr) (n1 c1 n2 c2 n3 c3 : Nat) : Value := .agg #[.slice o1 n1 c1, .slice o2 n2 c2, .slice o3 n3 c3]

/-- rides of a ticket: how many, and when the last one was -/
def many (L : List (TP × Int)) (id : Int) : Int × Int := L.foldl (fun s x => if x.1.a = id ∧ x.2 = 1 then (s.1 + 1, x.1.m) else s) (0, -1)

theorem many_snoc (L : List (TP × Int)) (x : TP × Int) (id : Int) : many (L ++ [x]) id = if x.1.a = id ∧ x.2 = 1 then ((many L id).1 + 1, x.1.m) else many L id := by
  simp [many, List.foldl_append]

theorem many_from (L : List (TP × Int)) (id : Int) : ∀ s : Int × Int, s.1 ≤ (L.foldl (fun s x => if x.1.a = id ∧ x.2 = 1 then (s.1 + 1, x.1.m) else s) s).1 ∧
    (L.foldl (fun s x => if x.1.a = id ∧ x.2 = 1 then (s.1 + 1, x.1.m) else s) s).1 ≤ s.1 + L.length := by
  induction L with
  | nil => intro s; simp
  | cons x L ih =>
    intro s
    rw [List.foldl_cons, List.length_cons]
    split
    · have h := ih (s.1 + 1, x.1.m)
      simp only at h
      omega
    · have h := ih s
      omega

theorem many_bound (L : List (TP × Int)) (id : Int) : 0 ≤ (many L id).1 ∧ (many L id).1 ≤ L.length := by
  have h := many_from L id (0, -1)
  simp only [Int.zero_add] at h
  exact h

end Go.Proofs.Ytlnmheooicancaa
