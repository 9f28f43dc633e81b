/-
  'with' (package denied): a list with an id more.
-/
import Derived.Test.YtlnmheooicancaaN4
import Derived.Test.YtlnmheooicancaaK4
import Derived.Test.YtlnmheooicancaaH1
namespace Go.Proofs.Ytlnmheooicancaa
open Go.RowKit

theorem dAt_set {w : World} {A : Addr} {p : Addr} {u : Value} {n : Nat} {v : Value} (hne : p.block < A.block) (h : w.cell? (A.add n) = some v) : (w.setCell p u).cell? (A.add n) = some v := by
  rw [World.cell?_setCell_other]
  · exact h
  · intro e
    have : (A.add n).block = A.block := add_block A n
    rw [← e] at this
    omega

theorem IntsV.setD {w : World} {B : Nat} {v : Value} {L : List Int} (h : IntsV w v L) (hf : Fresh B v) {p : Addr} (hp : p.block < B) (u : Value) : IntsV (w.setCell p u) v L := by
  obtain ⟨o, c, rfl, h1, h2⟩ := h
  refine ⟨o, c, rfl, fun i x hi => ?_, h2⟩
  obtain ⟨b, rfl, a0⟩ := h1 i x hi
  have hB : B ≤ b.block := hf _ rfl
  exact ⟨b, rfl, dAt_set (by omega) a0⟩

theorem Fresh.monoD {B C : Nat} {v : Value} (h : Fresh B v) (hc : C ≤ B) : Fresh C v := fun k hk => Nat.le_trans hc (h k hk)

theorem IntsAt.takeD {w : World} {o : Option Addr} {L : List Int} (h : IntsAt w o L) (n : Nat) : IntsAt w o (L.take n) := fun i p hi => by
  rw [List.getElem?_take] at hi
  split at hi
  · exact h i p hi
  · cases hi

theorem dAdd_add (A : Addr) (n m : Nat) : (A.add n).add m = A.add (n + m) := by
  by_cases h1 : n = 0
  · subst h1; simp [Addr.add]
  · by_cases h2 : m = 0
    · subst h2; simp [Addr.add]
    · simp [Addr.add, h1, h2]
      omega

theorem IntsAt.drop {w : World} {A : Addr} {L : List Int} (h : IntsAt w (some A) L) (n c : Nat) (hc : L.length ≤ c) : IntsAt w (if c = n then some A else some (A.add n)) (L.drop n) := fun i p hi => by
  rw [List.getElem?_drop] at hi
  have hlt := (List.getElem?_eq_some_iff.1 hi).1
  rw [if_neg (by omega)]
  obtain ⟨b, hb, h6⟩ := h (n + i) p hi
  cases hb
  refine ⟨_, rfl, ?_⟩
  rw [dAdd_add]
  exact h6

theorem intsAt_single {w : World} {b : Nat} {j : Int} (h : w.cell? ⟨b, 0, none⟩ = some (.int .i64 j)) : IntsAt w (some ⟨b, 0, none⟩) [j] := by
  intro i v hv
  match i, hv with
  | 0, hv =>
    simp at hv
    subst hv
    exact ⟨_, rfl, by simpa [Addr.add] using h⟩
  | i + 1, hv => simp at hv

/-- where an id that is not there would stand -/
def posI (L : List Int) (id : Int) : Nat := L.findIdx fun x => decide (id < x)
/-- ids with one more -/
def addI (L : List Int) (id : Int) : List Int := L.take (posI L id) ++ [id] ++ L.drop (posI L id)

/-- a list that lies behind a value -/
def DenV (w : World) (v : Value) (n : Int) (L : List Int) : Prop := ∃ u, v = .agg #[.int .i64 n, u] ∧ IntsV w u L
theorem DenV.below {w w' : World} {v : Value} {n : Int} {L : List Int} (h : DenV w v n L) (hb : Below w.heap.size w w') : DenV w' v n L := have ⟨u, e, h1⟩ := h; ⟨u, e, h1.below hb⟩

end Go.Proofs.Ytlnmheooicancaa
