/-
  'cmp.Compare', 'place$1', 'slices.BinarySearchFunc', 'place' (package ledger): where a ticket of an id stands, or would.
-/
import Derived.Test.YtlnmheooicancaaR6
namespace Go.Proofs.Ytlnmheooicancaa
open Go.RowKit

def cmpV (a b : Int) : Int := if a < b then -1 else if b < a then 1 else 0

/-- ids rise -/
def Rising (T : List TK) : Prop := ∀ (p q : Nat) (x y : TK), T[p]? = some x → T[q]? = some y → p < q → x.i < y.i

/-- where it stands, or would -/
def posT (T : List TK) (id : Int) : Nat := T.findIdx fun x => decide (id ≤ x.i)
def hasT (T : List TK) (id : Int) : Bool := T.any fun x => x.i == id

theorem posT_of {T : List TK} {id : Int} {n : Nat} (hn : n ≤ T.length) (h1 : ∀ q x, T[q]? = some x → q < n → x.i < id) (h2 : ∀ q x, T[q]? = some x → n ≤ q → id ≤ x.i) : posT T id = n := by
  unfold posT
  rcases Nat.lt_or_ge n T.length with h | h
  · rw [List.findIdx_eq h]
    refine ⟨?_, fun j hj => ?_⟩
    · simpa using h2 n T[n] (by simp [h]) (Nat.le_refl _)
    · have := h1 j (T[j]'(by omega)) (by simp) hj
      simpa using this
  · obtain rfl : n = T.length := by omega
    rw [List.findIdx_eq_length]
    intro x hx
    obtain ⟨j, hj⟩ := List.mem_iff_getElem?.1 hx
    have := h1 j x hj (List.getElem?_eq_some_iff.1 hj).1
    simpa using this

/-- what a place says -/
theorem hasT_at {T : List TK} {id : Int} {n : Nat} {x : TK} (hr : Rising T) (hx : T[n]? = some x) (h1 : ∀ q x, T[q]? = some x → q < n → x.i < id) (h2 : ∀ q x, T[q]? = some x → n ≤ q → id ≤ x.i) : hasT T id = decide (cmpV x.i id = 0) := by
  have h3 := h2 n x hx (Nat.le_refl _)
  have e : (cmpV x.i id = 0) ↔ x.i = id := by
    unfold cmpV
    split
    · omega
    · split <;> omega
  by_cases h : x.i = id
  · rw [decide_eq_true (e.2 h), hasT, List.any_eq_true]
    exact ⟨x, List.mem_of_getElem? hx, by simpa using h⟩
  · rw [decide_eq_false (fun hh => h (e.1 hh)), hasT, List.any_eq_false]
    intro y hy
    obtain ⟨j, hj⟩ := List.mem_iff_getElem?.1 hy
    rcases Nat.lt_trichotomy j n with hjn | rfl | hjn
    · have := h1 j y hj hjn
      simp; omega
    · rw [hx] at hj
      cases hj
      simpa using h
    · have := hr n j x y hx hj hjn
      simp; omega

theorem hasT_none {T : List TK} {id : Int} (h1 : ∀ q x, T[q]? = some x → q < T.length → x.i < id) : hasT T id = false := by
  rw [hasT, List.any_eq_false]
  intro y hy
  obtain ⟨j, hj⟩ := List.mem_iff_getElem?.1 hy
  have := h1 j y hj (List.getElem?_eq_some_iff.1 hj).1
  simp; omega

end Go.Proofs.Ytlnmheooicancaa
