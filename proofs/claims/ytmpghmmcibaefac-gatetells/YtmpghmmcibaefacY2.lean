/-
  'TapOf' (package leeboardref): errors, and up to the end of its switch.
-/
import Derived.Test.YtmpghmmcibaefacJ6
import Derived.Test.YtmpghmmcibaefacN11
import Derived.BigQuiet
import Derived.Deep.CutRange
import Derived.Deep.CutBlock
namespace Go.Proofs.Ytmpghmmcibaefac
open Go.RowKit

theorem hasA_snoc (L : List TP) (p : TP) (id : Int) : hasA (L ++ [p]) id = (hasA L id || p.a == id) := by
  simp [hasA]

theorem earlyG_ways (P : List TP) (m : Int) : (P.length = 0 ∧ earlyG P m = false) ∨ (∃ n x, P.length = n + 1 ∧ P[n]? = some x ∧ ((decide (m < x.m) = true ∧ earlyG P m = true) ∨ (decide (m < x.m) = false ∧ earlyG P m = false))) := by
  rcases hn : P.length with _ | n
  · left
    have hL0 : P = [] := List.eq_nil_of_length_eq_zero hn
    subst hL0
    exact ⟨rfl, rfl⟩
  · right
    obtain ⟨x, hx⟩ : ∃ x, P[n]? = some x := ⟨P[n]'(by omega), by simp [hn]⟩
    have hQ : earlyG P m = decide (m < x.m) := by rw [earlyG, List.getLast?_eq_getElem?, hn, Nat.add_sub_cancel, hx]
    refine ⟨n, x, rfl, hx, ?_⟩
    rw [hQ]
    cases decide (m < x.m) <;> simp

/-- the ways of TapOf, of a gate and a ticket that are right -/
theorem tapOf_ways {i z s : Int} {P : List TP} {v : Int} {D : List Int} {l u : Int} {x : TK} (m : Int) (h1 : chkG i z s P v D l u = 0) (h2 : chkK x = 0) :
    (wi m 0 9999 = false ∧ tapG i z s P v D l u x m = 3) ∨ (wi m 0 9999 = true ∧ ((earlyG P m = true ∧ tapG i z s P v D l u x m = 4) ∨ (earlyG P m = false ∧
      ((hasI D x.i = true ∧ tapG i z s P v D l u x m = 11) ∨ (hasI D x.i = false ∧
        ((decide (u < m) = true ∧ tapG i z s P v D l u x m = 8) ∨ (decide (u < m) = false ∧ wi m x.f x.t = false ∧ tapG i z s P v D l u x m = 8) ∨ (decide (u < m) = false ∧ wi m x.f x.t = true ∧
          ((x.z / z % 2 = 0 ∧ tapG i z s P v D l u x m = 9) ∨ (¬ x.z / z % 2 = 0 ∧
            (((l == 0) = true ∧ tapG i z s P v D l u x m = 10) ∨ ((l == 0) = false ∧ (x.k != 2) = true ∧ hasA P x.i = true ∧ tapG i z s P v D l u x m = 10) ∨ ((l == 0) = false ∧ ((x.k != 2) = false ∨ ((x.k != 2) = true ∧ hasA P x.i = false)) ∧
              ((((P.length : Int) == 12) = true ∧ tapG i z s P v D l u x m = 2) ∨ (((P.length : Int) == 12) = false ∧ (s == 99) = true ∧ tapG i z s P v D l u x m = 2) ∨ (((P.length : Int) == 12) = false ∧ (s == 99) = false ∧ tapG i z s P v D l u x m = 0))))))))))))) := by
  have hT : tapG i z s P v D l u x m = if (if wi m 0 9999 = true then (if earlyG P m = true then (4 : Int) else 0) else 3) = 0 then (if shutG D u z x m = 0 then (if spentG P l x = true then 10 else if fullG P.length s = true then 2 else 0) else shutG D u z x m) else (if wi m 0 9999 = true then (if earlyG P m = true then 4 else 0) else 3) := by
    unfold tapG unfG
    rw [if_pos h1, if_pos h2]
  cases a1 : wi m 0 9999
  · left
    exact ⟨rfl, by rw [hT, a1]; rfl⟩
  right
  refine ⟨rfl, ?_⟩
  rw [a1] at hT
  cases a2 : earlyG P m
  · right
    refine ⟨rfl, ?_⟩
    rw [a2] at hT
    simp only [if_true, Bool.false_eq_true, if_false] at hT
    unfold shutG at hT
    cases a3 : hasI D x.i
    · right
      refine ⟨rfl, ?_⟩
      rw [a3] at hT
      simp only [Bool.false_eq_true, if_false] at hT
      by_cases a4 : u < m
      · left
        refine ⟨by simpa using a4, ?_⟩
        rw [hT]
        cases wi m x.f x.t <;> simp [a4]
      · right
        cases a5 : wi m x.f x.t
        · left
          exact ⟨by simpa using a4, rfl, by rw [hT, a5]; rfl⟩
        · right
          refine ⟨by simpa using a4, rfl, ?_⟩
          rw [a5] at hT
          simp only [Bool.true_eq_false, if_false, a4] at hT
          by_cases a6 : x.z / z % 2 = 0
          · left
            exact ⟨a6, by rw [hT]; simp [a6]⟩
          · right
            refine ⟨a6, ?_⟩
            simp only [a6, if_false, if_true] at hT
            unfold spentG fullG at hT
            cases b1 : (l == 0)
            · right
              rw [b1] at hT
              have hfin : (if (((P.length : Int) == 12) || (s == 99)) = true then (2 : Int) else 0) = tapG i z s P v D l u x m → ((((P.length : Int) == 12) = true ∧ tapG i z s P v D l u x m = 2) ∨ (((P.length : Int) == 12) = false ∧ (s == 99) = true ∧ tapG i z s P v D l u x m = 2) ∨ (((P.length : Int) == 12) = false ∧ (s == 99) = false ∧ tapG i z s P v D l u x m = 0)) := by
                intro h
                rw [← h]
                cases ((P.length : Int) == 12)
                · cases (s == 99) <;> simp
                · simp
              cases b2 : (x.k != 2)
              · right
                rw [b2] at hT
                exact ⟨rfl, Or.inl rfl, hfin (by rw [hT]; simp)⟩
              · cases b3 : hasA P x.i
                · right
                  rw [b2, b3] at hT
                  exact ⟨rfl, Or.inr ⟨rfl, rfl⟩, hfin (by rw [hT]; simp)⟩
                · left
                  rw [b2, b3] at hT
                  exact ⟨rfl, rfl, rfl, by rw [hT]; simp⟩
            · left
              rw [b1] at hT
              exact ⟨rfl, by rw [hT]; simp⟩
    · left
      rw [a3] at hT
      exact ⟨rfl, by rw [hT]; simp⟩
  · left
    rw [a2] at hT
    exact ⟨rfl, by rw [hT]; simp⟩

end Go.Proofs.Ytmpghmmcibaefac
