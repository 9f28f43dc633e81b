/-
  The document's answers on taps: 'IsZone', 'CheckTap', 'PlaceOf', 'JudgeOf' (package leeboardref).
-/
import Derived.Test.YtcakfmpckbmdeacT12
namespace Go.Proofs.Ytcakfmpckbmdeac
open Go.RowKit

/-- a tap, as the model holds it -/
abbrev tp (a g s m z : Int) : Value := .agg #[.int .i64 a, .int .i64 g, .int .i64 s, .int .i64 m, .int .i64 z]

def isZ (n : Int) : Bool := n == 1 || n == 2 || n == 4 || n == 8

theorem isZone_any (n : Int) (w : World) :
    Calls Try.prog 69 #[.int .i64 n] w fun e w' => e = .returned (.bool (isZ n)) ∧ w' = w := by
  cases h1 : (n == 1) <;> cases h2 : (n == 2) <;> cases h3 : (n == 4)
  all_goals
    go_enter Try.func69, Try.ntmps69
    go_wp2
    go_ret
    exact ⟨by simp [isZ, *], rfl⟩

/-- what the check says of a tap -/
def chkP (a g s m z : Int) : Int :=
  if (wi a 1 9999 && wi g 0 2 && wi s 1 99 && wi m 0 9999) = false then 3 else if isZ z = false then 9 else 0

set_option maxHeartbeats 1600000 in
theorem checkTap_any (a g s m z : Int) (w : World) :
    Calls Try.prog 70 #[tp a g s m z] w fun e w' => e = .returned (.int .i64 (chkP a g s m z)) ∧ Below w.heap.size w w' := by
  have hpick : wi a 1 9999 = false ∨ (wi a 1 9999 = true ∧ wi g 0 2 = false) ∨ (wi a 1 9999 = true ∧ wi g 0 2 = true ∧ wi s 1 99 = false) ∨ (wi a 1 9999 = true ∧ wi g 0 2 = true ∧ wi s 1 99 = true ∧ wi m 0 9999 = false) ∨
      (wi a 1 9999 = true ∧ wi g 0 2 = true ∧ wi s 1 99 = true ∧ wi m 0 9999 = true ∧ isZ z = false) ∨ (wi a 1 9999 = true ∧ wi g 0 2 = true ∧ wi s 1 99 = true ∧ wi m 0 9999 = true ∧ isZ z = true) := by
    cases wi a 1 9999 <;> cases wi g 0 2 <;> cases wi s 1 99 <;> cases wi m 0 9999 <;> cases isZ z <;> simp
  rcases hpick with h1 | ⟨h1, h2⟩ | ⟨h1, h2, h3⟩ | ⟨h1, h2, h3, h4⟩ | ⟨h1, h2, h3, h4, h5⟩ | ⟨h1, h2, h3, h4, h5⟩
  all_goals
    go_enter Try.func70, Try.ntmps70
    go_wp2_with first | (go_at_call 60; refine (between_any _ _ _ _).mono ?_; rintro e w' ⟨rfl, rfl⟩) | (go_at_call 69; refine (isZone_any _ _).mono ?_; rintro e w' ⟨rfl, rfl⟩)
    go_ret
    exact ⟨by simp [chkP, *], (Below.refl _ _).alloc (Nat.le_refl _) _⟩
end Go.Proofs.Ytcakfmpckbmdeac
