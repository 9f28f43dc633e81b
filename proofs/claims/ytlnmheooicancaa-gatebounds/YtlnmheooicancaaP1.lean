/-
  The rule's own checks: 'inRange', 'oneZone', 'Check', 'shut', 'spent' (package rule).
-/
import Derived.Test.YtlnmheooicancaaR2
namespace Go.Proofs.Ytlnmheooicancaa
open Go.RowKit

theorem oneZone_any (n : Int) (w : World) :
    Calls Try.prog 27 #[.int .i64 n] w fun e w' => e = .returned (.bool (isZ n)) ∧ w' = w := by
  cases h1 : (n == 1) <;> cases h2 : (n == 2) <;> cases h3 : (n == 4) <;> cases h4 : (n == 8)
  all_goals
    go_enter Try.func27, Try.ntmps27
    go_wp2
    go_ret
    exact ⟨by simp [isZ, *], rfl⟩

def inP (a g s m : Int) : Bool := wi a 1 9999 && wi g 0 2 && wi s 1 99 && wi m 0 9999

theorem inRangeP_any (a g s m z : Int) (w : World) :
    Calls Try.prog 39 #[tp a g s m z] w fun e w' => e = .returned (.bool (inP a g s m)) ∧ Below w.heap.size w w' := by
  cases h1 : wi a 1 9999 <;> cases h2 : wi g 0 2 <;> cases h3 : wi s 1 99
  all_goals
    go_enter Try.func39, Try.ntmps39
    go_wp2_with first | (go_at_call 26; refine (within_any _ _ _ _).mono ?_; rintro e w' ⟨rfl, rfl⟩) | (go_at_call 23; refine (isTime_any _ _).mono ?_; rintro e w' ⟨rfl, rfl⟩)
    go_ret
    exact ⟨by simp [inP, *], (Below.refl _ _).alloc (Nat.le_refl _) _⟩

theorem checkP_any (a g s m z : Int) (w : World) :
    Calls Try.prog 28 #[tp a g s m z] w fun e w' => e = .returned (.int .i64 (chkP a g s m z)) ∧ Below w.heap.size w w' := by
  generalize hC : chkP a g s m z = C
  have hc : (inP a g s m = false ∧ C = 3) ∨ (inP a g s m = true ∧ isZ z = false ∧ C = 9) ∨ (inP a g s m = true ∧ isZ z = true ∧ C = 0) := by
    rw [← hC]
    rw [chkP, show (wi a 1 9999 && wi g 0 2 && wi s 1 99 && wi m 0 9999) = inP a g s m from rfl]
    cases inP a g s m <;> cases isZ z <;> simp
  clear hC
  rcases hc with ⟨h1, rfl⟩ | ⟨h1, h2, rfl⟩ | ⟨h1, h2, rfl⟩
  · go_enter Try.func28, Try.ntmps28
    go_wp2_with fail
    refine (inRangeP_any _ _ _ _ _ _).mono ?_
    rintro e w1 ⟨rfl, hb⟩
    obtain ⟨hc, hf⟩ := bcell hb
    go_wp2_with fail
    go_ret
    exact ⟨rfl, ((Below.refl _ _).alloc (Nat.le_refl _) _).trans (hb.mono (by simp))⟩
  all_goals
    go_enter Try.func28, Try.ntmps28
    go_wp2_with fail
    refine (inRangeP_any _ _ _ _ _ _).mono ?_
    rintro e w1 ⟨rfl, hb⟩
    obtain ⟨hc, hf⟩ := bcell hb
    go_wp2_with fail
    refine (oneZone_any _ _).mono ?_
    rintro e w2 ⟨rfl, rfl⟩
    go_wp2_with fail
    go_ret
    exact ⟨rfl, ((Below.refl _ _).alloc (Nat.le_refl _) _).trans (hb.mono (by simp))⟩

def spent (k r rides : Int) : Bool := decide ((k = 1 ∧ 0 < rides) ∨ (k = 3 ∧ r ≤ rides))

theorem and_zone (z zone : Int) (hz : 0 ≤ z) (hz2 : z ≤ 15) (hzone : isZ zone = true) : (bits BinOp.and IntKind.i64 z zone == 0) = decide (z / zone % 2 = 0) := by
  have hq : zone = 1 ∨ zone = 2 ∨ zone = 4 ∨ zone = 8 := by simpa [isZ, or_assoc] using hzone
  obtain ⟨n, rfl⟩ := Int.eq_ofNat_of_zero_le hz
  have hn : n < 16 := by omega
  have key : ∀ n : Fin 16, ∀ q ∈ [(1 : Int), 2, 4, 8], (bits BinOp.and IntKind.i64 (n.val : Int) q == 0) = decide (((n.val : Int)) / q % 2 = 0) := by decide +kernel
  exact key ⟨n, hn⟩ zone (by simpa using hq)

end Go.Proofs.Ytlnmheooicancaa
