/-
  The document's answers: 'CheckTicket', 'TicketBytes' (package leeboardref).
-/
import Derived.Test.YtcakfmpckbmdeacT1
namespace Go.Proofs.Ytcakfmpckbmdeac
open Go.RowKit

set_option maxHeartbeats 1600000 in
theorem checkT_any (i k f t z r : Int) (w : World) :
    Calls Try.prog 30 #[tk i k f t z r] w fun e w' => e = .returned (.int .i64 (chk i k f t z r)) ∧ Below w.heap.size w w' := by
  have hin : inR i f t z = (wi i 1 9999 && wi f 0 9999 && wi t 0 9999 && wi z 1 15) := rfl
  have Hin := hide hin
  clear hin
  by_cases hA : inR i f t z = true
  · have h := hA
    simp only [inR, Bool.and_eq_true] at h
    obtain ⟨⟨⟨h1, h2⟩, h3⟩, h4⟩ := h
    have HA := hide hA
    clear hA
    cases h5 : wi k 1 3
    · go_enter Try.func30, Try.ntmps30
      go_wp2_with (go_at_call 60; refine (between_any _ _ _ _).mono ?_; rintro e w' ⟨rfl, rfl⟩)
      go_ret
      exact ⟨by simp [chk, unhide HA, h5], (Below.refl _ _).alloc (Nat.le_refl _) _⟩
    · by_cases h6 : t < f
      · go_enter Try.func30, Try.ntmps30
        go_wp2_with (go_at_call 60; refine (between_any _ _ _ _).mono ?_; rintro e w' ⟨rfl, rfl⟩)
        go_ret
        exact ⟨by simp [chk, unhide HA, h5, h6], (Below.refl _ _).alloc (Nat.le_refl _) _⟩
      · by_cases h7 : k = 3
        · have h7' : (k == 3) = true := by simpa using h7
          have h7'' : (k != 3) = false := by simp [h7]
          have H7 := hide h7
          clear h7
          cases h8 : wi r 2 9
          all_goals
            go_enter Try.func30, Try.ntmps30
            go_wp2_with (go_at_call 60; refine (between_any _ _ _ _).mono ?_; rintro e w' ⟨rfl, rfl⟩)
            go_ret
            exact ⟨by have e3 := unhide H7; have e6 : ¬ t < f := by omega
                      subst e3; simp [chk, unhide HA, e6, ridesF, h8, show wi 3 1 3 = true from by decide], (Below.refl _ _).alloc (Nat.le_refl _) _⟩
        · have h7' : (k == 3) = false := by simpa using h7
          have h7'' : (k != 3) = true := by simpa using h7
          have H7 := hide h7
          clear h7
          by_cases h8 : r = 0
          · have h8' : (r != 0) = false := by simp [h8]
            have H8 := hide h8
            clear h8
            go_enter Try.func30, Try.ntmps30
            go_wp2_with (go_at_call 60; refine (between_any _ _ _ _).mono ?_; rintro e w' ⟨rfl, rfl⟩)
            go_ret
            exact ⟨by simp [chk, unhide HA, h5, h6, ridesF, unhide H7, unhide H8], (Below.refl _ _).alloc (Nat.le_refl _) _⟩
          · have h8' : (r != 0) = true := by simpa using h8
            have H8 := hide h8
            clear h8
            go_enter Try.func30, Try.ntmps30
            go_wp2_with (go_at_call 60; refine (between_any _ _ _ _).mono ?_; rintro e w' ⟨rfl, rfl⟩)
            go_ret
            exact ⟨by simp [chk, unhide HA, h5, h6, ridesF, unhide H7, unhide H8], (Below.refl _ _).alloc (Nat.le_refl _) _⟩
  · have hA' : inR i f t z = false := by simpa using hA
    have HA := hide hA'
    clear hA hA'
    have hpick : wi i 1 9999 = false ∨ (wi i 1 9999 = true ∧ wi f 0 9999 = false) ∨ (wi i 1 9999 = true ∧ wi f 0 9999 = true ∧ wi t 0 9999 = false) ∨ (wi i 1 9999 = true ∧ wi f 0 9999 = true ∧ wi t 0 9999 = true ∧ wi z 1 15 = false) := by
      have e := unhide HA
      rw [unhide Hin] at e
      cases a : wi i 1 9999 <;> cases b : wi f 0 9999 <;> cases c : wi t 0 9999 <;> cases d : wi z 1 15 <;> simp_all
    rcases hpick with h1 | ⟨h1, h2⟩ | ⟨h1, h2, h3⟩ | ⟨h1, h2, h3, h4⟩
    all_goals
      go_enter Try.func30, Try.ntmps30
      go_wp2_with (go_at_call 60; refine (between_any _ _ _ _).mono ?_; rintro e w' ⟨rfl, rfl⟩)
      go_ret
      exact ⟨by simp [chk, unhide HA], (Below.refl _ _).alloc (Nat.le_refl _) _⟩

end Go.Proofs.Ytcakfmpckbmdeac
