/-
  The document's answers on taps: 'PlaceOf', 'JudgeOf' (package leeboardref).
-/
import Derived.Test.YtcakfmpckbmdeabR1
namespace Go.Proofs.Ytcakfmpckbmdeab
open Go.RowKit

/-- a ticket's time and zones -/
def place (f t z m zone : Int) : Int := if wi m f t = false then 8 else if z / zone % 2 = 0 then 9 else 0

set_option maxHeartbeats 1600000 in
theorem placeOf_any (i k f t z r m zone : Int) (w : World) (hz : 0 ≤ z) (hz2 : z ≤ 15) (hzone : isZ zone = true) :
    Calls Try.prog 45 #[tk i k f t z r, .int .i64 m, .int .i64 zone] w fun e w' => e = .returned (.int .i64 (place f t z m zone)) ∧ Below w.heap.size w w' := by
  have hq : zone = 1 ∨ zone = 2 ∨ zone = 4 ∨ zone = 8 := by simpa [isZ, or_assoc] using hzone
  clear hzone
  cases h1 : wi m f t
  · go_enter Try.func45, Try.ntmps45
    go_wp2_with (go_at_call 44; refine (between_any _ _ _ _).mono ?_; rintro e w' ⟨rfl, rfl⟩)
    go_ret
    exact ⟨by simp [place, *], (Below.refl _ _).alloc (Nat.le_refl _) _⟩
  · rcases hq with rfl | rfl | rfl | rfl
    all_goals
      go_enter Try.func45, Try.ntmps45
      go_wp2_with (go_at_call 44; refine (between_any _ _ _ _).mono ?_; rintro e w' ⟨rfl, rfl⟩)
    all_goals
      go_ret
      exact ⟨by simp_all [place], (Below.refl _ _).alloc (Nat.le_refl _) _⟩

/-- a verdict, and an error; last: when the last ride was, below 0: there is none -/
def judge (k f t z r last rides m zone : Int) : Int × Int :=
  if place f t z m zone ≠ 0 then (3, place f t z m zone)
  else if 0 ≤ last ∧ last ≤ m ∧ m < last + 60 then (2, 0)
  else if (k = 1 ∧ 0 < rides) ∨ (k = 3 ∧ r ≤ rides) then (3, 10) else (1, 0)

set_option maxHeartbeats 3200000 in
theorem judgeOf_any (i k f t z r last rides a g s m zone : Int) (w : World) (hz : 0 ≤ z) (hz2 : z ≤ 15) (hzone : isZ zone = true) (hlast : last ≤ 9999) (hlast2 : -1 ≤ last) :
    Calls Try.prog 14 #[tk i k f t z r, .int .i64 last, .int .i64 rides, tp a g s m zone] w fun e w' =>
      e = .returned (.tuple #[.int .i64 (judge k f t z r last rides m zone).1, .int .i64 (judge k f t z r last rides m zone).2]) ∧ Below w.heap.size w w' := by
  have HP := hide (fun W => placeOf_any i k f t z r m zone W hz hz2 hzone)
  clear hzone
  generalize hJ : judge k f t z r last rides m zone = J
  unfold judge at hJ
  generalize place f t z m zone = e at HP hJ
  by_cases he : e = 0
  · subst he
    rw [if_neg (by simp)] at hJ
    by_cases hg : 0 ≤ last ∧ last ≤ m ∧ m < last + 60
    · rw [if_pos hg] at hJ
      subst hJ
      obtain ⟨h1, h2, h3⟩ := hg
      all_goals
        go_enter Try.func14, Try.ntmps14
        go_wp2_with (go_at_call 45; refine (HP.out _).mono ?_; rintro e w' ⟨rfl, hb⟩; obtain ⟨hc, hf⟩ := bcell hb)
        go_ret2
        exact ⟨rfl, ((((Below.refl _ _).alloc (Nat.le_refl _) _).alloc (by simp) _).trans (hb.mono (by simp; omega)))⟩
    · rw [if_neg hg] at hJ
      have hn : ¬ 0 ≤ last ∨ (0 ≤ last ∧ ¬ last ≤ m) ∨ (0 ≤ last ∧ last ≤ m ∧ ¬ m < last + 60) := by omega
      clear hg
      have hk : ((k == 1) = true ∧ 0 < rides ∧ J = (3, 10)) ∨ ((k == 1) = true ∧ ¬ 0 < rides ∧ (k == 3) = false ∧ J = (1, 0)) ∨
          ((k == 1) = false ∧ (k == 3) = true ∧ r ≤ rides ∧ J = (3, 10)) ∨ ((k == 1) = false ∧ (k == 3) = true ∧ ¬ r ≤ rides ∧ J = (1, 0)) ∨ ((k == 1) = false ∧ (k == 3) = false ∧ J = (1, 0)) := by
        by_cases k1 : k = 1
        · by_cases h : 0 < rides <;> simp [k1, h] at hJ <;> simp [k1, h, hJ]
        · by_cases k3 : k = 3
          · by_cases h : r ≤ rides <;> simp [k3, h] at hJ <;> simp [k3, h, hJ]
          · simp [k1, k3] at hJ
            simp [k1, k3, hJ]
      clear hJ
      rcases hk with ⟨k1, k2, rfl⟩ | ⟨k1, k2, k3, rfl⟩ | ⟨k1, k2, k3, rfl⟩ | ⟨k1, k2, k3, rfl⟩ | ⟨k1, k2, rfl⟩ <;> rcases hn with h1 | ⟨h1, h2⟩ | ⟨h1, h2, h3⟩
      all_goals
        go_enter Try.func14, Try.ntmps14
        go_wp2_with (go_at_call 45; refine (HP.out _).mono ?_; rintro e w' ⟨rfl, hb⟩; obtain ⟨hc, hf⟩ := bcell hb)
        go_ret2
        exact ⟨rfl, ((((Below.refl _ _).alloc (Nat.le_refl _) _).alloc (by simp) _).trans (hb.mono (by simp; omega)))⟩
  · rw [if_pos he] at hJ
    subst hJ
    have he' : (e != 0) = true := by simpa using he
    clear he
    all_goals
        go_enter Try.func14, Try.ntmps14
        go_wp2_with (go_at_call 45; refine (HP.out _).mono ?_; rintro e w' ⟨rfl, hb⟩; obtain ⟨hc, hf⟩ := bcell hb)
        go_ret2
        exact ⟨rfl, ((((Below.refl _ _).alloc (Nat.le_refl _) _).alloc (by simp) _).trans (hb.mono (by simp; omega)))⟩
end Go.Proofs.Ytcakfmpckbmdeab
