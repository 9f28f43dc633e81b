/-
  The law 'TicketBack': its walk.
-/
import Derived.Test.YtcakfmpckbmdeabT8
namespace Go.Proofs.Ytcakfmpckbmdeab
open Go.RowKit

/-- what Decode says: an error, and no ticket; or a ticket whose bytes these are -/
theorem dec_cases (l : List UInt8) : (∃ e : Int, decV l = (tk 0 0 0 0 0 0, e) ∧ e ≠ 0) ∨ ∃ i k f t z r : Int, decV l = (tk i k f t z r, 0) ∧ encV i k f t z r = (l, 0) := by
  by_cases h : l.length = 8
  · obtain ⟨b0, b1, b2, b3, b4, b5, b6, b7, t, rfl⟩ := eight l (by omega)
    obtain rfl : t = [] := by simpa using h
    rw [dec8]
    by_cases hc : chk (num [b0, b1]) ((num [b6] : Int) / 16) (num [b2, b3]) (num [b4, b5]) ((num [b6] : Int) % 16) (num [b7]) = 0
    · right
      rw [if_pos hc]
      refine ⟨_, _, _, _, _, _, rfl, ?_⟩
      unfold encV
      rw [if_pos hc]
      have e := enc_dec b0 b1 b2 b3 b4 b5 b6 b7
      have e1 : ((num [b6] : Int) / 16).toNat = num [b6] / 16 := by omega
      have e2 : ((num [b6] : Int) % 16).toNat = num [b6] % 16 := by omega
      simp only [Int.toNat_natCast, e1, e2]
      rw [e]
    · left
      rw [if_neg hc]
      exact ⟨_, rfl, hc⟩
  · left
    exact ⟨1, decV_other l h, by decide⟩

theorem enc_cases (i k f t z r : Int) : (∃ e : Int, encV i k f t z r = ([], e) ∧ (e == 0) = false) ∨ ∃ u : List UInt8, encV i k f t z r = (u, 0) ∧ decV u = (tk i k f t z r, 0) ∧ u.length = 8 := by
  by_cases h : chk i k f t z r = 0
  · right
    refine ⟨_, by unfold encV; rw [if_pos h], ?_, encL_len _ _ _ _ _ _⟩
    obtain ⟨i', k', f', t', z', r', rfl, rfl, rfl, rfl, rfl, rfl, hr⟩ := right_of _ _ _ _ _ _ h
    simp only [Int.toNat_natCast]
    exact dec_enc hr
  · left
    exact ⟨chk i k f t z r, by unfold encV; rw [if_neg h], by simpa using h⟩

end Go.Proofs.Ytcakfmpckbmdeab
