/-
  The walk of RuleSpends.
-/
import Derived.Test.YtcakfmpckbmdeaeP6
namespace Go.Proofs.Ytcakfmpckbmdeae
open Go.RowKit

theorem errJ_fewer {i k f t z r rides : Int} {p : TP} {L : List TP} (h : errJ i k f t z r rides p L = 0) (h0 : 0 < rides) : errJ i k f t z r (rides - 1) p L = 0 := by
  obtain ⟨h1, h2, h3, h4, h5, h6⟩ := errJ_right h
  have hw : wi (rides - 1) 0 60 = true := by
    rw [wi_iff] at h3 ⊢
    omega
  have h7 : firstE (L.map chkT) = 0 := by
    have := firstE_mem _ h
    clear h h1 h2 h3 h5 h6 this
    induction L with
    | nil => rfl
    | cons x L ih =>
      simp [firstE, h4 x (by simp)]
      exact ih (fun y hy => h4 y (by simp [hy]))
  rw [errJ_end i k f t z r (rides - 1) p L h1 h2 hw h7, if_neg]
  simp only [h5, bne_self_eq_false, Bool.false_or, List.any_eq_true, not_exists, not_and]
  intro x hx
  simp [h6 x hx]

/-- what follows of a verdict -/
theorem judgeV_ways (i k f t z r rides : Int) (p : TP) (L : List TP) :
    ((judgeV i k f t z r rides p L).2 ≠ 0 ∧ ((judgeV i k f t z r rides p L).1 = 0 ∨ (judgeV i k f t z r rides p L).1 = 3)) ∨
    ((judgeV i k f t z r rides p L).2 = 0 ∧ f ≤ p.m ∧ p.m ≤ t ∧ 0 ≤ rides ∧ rides ≤ 60 ∧ (((judgeV i k f t z r rides p L).1 = 2 ∧ L.length ≠ 0) ∨ ((judgeV i k f t z r rides p L).1 = 1 ∧ ¬ ((k = 1 ∧ 0 < rides) ∨ (k = 3 ∧ r ≤ rides)))) ∧
      (0 < rides → judgeV i k f t z r (rides - 1) p L = judgeV i k f t z r rides p L)) := by
  by_cases hE : errJ i k f t z r rides p L = 0
  · obtain ⟨h1, h2, h3, h4, h5, h6⟩ := errJ_right hE
    have hV : judgeV i k f t z r rides p L = judge k f t z r (lastT L) rides p.m p.z := by rw [judgeV, if_neg (by simpa using hE)]
    have hV' : 0 < rides → judgeV i k f t z r (rides - 1) p L = judge k f t z r (lastT L) (rides - 1) p.m p.z := fun h0 => by rw [judgeV, if_neg (by simpa using errJ_fewer hE h0)]
    rw [hV]
    rw [wi_iff] at h3
    by_cases hP : place f t z p.m p.z = 0
    · have hwi : f ≤ p.m ∧ p.m ≤ t := by
        unfold place at hP
        cases hw : wi p.m f t
        · simp [hw] at hP
        · exact (wi_iff _ _ _).1 hw
      by_cases hg : 0 ≤ lastT L ∧ lastT L ≤ p.m ∧ p.m < lastT L + 60
      · right
        have e : ∀ n, judge k f t z r (lastT L) n p.m p.z = (2, 0) := fun n => by rw [judge, if_neg (by simpa using hP), if_pos hg]
        rw [e] at *
        refine ⟨rfl, hwi.1, hwi.2, h3.1, h3.2, Or.inl ⟨rfl, ?_⟩, fun h0 => hV' h0⟩
        intro hl
        have : L = [] := List.eq_nil_of_length_eq_zero hl
        subst this
        simp [lastT] at hg
      · by_cases hs : (k = 1 ∧ 0 < rides) ∨ (k = 3 ∧ r ≤ rides)
        · left
          rw [judge, if_neg (by simpa using hP), if_neg hg, if_pos hs]
          exact ⟨by decide, Or.inr rfl⟩
        · right
          have e : judge k f t z r (lastT L) rides p.m p.z = (1, 0) := by rw [judge, if_neg (by simpa using hP), if_neg hg, if_neg hs]
          rw [e]
          refine ⟨rfl, hwi.1, hwi.2, h3.1, h3.2, Or.inr ⟨rfl, hs⟩, fun h0 => ?_⟩
          rw [hV' h0, judge, if_neg (by simpa using hP), if_neg hg, if_neg (by omega)]
    · left
      rw [judge, if_pos hP]
      exact ⟨hP, Or.inr rfl⟩
  · left
    rw [judgeV, if_pos hE]
    exact ⟨hE, Or.inl rfl⟩

end Go.Proofs.Ytcakfmpckbmdeae
