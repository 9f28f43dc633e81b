/-
  The order of taps: lists alone.
-/
import Derived.Test.YtefdnddaggpgkaaF1
namespace Go.Proofs.Ytefdnddaggpgkaa
open Go.RowKit

/-- one tap stands ahead of another one -/
def befP (p q : TP) : Prop := p.m < q.m ∨ (p.m = q.m ∧ (p.g < q.g ∨ (p.g = q.g ∧ p.s < q.s)))

instance (p q : TP) : Decidable (befP p q) := by unfold befP; infer_instance

theorem cmpV_neg (a b : Int) : cmpV a b < 0 ↔ a < b := by
  unfold cmpV
  split
  · simp; omega
  · split
    · simp; omega
    · simp; omega

theorem cmpV_zero (a b : Int) : cmpV a b = 0 ↔ a = b := by
  unfold cmpV
  split
  · simp; omega
  · split
    · simp; omega
    · simp; omega

theorem riseV_neg (p q : TP) : riseV p q < 0 ↔ befP p q := by
  unfold riseV befP
  simp only [firstE]
  have h1 := cmpV_neg p.m q.m
  have h2 := cmpV_zero p.m q.m
  have h3 := cmpV_neg p.g q.g
  have h4 := cmpV_zero p.g q.g
  have h5 := cmpV_neg p.s q.s
  have h6 := cmpV_zero p.s q.s
  generalize cmpV p.m q.m = x at *
  generalize cmpV p.g q.g = y at *
  generalize cmpV p.s q.s = z at *
  by_cases hx : x = 0
  · by_cases hy : y = 0
    · by_cases hz : z = 0
      · simp [hx, hy, hz]; omega
      · simp [hx, hy, hz]; omega
    · simp [hx, hy]; omega
  · simp [hx]; omega

theorem befP_irrefl (p : TP) : ¬ befP p p := by unfold befP; omega
theorem befP_trans {p q r : TP} (h1 : befP p q) (h2 : befP q r) : befP p r := by unfold befP at *; omega
theorem befP_asymm {p q : TP} (h1 : befP p q) (h2 : befP q p) : False := by unfold befP at *; omega
theorem befP_total {p q : TP} (h : ¬ (p.g = q.g ∧ p.s = q.s)) (h1 : ¬ befP q p) : befP p q := by unfold befP at *; omega

/-- no two taps have one number -/
def DistP (L : List TP) : Prop := L.Pairwise fun p q => ¬ (p.g = q.g ∧ p.s = q.s)

theorem DistP.perm {L M : List TP} (h : DistP L) (hp : L.Perm M) : DistP M :=
  (hp.pairwise_iff (fun h => fun e => h ⟨e.1.symm, e.2.symm⟩)).1 h

/-- taps in order -/
def Ord (L : List TP) : Prop := L.Pairwise befP

theorem Ord.eq {L M : List TP} (h1 : Ord L) (h2 : Ord M) (hp : L.Perm M) : L = M := by
  induction L generalizing M with
  | nil => exact hp.nil_eq
  | cons x L ih =>
    cases M with
    | nil => exact absurd hp.symm.nil_eq (by simp)
    | cons y M =>
      have hx : x ∈ y :: M := hp.mem_iff.1 (by simp)
      have hy : y ∈ x :: L := hp.mem_iff.2 (by simp)
      have hxy : x = y := by
        rcases List.mem_cons.1 hx with h | h
        · exact h
        · rcases List.mem_cons.1 hy with h' | h'
          · exact h'.symm
          · exact (befP_asymm ((List.pairwise_cons.1 h1).1 y h') ((List.pairwise_cons.1 h2).1 x h)).elim
      subst hxy
      rw [ih (List.pairwise_cons.1 h1).2 (List.pairwise_cons.1 h2).2 (List.Perm.cons_inv hp)]

/-- the taps of a list, in order -/
def srt (L : List TP) : List TP := L.mergeSort fun p q => !decide (befP q p)

theorem srt_perm (L : List TP) : (srt L).Perm L := List.mergeSort_perm L _

theorem srt_len (L : List TP) : (srt L).length = L.length := (srt_perm L).length_eq

theorem srt_ord {L : List TP} (h : DistP L) : Ord (srt L) := by
  have h1 : (srt L).Pairwise fun p q => (!decide (befP q p)) = true := by
    refine List.pairwise_mergeSort ?_ ?_ L
    · intro a b c h1 h2
      simp only [Bool.not_eq_true', decide_eq_false_iff_not] at *
      intro h3
      unfold befP at *
      omega
    · intro a b
      simp only [Bool.or_eq_true, Bool.not_eq_true', decide_eq_false_iff_not]
      by_cases h : befP b a
      · right; exact fun h' => befP_asymm h h'
      · left; exact h
  have h2 : DistP (srt L) := h.perm (srt_perm L).symm
  exact (h1.and h2).imp (fun {p q} ⟨h3, h4⟩ => befP_total h4 (by simpa using h3))

theorem srt_eq {L M : List TP} (hM : Ord M) (hp : M.Perm L) (hd : DistP L) : M = srt L :=
  hM.eq (srt_ord hd) (hp.trans (srt_perm L).symm)

theorem Ord.dist {L : List TP} (h : Ord L) (hd : ∀ p ∈ L, ∀ q ∈ L, befP p q → ¬ (p.g = q.g ∧ p.s = q.s)) : DistP L := by
  induction L with
  | nil => exact List.Pairwise.nil
  | cons x L ih =>
    rw [Ord, List.pairwise_cons] at h
    exact List.pairwise_cons.2 ⟨fun y hy => hd x (by simp) y (by simp [hy]) (h.1 y hy), ih h.2 (fun p hp q hq => hd p (by simp [hp]) q (by simp [hq]))⟩
end Go.Proofs.Ytefdnddaggpgkaa
