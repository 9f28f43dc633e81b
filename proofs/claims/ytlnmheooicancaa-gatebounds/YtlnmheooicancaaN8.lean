/-
  What follows of an id that was added, of lists.
-/
import Derived.Test.YtlnmheooicancaaN7
namespace Go.Proofs.Ytlnmheooicancaa
open Go.RowKit

theorem addI_nil (id : Int) : addI [] id = [id] := by simp [addI, posI]
theorem addI_cons (x : Int) (L : List Int) (id : Int) : addI (x :: L) id = if id < x then id :: x :: L else x :: addI L id := by
  unfold addI posI
  by_cases h : id < x
  · rw [List.findIdx_cons]
    simp [h]
  · rw [List.findIdx_cons]
    simp [h]

theorem addI_len (L : List Int) (id : Int) : (addI L id).length = L.length + 1 := by
  induction L with
  | nil => rw [addI_nil]; rfl
  | cons x L ih =>
    rw [addI_cons]
    split
    · simp
    · simp [ih]

theorem hasI_cons (x : Int) (L : List Int) (o : Int) : hasI (x :: L) o = (x == o || hasI L o) := rfl

theorem hasI_addI (L : List Int) (id o : Int) : hasI (addI L id) o = (hasI L o || o == id) := by
  have hs : (id == o) = (o == id) := by rw [Bool.eq_iff_iff, beq_iff_eq, beq_iff_eq]; exact eq_comm
  induction L with
  | nil => rw [addI_nil]; simp [hasI, hs]
  | cons x L ih =>
    rw [addI_cons]
    split
    · rw [hasI_cons, hasI_cons, hs, Bool.or_comm]
    · rw [hasI_cons, hasI_cons, ih, Bool.or_assoc]

theorem addI_comm (L : List Int) {a b : Int} (h : a ≠ b) : addI (addI L a) b = addI (addI L b) a := by
  induction L with
  | nil =>
    rw [addI_nil, addI_nil, addI_cons, addI_cons, addI_nil, addI_nil]
    split <;> split <;> first | rfl | omega
  | cons x L ih =>
    rw [addI_cons x L a, addI_cons x L b]
    split
    · rename_i ha
      split
      · rename_i hb
        rw [addI_cons a, addI_cons b, addI_cons x, addI_cons x]
        split
        · split
          · omega
          · rfl
        · split
          · rfl
          · omega
      · rename_i hb
        rw [addI_cons a, addI_cons x, addI_cons x]
        rw [if_neg (show ¬ b < a by omega), if_neg hb, if_pos ha]
    · rename_i ha
      split
      · rename_i hb
        rw [addI_cons b, addI_cons x, addI_cons x]
        rw [if_pos hb, if_neg (show ¬ a < b by omega), if_neg ha]
      · rename_i hb
        rw [addI_cons x, addI_cons x, if_neg hb, if_neg ha, ih]

theorem errD_zero_cons {l x : Int} {L : List Int} : errD l (x :: L) = 0 ↔ wi x 1 9999 = true ∧ l < x ∧ errD x L = 0 := by
  rcases errD_ways l x L with ⟨h1, h2⟩ | ⟨h1, h2, h3⟩ | ⟨h1, h2, h3⟩
  · rw [h2, h1]; simp
  · rw [h3, h1]; simp; omega
  · rw [h3, h1]; simp; omega

theorem errD_addI {l id : Int} {L : List Int} (h : errD l L = 0) (hw : wi id 1 9999 = true) (hl : l < id) (hn : hasI L id = false) : errD l (addI L id) = 0 := by
  induction L generalizing l with
  | nil => rw [addI_nil, errD_zero_cons]; exact ⟨hw, hl, rfl⟩
  | cons x L ih =>
    rw [errD_zero_cons] at h
    rw [hasI_cons, Bool.or_eq_false_iff] at hn
    have hx : x ≠ id := by simpa using hn.1
    rw [addI_cons]
    split
    · rename_i hlt
      rw [errD_zero_cons, errD_zero_cons]
      exact ⟨hw, hl, h.1, hlt, h.2.2⟩
    · rw [errD_zero_cons]
      exact ⟨h.1, h.2.1, ih h.2.2 (by omega) hn.2⟩

theorem chkD_zero {v : Int} {L : List Int} : chkD v L = 0 ↔ (0 ≤ v ∧ v ≤ 999 ∧ L.length ≤ 12 ∧ errD 0 L = 0 ∧ (L.length : Int) ≤ v) := by
  refine ⟨chkD_right, fun ⟨h1, h2, h3, h4, h5⟩ => ?_⟩
  have hw : wi v 0 999 = true := (wi_iff _ _ _).2 ⟨h1, h2⟩
  rw [chkD, hw, if_neg (by simp), if_neg (by omega), if_pos h4, if_neg (by omega)]

theorem addE_right {v : Int} {L : List Int} {id : Int} (h : addE v L id = 0) : chkD v L = 0 ∧ wi id 1 9999 = true ∧ hasI L id = false ∧ L.length < 12 ∧ v < 999 := by
  rcases addE_ways v L id with ⟨h1, h2⟩ | ⟨h1, h2, h3⟩ | ⟨h1, h2, h3, h4⟩ | ⟨h1, h2, h3, h4⟩
  · rw [h2] at h; rw [h] at h1; cases h1
  · omega
  · omega
  · have hu := unfD_right h1
    have hr := chkD_right hu.1
    rw [fullD, Bool.or_eq_false_iff] at h3
    have a1 : ¬ (L.length : Int) = 12 := by simpa using h3.1
    have a2 : ¬ v = 999 := by simpa using h3.2
    exact ⟨hu.1, hu.2, h2, by omega, by omega⟩

theorem chkD_addI {v : Int} {L : List Int} {id : Int} (h : addE v L id = 0) : chkD (v + 1) (addI L id) = 0 := by
  obtain ⟨h1, h2, h3, h4, h5⟩ := addE_right h
  have hr := chkD_right h1
  have hw := (wi_iff _ _ _).1 h2
  rw [chkD_zero, addI_len]
  exact ⟨by omega, by omega, by omega, errD_addI hr.2.2.2.1 h2 (by omega) h3, by omega⟩

theorem unfD_of {v : Int} {L : List Int} (h : chkD v L = 0) (o : Int) : unfD v L o = if wi o 1 9999 = true then 0 else 3 := by
  rw [unfD, if_pos h]

/-- an id that is added to a list that is right, and then another one -/
theorem addE_twice {v : Int} {L : List Int} {a b : Int} (ha : addE v L a = 0) (hb : addE v L b = 0) :
    addE (v + 1) (addI L a) b = if a = b then 6 else if L.length = 11 ∨ v = 998 then 2 else 0 := by
  have hc := chkD_addI ha
  obtain ⟨h1, h2, h3, h4, h5⟩ := addE_right hb
  have hu : unfD (v + 1) (addI L a) b = 0 := by rw [unfD_of hc, if_pos h2]
  rw [addE, if_pos hu, hasI_addI, h3, Bool.false_or, fullD, addI_len]
  by_cases hab : a = b
  · subst hab; simp
  · have hba : ¬ b = a := fun h => hab h.symm
    have : (b == a) = false := by simpa using hba
    rw [this, if_neg (by simp), if_neg hab]
    have e1 : (((L.length + 1 : Nat) : Int) == 12 || v + 1 == 999) = true ↔ (L.length = 11 ∨ v = 998) := by
      simp only [Bool.or_eq_true, beq_iff_eq]
      constructor <;> (intro h; omega)
    by_cases hx : L.length = 11 ∨ v = 998
    · rw [if_pos hx, if_pos (e1.2 hx)]
    · rw [if_neg hx, if_neg (fun h => hx (e1.1 h))]
end Go.Proofs.Ytlnmheooicancaa
