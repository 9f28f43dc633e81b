/-
  'wrong' (package rule): why there is nothing to judge.
-/
import Derived.Test.YtlnmheooicancaaP2
namespace Go.Proofs.Ytlnmheooicancaa
open Go.RowKit

theorem firstE_mis (i : Int) (L : List TP) : firstE (L.map (misT i)) = if L.any (fun p => p.a != i) = true then 4 else 0 := by
  induction L with
  | nil => simp [firstE]
  | cons p L ih =>
    by_cases h : p.a = i
    · simp only [List.map_cons, firstE, misT, h, if_true, List.any_cons]
      rw [show (misT i) = misT i from rfl] at ih
      simpa using ih
    · simp [firstE, misT, h]

theorem firstE_zero (l k : List Int) (h : firstE l = 0) : firstE (l ++ k) = firstE k := by
  induction l with
  | nil => rfl
  | cons e l ih =>
    by_cases he : e = 0
    · simp [firstE, he] at h ⊢
      exact ih h
    · simp [firstE, he] at h

/-- the end of it: all are checked -/
theorem errJ_end (i k f t z r rides : Int) (p : TP) (L : List TP) (h1 : chk i k f t z r = 0) (h2 : chkT p = 0) (h3 : wi rides 0 60 = true) (h4 : firstE (L.map chkT) = 0) :
    errJ i k f t z r rides p L = if ((p.a != i) || L.any (fun p => p.a != i)) = true then 4 else 0 := by
  unfold errJ
  rw [List.append_assoc, List.append_assoc, firstE_zero _ _ (by simp [firstE, h1, h2, h3]), firstE_zero _ _ h4]
  by_cases h : p.a = i
  · have := firstE_mis i L
    simp only [List.cons_append, List.nil_append, firstE, misT, h, if_true, bne_self_eq_false, Bool.false_or] at this ⊢
    exact this
  · simp [firstE, misT, h]

theorem errJ_was (i k f t z r rides : Int) (p : TP) (L : List TP) (h1 : chk i k f t z r = 0) (h2 : chkT p = 0) (h3 : wi rides 0 60 = true) (q : Nat) (x : TP) (hx : L[q]? = some x) (h4 : firstE ((L.take q).map chkT) = 0) (h5 : chkT x ≠ 0) :
    errJ i k f t z r rides p L = chkT x := by
  unfold errJ
  rw [List.append_assoc, List.append_assoc, firstE_zero _ _ (by simp [firstE, h1, h2, h3])]
  have : L.map chkT = ((L.take q).map chkT ++ [chkT x]) ++ (L.drop (q + 1)).map chkT := by
    have hq : q < L.length := (List.getElem?_eq_some_iff.mp hx).1
    rw [← List.map_singleton, ← List.map_append, ← List.map_append]
    congr 1
    rw [show [x] = [L[q]] by rw [(List.getElem?_eq_some_iff.mp hx).2], List.take_append_getElem, List.take_append_drop]
  rw [this, List.append_assoc, List.append_assoc, firstE_zero _ _ h4]
  simp [firstE, h5]

end Go.Proofs.Ytlnmheooicancaa
