/-
  What MergeOnce says, of lists.
-/
import Derived.Test.YtefdnddaggpgkaaF12
import Derived.Test.YtefdnddaggpgkaaM2
namespace Go.Proofs.Ytefdnddaggpgkaa
open Go.RowKit

theorem once_chk {a g s m z : Int} {q : TP} (h1 : chkP a g s m z = 0) (h2 : chkT q = 0) : chkT ⟨a, q.g, q.s, m, z⟩ = 0 := by
  simp only [chkT, chkP] at *
  split at h1
  · cases h1
  split at h1
  · cases h1
  split at h2
  · cases h2
  rename_i h3 h4 h5
  simp only [Bool.not_eq_false, Bool.and_eq_true] at h3 h4 h5
  rw [if_neg (by simp [h3, h5]), if_neg (by simp [h4])]

theorem once_twice {P : List TP} {n : Nat} {q p : TP} (hq : P[n]? = some q) (hg : p.g = q.g) (hs : p.s = q.s) : twiceT P p = true := by
  unfold twiceT
  rw [List.any_eq_true]
  exact ⟨q, List.mem_of_getElem? hq, by simp [hg, hs]⟩

theorem once_ord {T : List TK} {P : List TP} {V : List Int} (h : chkL T P V = 0) {n : Nat} {q p : TP} (hq : P[n]? = some q) (hp : chkT p = 0) (hg : p.g = q.g) (hs : p.s = q.s) : ordE (P ++ [p]) = 6 := by
  obtain ⟨r1, r2, r3, r4, r5⟩ := chkL_right h
  have hz : firstE ((P ++ [p]).map chkT) = 0 := firstE_map_zero.2 (fun x hx => by
    rcases List.mem_append.1 hx with hx | hx
    · exact errP_all_chk r5 x hx
    · rw [List.mem_singleton.1 hx]; exact hp)
  have hd : dupB (P ++ [p]) = true := by
    cases hf : dupB (P ++ [p]) with
    | true => rfl
    | false => exact absurd ⟨hg.symm, hs.symm⟩ ((List.pairwise_append.1 ((dupB_false _).1 hf)).2.2 q (List.mem_of_getElem? hq) p (by simp))
  rw [ordE, if_neg (by simp; omega), if_pos hz, if_pos hd]

theorem once_into {T : List TK} {P : List TP} {V : List Int} (h : chkL T P V = 0) {n : Nat} {q p : TP} (hq : P[n]? = some q) (hp : chkT p = 0) (hg : p.g = q.g) (hs : p.s = q.s) : intoE T P V [p] = 6 := by
  rw [intoE, if_pos h, if_neg (by simp), once_ord h hq hp hg hs, if_neg (by decide)]

theorem once_enter {T : List TK} {P : List TP} {V : List Int} (h : chkL T P V = 0) {n : Nat} {q p : TP} (hq : P[n]? = some q) (hp : chkT p = 0) (hg : p.g = q.g) (hs : p.s = q.s) : (enterV T P V p).2 = 6 ∨ (enterV T P V p).2 = 5 := by
  have ht := once_twice hq hg hs
  by_cases hh : hasT T p.a = true
  · left
    have hu : unf T P p = 6 := by simp [unf, firstE, hp, hh, ht]
    rw [enterV, if_neg (by simp [h]), if_pos (by simp [hu])]
    exact hu
  · right
    have hu : unf T P p = 5 := by simp [unf, firstE, hp, hh]
    rw [enterV, if_neg (by simp [h]), if_pos (by simp [hu])]
    exact hu
end Go.Proofs.Ytefdnddaggpgkaa
