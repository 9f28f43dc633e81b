/-
  What follows of a tap that was let through, and of a gate that has told, of lists.
-/
import Derived.Test.YtlnmheooicancaaJ8
namespace Go.Proofs.Ytlnmheooicancaa
open Go.RowKit

theorem errA_snoc (i z : Int) (l : Option TP) (P : List TP) (p : TP) (h1 : errA i z l P = 0) (h2 : chkT p = 0) (h3 : okA i z (P.getLast?.or l) p = true) : errA i z l (P ++ [p]) = 0 := by
  induction P generalizing l with
  | nil =>
    simp only [List.getLast?_nil, Option.none_or] at h3
    simp only [List.nil_append, errA, h2, h3, if_true]
  | cons x P ih =>
    rcases errA_ways i z l x P with ⟨g1, g2⟩ | ⟨g1, g2, g3⟩ | ⟨g1, g2, g3⟩
    · rw [g2] at h1; rw [h1] at g1; cases g1
    · omega
    · rw [List.cons_append, errA, if_pos g1, if_pos g2]
      refine ih (some x) (g3.symm.trans h1) ?_
      rw [List.getLast?_cons] at h3
      cases hP : P.getLast? with
      | none => rw [hP] at h3; simpa using h3
      | some y => rw [hP] at h3; simpa using h3

theorem tapG_right {i z s : Int} {P : List TP} {v : Int} {D : List Int} {l u : Int} {x : TK} {m : Int} (h : tapG i z s P v D l u x m = 0) : unfG i z s P v D l u x m = 0 ∧ shutG D u z x m = 0 ∧ spentG P l x = false ∧ fullG P.length s = false := by
  rcases tapG_ways i z s P v D l u x m with ⟨h1, h2⟩ | ⟨h1, h2, h3⟩ | ⟨h1, h2, h3, h4⟩ | ⟨h1, h2, h3, h4, h5⟩ | ⟨h1, h2, h3, h4, h5⟩
  · rw [h2] at h; rw [h] at h1; cases h1
  · rw [h3] at h; rw [h] at h2; cases h2
  · omega
  · omega
  · exact ⟨h1, h2, h3, h4⟩

theorem aloneE_right {i z s : Int} {P : List TP} (h : aloneE i z s P = 0) : errA i z none P = 0 ∧ errQ s P = 0 := by
  rw [aloneE] at h
  split at h
  · rename_i h1; exact ⟨h1, h⟩
  · rename_i h1; exact absurd h h1

theorem errB_zero {l u : Int} : errB l u = 0 ↔ (0 ≤ l ∧ l ≤ 9) ∧ (0 ≤ u ∧ u ≤ 10099) := by
  rw [errB]
  by_cases h : (wi l 0 9 && wi u 0 10099) = true
  · rw [if_pos h]
    rw [Bool.and_eq_true, wi_iff, wi_iff] at h
    exact ⟨fun _ => h, fun _ => rfl⟩
  · rw [if_neg h]
    rw [Bool.and_eq_true, wi_iff, wi_iff] at h
    exact ⟨fun h' => by omega, fun h' => absurd h' h⟩

theorem errS_zero {i z s : Int} {n : Nat} (h1 : 0 ≤ i ∧ i ≤ 2) (h2 : 0 ≤ s ∧ s ≤ 99) (h3 : isZ z = true) (h4 : n ≤ 12) : errS i z s n = 0 := by
  rw [errS, (wi_iff i 0 2).2 h1, (wi_iff s 0 99).2 h2, h3, if_neg (by decide), if_neg (by decide), if_neg (by omega)]

theorem chkG_of {i z s : Int} {P : List TP} {v : Int} {D : List Int} {l u : Int} (h1 : errS i z s P.length = 0) (h2 : aloneE i z s P = 0) (h3 : chkD v D = 0) (h4 : errB l u = 0) : chkG i z s P v D l u = 0 := by
  rw [chkG, if_pos h1, if_pos h2, if_pos h3, h4]

/-- a gate that has let a ticket through is right -/
theorem chkG_tap {i z s : Int} {P : List TP} {v : Int} {D : List Int} {l u : Int} {x : TK} {m : Int} (h : tapG i z s P v D l u x m = 0) : chkG i z (s + 1) (P ++ [⟨x.i, i, s + 1, m, z⟩]) v D (l - 1) u = 0 := by
  obtain ⟨h1, h2, h3, h4⟩ := tapG_right h
  obtain ⟨g1, g2, g3, g4⟩ := unfG_right h1
  obtain ⟨c1, c2, c3, c4⟩ := chkG_right g1
  obtain ⟨s1, s2, s3, s4⟩ := errS_right c1
  obtain ⟨a1, a2⟩ := aloneE_right c2
  have b := errB_zero.1 c4
  have hm := (wi_iff _ _ _).1 g3
  have hk := chk_right (show chk x.i x.k x.f x.t x.z x.r = 0 from g2)
  rw [fullG, Bool.or_eq_false_iff] at h4
  have f1 : ¬ (P.length : Int) = 12 := by simpa using h4.1
  have f2 : ¬ s = 99 := by simpa using h4.2
  rw [spentG, Bool.or_eq_false_iff] at h3
  have l0 : ¬ l = 0 := by simpa using h3.1
  have hp : chkT ⟨x.i, i, s + 1, m, z⟩ = 0 := by
    show chkP x.i i (s + 1) m z = 0
    rw [chkP, (wi_iff x.i 1 9999).2 hk.1, (wi_iff i 0 2).2 s1, (wi_iff (s + 1) 1 99).2 (by omega), (wi_iff m 0 9999).2 hm, s3]
    rfl
  refine chkG_of (errS_zero s1 (by omega) s3 (by simp; omega)) ?_ c3 (errB_zero.2 ⟨by omega, b.2⟩)
  have hA : errA i z none (P ++ [⟨x.i, i, s + 1, m, z⟩]) = 0 := by
    refine errA_snoc i z none P _ a1 hp ?_
    rw [Option.or_none]
    rw [earlyG] at g4
    rw [errQ] at a2
    cases hl : P.getLast? with
    | none => simp [okA]
    | some y =>
      rw [hl] at g4 a2
      simp only [decide_eq_false_iff_not] at g4
      simp only [ite_eq_left_iff] at a2
      have hys : y.s = s := by
        by_cases hy : y.s = s
        · exact hy
        · have := a2 hy; omega
      simp [okA, folB, hys]
      omega
  rw [aloneE, if_pos hA, errQ, List.getLast?_concat]
  simp

theorem hasA_snoc (P : List TP) (p : TP) (id : Int) : hasA (P ++ [p]) id = (hasA P id || p.a == id) := by
  simp [hasA]

/-- the same ticket once more, at the same time -/
theorem tapG_again {i z s : Int} {P : List TP} {v : Int} {D : List Int} {l u : Int} {x : TK} {m : Int} (h : tapG i z s P v D l u x m = 0) :
    tapG i z (s + 1) (P ++ [⟨x.i, i, s + 1, m, z⟩]) v D (l - 1) u x m = if l - 1 = 0 ∨ x.k ≠ 2 then 10 else if P.length = 11 ∨ s = 98 then 2 else 0 := by
  have hc := chkG_tap h
  obtain ⟨h1, h2, h3, h4⟩ := tapG_right h
  obtain ⟨g1, g2, g3, g4⟩ := unfG_right h1
  have hu : unfG i z (s + 1) (P ++ [⟨x.i, i, s + 1, m, z⟩]) v D (l - 1) u x m = 0 := by
    rw [unfG, if_pos hc, if_pos g2, g3, if_pos rfl, earlyG, List.getLast?_concat]
    simp
  rw [tapG, if_pos hu, if_pos h2, spentG, hasA_snoc, beq_self_eq_true, Bool.or_true, Bool.and_true, fullG]
  have e1 : ((l - 1 == 0) || (x.k != 2)) = true ↔ (l - 1 = 0 ∨ x.k ≠ 2) := by simp
  by_cases hx : l - 1 = 0 ∨ x.k ≠ 2
  · rw [if_pos (e1.2 hx), if_pos hx]
  · rw [if_neg (fun h' => hx (e1.1 h')), if_neg hx]
    have e2 : ((((P ++ [(⟨x.i, i, s + 1, m, z⟩ : TP)]).length : Int) == 12) || (s + 1 == 99)) = true ↔ (P.length = 11 ∨ s = 98) := by
      simp
      omega
    by_cases hy : P.length = 11 ∨ s = 98
    · rw [if_pos (e2.2 hy), if_pos hy]
    · rw [if_neg (fun h' => hy (e2.1 h')), if_neg hy]

theorem syncG_right {i z s : Int} {P : List TP} {v : Int} {D : List Int} {l u v' : Int} {D' : List Int} {m : Int} (h : syncG i z s P v D l u v' D' m = 0) : chkG i z s P v D l u = 0 ∧ newE v D v' D' = 0 ∧ wi m 0 9999 = true := by
  rcases syncG_ways i z s P v D l u v' D' m with ⟨h1, h2⟩ | ⟨h1, h2, h3⟩ | ⟨h1, h2, h3, h4⟩ | ⟨h1, h2, h3, h4⟩
  · rw [h2] at h; rw [h] at h1; cases h1
  · rw [h3] at h; rw [h] at h2; cases h2
  · omega
  · exact ⟨h1, h2, h3⟩

/-- a gate that has told is right, and telling again goes through -/
theorem chkG_told {i z s : Int} {P : List TP} {v : Int} {D : List Int} {l u v' : Int} {D' : List Int} {m : Int} (h : syncG i z s P v D l u v' D' m = 0) :
    chkG i z s [] (if v < v' then v' else v) (if v < v' then D' else D) 9 (m + 100) = 0 ∧ syncG i z s [] (if v < v' then v' else v) (if v < v' then D' else D) 9 (m + 100) v' D' m = 0 := by
  obtain ⟨h1, h2, h3⟩ := syncG_right h
  obtain ⟨c1, c2, c3, c4⟩ := chkG_right h1
  obtain ⟨s1, s2, s3, s4⟩ := errS_right c1
  obtain ⟨n1, n2⟩ := newE_right h2
  have hm := (wi_iff _ _ _).1 h3
  have hN : chkD (if v < v' then v' else v) (if v < v' then D' else D) = 0 := by split <;> assumption
  have hc : chkG i z s [] (if v < v' then v' else v) (if v < v' then D' else D) 9 (m + 100) = 0 :=
    chkG_of (errS_zero s1 s2 s3 (by simp)) (by rw [aloneE, errA, if_pos rfl, errQ, List.getLast?_nil]) hN (errB_zero.2 ⟨by omega, by omega⟩)
  refine ⟨hc, ?_⟩
  rw [syncG, if_pos hc, newE, if_pos hN, if_pos n2, h3, if_pos rfl]
end Go.Proofs.Ytlnmheooicancaa
