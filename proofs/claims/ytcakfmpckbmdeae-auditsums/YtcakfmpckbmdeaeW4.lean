/-
  The walk of LedgerRides.
-/
import Derived.Test.YtcakfmpckbmdeaeW2
import Derived.Test.YtcakfmpckbmdeaeW3
import Derived.Test.YtcakfmpckbmdeaeM2
import Derived.Test.YtcakfmpckbmdeaeP7
namespace Go.Proofs.Ytcakfmpckbmdeae
open Go.RowKit

theorem enter_err {T : List TK} {P : List TP} {V : List Int} {p : TP} (h : (enterV T P V p).2 ≠ 0) : (enterV T P V p).1 = 0 ∨ (enterV T P V p).1 = 3 := by
  by_cases h1 : chkL T P V = 0
  · by_cases h2 : unf T P p = 0
    · cases h3 : earlyB P p.m
      · by_cases h4 : (judB T (P.zip V) p).2 = 0
        · by_cases h5 : P.length = 60
          · left; simp [enterV, h1, h2, h3, h4, h5]
          · simp [enterV, h1, h2, h3, h4, h5] at h
        · have e : enterV T P V p = judB T (P.zip V) p := by simp [enterV, h1, h2, h3, h4]
          rw [e]
          rcases judgeV_ways (T.getD (posT T p.a) tk0).i (T.getD (posT T p.a) tk0).k (T.getD (posT T p.a) tk0).f (T.getD (posT T p.a) tk0).t (T.getD (posT T p.a) tk0).z (T.getD (posT T p.a) tk0).r (ridesL (P.zip V) p.a).length p (ridesL (P.zip V) p.a) with ⟨_, h⟩ | ⟨h, _⟩
          · exact h
          · exact absurd h h4
      · left; simp [enterV, h1, h2, h3]
    · left; simp [enterV, h1, h2]
  · left; simp [enterV, h1]

theorem LedV.at {w : World} {o1 o2 o3 : Option Addr} {n1 c1 n2 c2 n3 c3 : Nat} {T : List TK} {P : List TP} {V : List Int} (h : LedV w (lg o1 o2 o3 n1 c1 n2 c2 n3 c3) T P V) : TiksAt w o1 T ∧ TapsAt w o2 P ∧ IntsAt w o3 V ∧ T.length ≤ c1 ∧ P.length ≤ c2 ∧ V.length ≤ c3 := by
  obtain ⟨v1, v2, v3, e, ⟨q1, p1, rfl, a1, a2, -⟩, ⟨q2, p2, rfl, b1, b2, -⟩, ⟨q3, p3, rfl, d1, d2, -⟩⟩ := h
  simp only [Value.agg.injEq, Array.mk.injEq, List.cons.injEq, Value.slice.injEq, and_true] at e
  obtain ⟨⟨rfl, -, rfl⟩, ⟨rfl, -, rfl⟩, rfl, -, rfl⟩ := e
  exact ⟨a1, b1, d1, a2, b2, d2⟩

end Go.Proofs.Ytcakfmpckbmdeae
