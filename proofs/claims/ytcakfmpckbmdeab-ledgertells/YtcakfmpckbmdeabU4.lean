/-
  'EnterOf' (package leeboardref), on ledgers that lie behind a value.
-/
import Derived.Test.YtcakfmpckbmdeabU3
namespace Go.Proofs.Ytcakfmpckbmdeab
open Go.RowKit

theorem enterOfV {w : World} {v : Value} {T : List TK} {P : List TP} {V : List Int} (hL : LedV w v T P V) (h0 : chkL T P V = 0) (a g s m z : Int) : Calls Try.prog 23 #[v, tp a g s m z] w fun e w' =>
    (∃ v', e = .returned (.tuple #[v', .int .i64 (enterV T P V ⟨a, g, s, m, z⟩).1, .int .i64 (enterV T P V ⟨a, g, s, m, z⟩).2]) ∧ LedV w' v' (if (enterV T P V ⟨a, g, s, m, z⟩).2 = 0 then T else []) (if (enterV T P V ⟨a, g, s, m, z⟩).2 = 0 then P ++ [(⟨a, g, s, m, z⟩ : TP)] else [])
      (if (enterV T P V ⟨a, g, s, m, z⟩).2 = 0 then V ++ [(enterV T P V ⟨a, g, s, m, z⟩).1] else [])) ∧ Below w.heap.size w w' := by
  obtain ⟨v1, v2, v3, rfl, ⟨o1, c1, rfl, hT, l1, -⟩, ⟨o2, c2, rfl, hP, l2, hn2⟩, ⟨o3, c3, rfl, hV, l3, hn3⟩⟩ := hL
  obtain ⟨r1, r2, r3, r4, r5⟩ := chkL_right h0
  have hti : ∀ y ∈ P, 0 ≤ y.m ∧ y.m ≤ 9999 := fun y hy => (chkP_right (a := y.a) (g := y.g) (s := y.s) (m := y.m) (z := y.z) (errP_all_chk r5 y hy)).2.2.2.1
  rcases enter_ways ⟨a, g, s, m, z⟩ h0 with ⟨h1, e⟩ | ⟨h1, h2, e⟩ | ⟨h1, k, x, hi, hx, hck, ⟨h3, e⟩ | ⟨h3, ⟨n, q, hn, hq, hm⟩, e⟩ | ⟨h3, hno, e⟩⟩
  · rw [e]
    simp only [if_neg h1]
    exact enterOf_tap T P V a g s m z o1 o2 o3 c1 c2 c3 w hT hP hV r1 r2 h1
  · rw [e]
    simp only [if_neg (show ¬ (5 : Int) = 0 by decide)]
    exact enterOf_none T P V a g s m z o1 o2 o3 c1 c2 c3 w hT hP hV r1 r2 h1 h2
  · rw [e]
    simp only [if_neg (show ¬ (6 : Int) = 0 by decide)]
    exact enterOf_twice T P V a g s m z o1 o2 o3 c1 c2 c3 w hT hP hV r1 r2 h1 k hi h3
  · rw [e]
    simp only [if_neg (show ¬ (4 : Int) = 0 by decide)]
    exact enterOf_early T P V a g s m z o1 o2 o3 c1 c2 c3 w hT hP hV r1 r2 h1 k hi h3 n q hn hq hm
  · rw [e]
    by_cases hJ : (judge x.k x.f x.t x.z x.r (many (P.zip V) a).2 (many (P.zip V) a).1 m z).2 = 0
    · rw [if_neg (by simpa using hJ)]
      by_cases h60 : P.length = 60
      · rw [if_pos h60]
        simp only [if_neg (show ¬ (2 : Int) = 0 by decide)]
        exact enterOf_full T P V a g s m z o1 o2 o3 c1 c2 c3 w hT hP hV r1 r2 r3 h1 k x hi hx hck hti h3 hno hJ h60
      · rw [if_neg h60]
        simp only [if_true]
        exact enterOf_ok T P V a g s m z o1 o2 o3 c1 c2 c3 w hT hP hV r1 r2 r3 h1 k x hi hx hck hti h3 hno l1 hn2 hn3 hJ h60
    · rw [if_pos hJ]
      simp only [if_neg hJ]
      exact enterOf_judged T P V a g s m z o1 o2 o3 c1 c2 c3 w hT hP hV r1 r2 r3 h1 k x hi hx hck hti h3 hno hJ

end Go.Proofs.Ytcakfmpckbmdeab
