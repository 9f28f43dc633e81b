/-
  The law 'CodeWrong': a code that was changed is none (plain facts).
-/
import Derived.Test.YtcakfmpckbmdeaaC13
namespace Go.Proofs.Ytcakfmpckbmdeaa

theorem codeD_back {N n' : Nat} (h : codeL N = codeL n') : codeD N = codeD n' := by
  have h1 := vals_sgn (codeD_lt N)
  have h2 := vals_sgn (codeD_lt n')
  unfold codeL at h
  rw [h, h2] at h1
  exact (Option.some.inj h1).symm

/-- whatever is parsed is the code of a number -/
theorem parse_code (l : List UInt8) (h : (parseV l).2 ≠ 1) : ∃ n, codeL n = l := by
  unfold parseV at h
  cases hn : nin l with
  | none => simp [hn] at h
  | some n =>
    simp only [hn] at h
    by_cases hc : (decV (digs n 8 8)).2 = 0 ∧ codeL n = l
    · exact ⟨n, hc.2⟩
    · simp [hc] at h

theorem tot_set (l : List Nat) (hl : l.length = 14) (j v u : Nat) (hj : l[j]? = some v) : ∃ w, 1 ≤ w ∧ w < 31 ∧ tot (l.set j u) + v * w = tot l + u * w := by
  have hj14 : j < 14 := by
    have := (List.getElem?_eq_some_iff.1 hj).1; omega
  by_cases h13 : j < 13
  · refine ⟨j + 2, by omega, by omega, ?_⟩
    have hv : (l.take 13)[j]? = some v := by rw [List.getElem?_take, if_pos h13]; exact hj
    have e := wsF_set (l.take 13) 0 j v u hv
    rw [← ws_wsF, ← ws_wsF, show 0 + j + 2 = j + 2 by omega] at e
    unfold tot
    rw [show (l.set j u).take 13 = (l.take 13).set j u by rw [List.take_set]]
    rw [show (l.set j u).getD 13 0 = l.getD 13 0 by simp [List.getD, List.getElem?_set_ne (show j ≠ 13 by omega)]]
    omega
  · have e13 : j = 13 := by omega
    subst e13
    refine ⟨1, by omega, by omega, ?_⟩
    unfold tot
    rw [show (l.set 13 u).take 13 = l.take 13 by rw [List.take_set]; exact List.set_eq_of_length_le (by rw [List.length_take]; omega)]
    rw [show (l.set 13 u).getD 13 0 = u by simp [List.getD, hl]]
    rw [show l.getD 13 0 = v by simp [List.getD, hj]]
    omega

/-- one sign that is another one -/
theorem wrong_one (N j : Nat) (b : UInt8) (hj : j < 14) (hb : (codeL N)[j]'(by rw [codeL_len]; exact hj) ≠ b) : (parseV ((codeL N).set j b)).2 = 1 := by
  by_cases h : (parseV ((codeL N).set j b)).2 = 1
  · exact h
  · exfalso
    obtain ⟨n', hn'⟩ := parse_code _ h
    have hlen : j < (codeL N).length := by rw [codeL_len]; exact hj
    -- the new sign is a sign
    have hvals := vals_sgn (codeD_lt n')
    rw [show (codeD n').map sgn = codeL n' from rfl, hn'] at hvals
    obtain ⟨u, hu, hub⟩ := vals_get hvals j (by rw [List.length_set]; exact hlen)
    rw [List.getElem_set_self] at hub
    have hN := vals_sgn (codeD_lt N)
    rw [show (codeD N).map sgn = codeL N from rfl] at hN
    obtain ⟨v, hv, hvb⟩ := vals_get hN j hlen
    have hset := vals_set hN hub j
    rw [hvals] at hset
    have hD : codeD n' = (codeD N).set j u := Option.some.inj hset
    obtain ⟨w, hw1, hw31, hw⟩ := tot_set (codeD N) (codeD_len N) j v u hv
    have t1 := tot_code N
    have t2 := tot_code n'
    rw [hD] at t2
    have huv : u = v := cancel31 u v w (vof_lt hub).1 (vof_lt hvb).1 hw1 hw31 (by omega)
    apply hb
    rw [← (vof_lt hvb).2, ← (vof_lt hub).2, huv]

/-- two unlike ones side by side that stand the other way round -/
theorem wrong_two (N j : Nat) (hj : j + 2 < 14) (hne : (codeL N)[j]'(by rw [codeL_len]; omega) ≠ (codeL N)[j + 1]'(by rw [codeL_len]; omega)) :
    (parseV (((codeL N).set j ((codeL N)[j + 1]'(by rw [codeL_len]; omega))).set (j + 1) ((codeL N)[j]'(by rw [codeL_len]; omega)))).2 = 1 := by
  have l1 : j < (codeL N).length := by rw [codeL_len]; omega
  have l2 : j + 1 < (codeL N).length := by rw [codeL_len]; omega
  generalize hx : (codeL N)[j] = x at *
  generalize hy : (codeL N)[j + 1] = y at *
  by_cases h : (parseV (((codeL N).set j y).set (j + 1) x)).2 = 1
  · exact h
  · exfalso
    obtain ⟨n', hn'⟩ := parse_code _ h
    have hvals := vals_sgn (codeD_lt n')
    rw [show (codeD n').map sgn = codeL n' from rfl, hn'] at hvals
    have hN := vals_sgn (codeD_lt N)
    rw [show (codeD N).map sgn = codeL N from rfl] at hN
    obtain ⟨v, hv, hvb⟩ := vals_get hN j l1
    obtain ⟨u, hu, hub⟩ := vals_get hN (j + 1) l2
    rw [hx] at hvb
    rw [hy] at hub
    have hset := vals_set (vals_set hN hub j) hvb (j + 1)
    rw [hvals] at hset
    have hD : codeD n' = ((codeD N).set j u).set (j + 1) v := Option.some.inj hset
    have e1 := wsF_set ((codeD N).take 13) 0 j v u (by rw [List.getElem?_take, if_pos (by omega)]; exact hv)
    have e2 := wsF_set (((codeD N).take 13).set j u) 0 (j + 1) u v (by
      rw [List.getElem?_set_ne (by omega), List.getElem?_take, if_pos (by omega)]; exact hu)
    rw [← ws_wsF, ← ws_wsF] at e1 e2
    have t1 := tot_code N
    have t2 := tot_code n'
    rw [hD] at t2
    unfold tot at t1 t2
    rw [show (((codeD N).set j u).set (j + 1) v).take 13 = (((codeD N).take 13).set j u).set (j + 1) v by rw [List.take_set, List.take_set]] at t2
    rw [show (((codeD N).set j u).set (j + 1) v).getD 13 0 = (codeD N).getD 13 0 by
      simp [List.getD, List.getElem?_set_ne (show j ≠ 13 by omega), List.getElem?_set_ne (show j + 1 ≠ 13 by omega)]] at t2
    have hv31 := (vof_lt hvb).1
    have hu31 := (vof_lt hub).1
    have huv : u = v := by
      have e3 : u * (0 + (j + 1) + 2) = u * (0 + j + 2) + u := by rw [show 0 + (j + 1) + 2 = (0 + j + 2) + 1 by omega, Nat.mul_succ]
      have e4 : v * (0 + (j + 1) + 2) = v * (0 + j + 2) + v := by rw [show 0 + (j + 1) + 2 = (0 + j + 2) + 1 by omega, Nat.mul_succ]
      omega
    apply hne
    rw [← (vof_lt hvb).2, ← (vof_lt hub).2, huv]
end Go.Proofs.Ytcakfmpckbmdeaa
