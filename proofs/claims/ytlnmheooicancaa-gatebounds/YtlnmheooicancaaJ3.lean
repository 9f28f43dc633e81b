/-
  'Check', 'unfit', 'shut', 'spent', 'next' (package gate).
-/
import Derived.Test.YtlnmheooicancaaJ2
namespace Go.Proofs.Ytlnmheooicancaa
open Go.RowKit

/-- what is wrong with a gate -/
def chkG (i z s : Int) (P : List TP) (v : Int) (D : List Int) (l u : Int) : Int := if errS i z s P.length = 0 then (if aloneE i z s P = 0 then (if chkD v D = 0 then errB l u else chkD v D) else aloneE i z s P) else errS i z s P.length

theorem chkG_ways (i z s : Int) (P : List TP) (v : Int) (D : List Int) (l u : Int) : ((errS i z s P.length != 0) = true ∧ chkG i z s P v D l u = errS i z s P.length) ∨ (errS i z s P.length = 0 ∧ (aloneE i z s P != 0) = true ∧ chkG i z s P v D l u = aloneE i z s P) ∨
    (errS i z s P.length = 0 ∧ aloneE i z s P = 0 ∧ (chkD v D != 0) = true ∧ chkG i z s P v D l u = chkD v D) ∨ (errS i z s P.length = 0 ∧ aloneE i z s P = 0 ∧ chkD v D = 0 ∧ chkG i z s P v D l u = errB l u) := by
  rw [chkG]
  by_cases h1 : errS i z s P.length = 0
  · by_cases h2 : aloneE i z s P = 0
    · by_cases h3 : chkD v D = 0
      · simp [h1, h2, h3]
      · simp [h1, h2, h3]
    · simp [h1, h2]
  · simp [h1]

theorem errS_right {i z s : Int} {n : Nat} (h : errS i z s n = 0) : (0 ≤ i ∧ i ≤ 2) ∧ (0 ≤ s ∧ s ≤ 99) ∧ isZ z = true ∧ n ≤ 12 := by
  rw [errS] at h
  split at h
  · cases h
  · rename_i h1
    split at h
    · cases h
    · rename_i h2
      split at h
      · cases h
      · rename_i h3
        have h1' : (wi i 0 2 && wi s 0 99) = true := by simpa using h1
        rw [Bool.and_eq_true, wi_iff, wi_iff] at h1'
        exact ⟨h1'.1, h1'.2, by simpa using h2, by omega⟩

set_option maxHeartbeats 3200000 in
theorem gateCheck_any (i z s : Int) (oa : Option Addr) (P : List TP) (ca : Nat) (v : Int) (od : Option Addr) (D : List Int) (cd : Nat) (l u : Int) (w : World) (hP : TapsAt w oa P) (hD : IntsAt w od D) (hlD : D.length ≤ 9223372036854775807) :
    Calls Try.prog 5 #[gtV i z s oa P.length ca v od D.length cd l u] w fun e w' => e = .returned (.int .i64 (chkG i z s P v D l u)) ∧ Below w.heap.size w w' := by
  have HS := hide (fun W => checkSelf_any i z s oa P.length ca v od D.length cd l u W)
  have HA := hide (fun W (h0 : errS i z s P.length = 0) (h : TapsAt W oa P) => checkAlone_any i z s oa P ca v od D.length cd l u W h (errS_right h0).2.2.2)
  have HC := hide (fun W (h : IntsAt W od D) => denCheck_any v D od cd W h hlD)
  have HU := hide (fun W => checkBudget_any i z s oa P.length ca v od D.length cd l u W)
  have HP := hide hP
  have HD := hide hD
  have hp := chkG_ways i z s P v D l u
  generalize chkG i z s P v D l u = E at *
  generalize errS i z s P.length = X1 at *
  generalize aloneE i z s P = X2 at *
  generalize chkD v D = X3 at *
  generalize errB l u = X4 at *
  clear hP hD
  rcases hp with ⟨h1, rfl⟩ | ⟨rfl, h1, rfl⟩ | ⟨rfl, rfl, h1, rfl⟩ | ⟨rfl, rfl, rfl, rfl⟩
  all_goals
    go_enter Try.func5, Try.ntmps5
    go_wp2_with fail
    have HG1 := hide (((Blks.nil w).more (.cells #[.int .i64 i, .int .i64 z, .int .i64 s, .slice oa P.length ca, .int .i64 v, .slice od D.length cd, .int .i64 l, .int .i64 u] 29) (by simp)).more (.cells #[.int .i64 i, .int .i64 z, .int .i64 s, .slice oa P.length ca, .int .i64 v, .slice od D.length cd, .int .i64 l, .int .i64 u] 48) (by simp))
    refine (HS.out _).mono ?_
    rintro e w1 ⟨rfl, hb⟩
    have HG1w1 := hide (HG1.out.on hb)
    clear hb HG1
    have lG1_0 := HG1w1.out.lt 0 w.heap.size (by simp) rfl
    have cG1_0_0 := HG1w1.out.cell 0 0 w.heap.size _ _ _ rfl rfl rfl
    have cG1_0_1 := HG1w1.out.cell 0 1 w.heap.size _ _ _ rfl rfl rfl
    have cG1_0_2 := HG1w1.out.cell 0 2 w.heap.size _ _ _ rfl rfl rfl
    have cG1_0_3 := HG1w1.out.cell 0 3 w.heap.size _ _ _ rfl rfl rfl
    have cG1_0_4 := HG1w1.out.cell 0 4 w.heap.size _ _ _ rfl rfl rfl
    have cG1_0_5 := HG1w1.out.cell 0 5 w.heap.size _ _ _ rfl rfl rfl
    have cG1_0_6 := HG1w1.out.cell 0 6 w.heap.size _ _ _ rfl rfl rfl
    have cG1_0_7 := HG1w1.out.cell 0 7 w.heap.size _ _ _ rfl rfl rfl
    have lG1_1 := HG1w1.out.lt 1 (w.heap.size + 1) (by simp) rfl
    have cG1_1_0 := HG1w1.out.cell 1 0 (w.heap.size + 1) _ _ _ rfl rfl rfl
    have cG1_1_1 := HG1w1.out.cell 1 1 (w.heap.size + 1) _ _ _ rfl rfl rfl
    have cG1_1_2 := HG1w1.out.cell 1 2 (w.heap.size + 1) _ _ _ rfl rfl rfl
    have cG1_1_3 := HG1w1.out.cell 1 3 (w.heap.size + 1) _ _ _ rfl rfl rfl
    have cG1_1_4 := HG1w1.out.cell 1 4 (w.heap.size + 1) _ _ _ rfl rfl rfl
    have cG1_1_5 := HG1w1.out.cell 1 5 (w.heap.size + 1) _ _ _ rfl rfl rfl
    have cG1_1_6 := HG1w1.out.cell 1 6 (w.heap.size + 1) _ _ _ rfl rfl rfl
    have cG1_1_7 := HG1w1.out.cell 1 7 (w.heap.size + 1) _ _ _ rfl rfl rfl
    go_wp2_with fail
  · go_ret
    exact ⟨rfl, HG1w1.out.2.2⟩
  all_goals
    refine (HA.out _ trivial (HP.out.below HG1w1.out.2.2)).mono ?_
    rintro e w2 ⟨rfl, hb⟩
    have HG1w2 := hide (HG1w1.out.on hb)
    clear lG1_0 cG1_0_0 cG1_0_1 cG1_0_2 cG1_0_3 cG1_0_4 cG1_0_5 cG1_0_6 cG1_0_7 lG1_1 cG1_1_0 cG1_1_1 cG1_1_2 cG1_1_3 cG1_1_4 cG1_1_5 cG1_1_6 cG1_1_7
    clear hb HG1w1
    have lG1_0 := HG1w2.out.lt 0 w.heap.size (by simp) rfl
    have cG1_0_0 := HG1w2.out.cell 0 0 w.heap.size _ _ _ rfl rfl rfl
    have cG1_0_1 := HG1w2.out.cell 0 1 w.heap.size _ _ _ rfl rfl rfl
    have cG1_0_2 := HG1w2.out.cell 0 2 w.heap.size _ _ _ rfl rfl rfl
    have cG1_0_3 := HG1w2.out.cell 0 3 w.heap.size _ _ _ rfl rfl rfl
    have cG1_0_4 := HG1w2.out.cell 0 4 w.heap.size _ _ _ rfl rfl rfl
    have cG1_0_5 := HG1w2.out.cell 0 5 w.heap.size _ _ _ rfl rfl rfl
    have cG1_0_6 := HG1w2.out.cell 0 6 w.heap.size _ _ _ rfl rfl rfl
    have cG1_0_7 := HG1w2.out.cell 0 7 w.heap.size _ _ _ rfl rfl rfl
    have lG1_1 := HG1w2.out.lt 1 (w.heap.size + 1) (by simp) rfl
    have cG1_1_0 := HG1w2.out.cell 1 0 (w.heap.size + 1) _ _ _ rfl rfl rfl
    have cG1_1_1 := HG1w2.out.cell 1 1 (w.heap.size + 1) _ _ _ rfl rfl rfl
    have cG1_1_2 := HG1w2.out.cell 1 2 (w.heap.size + 1) _ _ _ rfl rfl rfl
    have cG1_1_3 := HG1w2.out.cell 1 3 (w.heap.size + 1) _ _ _ rfl rfl rfl
    have cG1_1_4 := HG1w2.out.cell 1 4 (w.heap.size + 1) _ _ _ rfl rfl rfl
    have cG1_1_5 := HG1w2.out.cell 1 5 (w.heap.size + 1) _ _ _ rfl rfl rfl
    have cG1_1_6 := HG1w2.out.cell 1 6 (w.heap.size + 1) _ _ _ rfl rfl rfl
    have cG1_1_7 := HG1w2.out.cell 1 7 (w.heap.size + 1) _ _ _ rfl rfl rfl
    go_wp2_with fail
  · go_ret
    exact ⟨rfl, HG1w2.out.2.2⟩
  all_goals
    refine (HC.out _ (HD.out.below HG1w2.out.2.2)).mono ?_
    rintro e w3 ⟨rfl, hb⟩
    have HG1w3 := hide (HG1w2.out.on hb)
    clear lG1_0 cG1_0_0 cG1_0_1 cG1_0_2 cG1_0_3 cG1_0_4 cG1_0_5 cG1_0_6 cG1_0_7 lG1_1 cG1_1_0 cG1_1_1 cG1_1_2 cG1_1_3 cG1_1_4 cG1_1_5 cG1_1_6 cG1_1_7
    clear hb HG1w2
    have lG1_0 := HG1w3.out.lt 0 w.heap.size (by simp) rfl
    have cG1_0_0 := HG1w3.out.cell 0 0 w.heap.size _ _ _ rfl rfl rfl
    have cG1_0_1 := HG1w3.out.cell 0 1 w.heap.size _ _ _ rfl rfl rfl
    have cG1_0_2 := HG1w3.out.cell 0 2 w.heap.size _ _ _ rfl rfl rfl
    have cG1_0_3 := HG1w3.out.cell 0 3 w.heap.size _ _ _ rfl rfl rfl
    have cG1_0_4 := HG1w3.out.cell 0 4 w.heap.size _ _ _ rfl rfl rfl
    have cG1_0_5 := HG1w3.out.cell 0 5 w.heap.size _ _ _ rfl rfl rfl
    have cG1_0_6 := HG1w3.out.cell 0 6 w.heap.size _ _ _ rfl rfl rfl
    have cG1_0_7 := HG1w3.out.cell 0 7 w.heap.size _ _ _ rfl rfl rfl
    have lG1_1 := HG1w3.out.lt 1 (w.heap.size + 1) (by simp) rfl
    have cG1_1_0 := HG1w3.out.cell 1 0 (w.heap.size + 1) _ _ _ rfl rfl rfl
    have cG1_1_1 := HG1w3.out.cell 1 1 (w.heap.size + 1) _ _ _ rfl rfl rfl
    have cG1_1_2 := HG1w3.out.cell 1 2 (w.heap.size + 1) _ _ _ rfl rfl rfl
    have cG1_1_3 := HG1w3.out.cell 1 3 (w.heap.size + 1) _ _ _ rfl rfl rfl
    have cG1_1_4 := HG1w3.out.cell 1 4 (w.heap.size + 1) _ _ _ rfl rfl rfl
    have cG1_1_5 := HG1w3.out.cell 1 5 (w.heap.size + 1) _ _ _ rfl rfl rfl
    have cG1_1_6 := HG1w3.out.cell 1 6 (w.heap.size + 1) _ _ _ rfl rfl rfl
    have cG1_1_7 := HG1w3.out.cell 1 7 (w.heap.size + 1) _ _ _ rfl rfl rfl
    go_wp2_with fail
  · go_ret
    exact ⟨rfl, HG1w3.out.2.2⟩
  · refine (HU.out _).mono ?_
    rintro e w4 ⟨rfl, hb⟩
    have HG1w4 := hide (HG1w3.out.on hb)
    clear lG1_0 cG1_0_0 cG1_0_1 cG1_0_2 cG1_0_3 cG1_0_4 cG1_0_5 cG1_0_6 cG1_0_7 lG1_1 cG1_1_0 cG1_1_1 cG1_1_2 cG1_1_3 cG1_1_4 cG1_1_5 cG1_1_6 cG1_1_7
    clear hb HG1w3
    go_wp2_with fail
    go_ret
    exact ⟨rfl, HG1w4.out.2.2⟩

/-- why the gate can't be asked for a ticket at a time -/
def unfG (i z s : Int) (P : List TP) (v : Int) (D : List Int) (l u : Int) (x : TK) (m : Int) : Int :=
  if chkG i z s P v D l u = 0 then (if chkK x = 0 then (if wi m 0 9999 = true then (if earlyG P m = true then 4 else 0) else 3) else chkK x) else chkG i z s P v D l u

theorem unfG_ways (i z s : Int) (P : List TP) (v : Int) (D : List Int) (l u : Int) (x : TK) (m : Int) : ((chkG i z s P v D l u != 0) = true ∧ unfG i z s P v D l u x m = chkG i z s P v D l u) ∨ (chkG i z s P v D l u = 0 ∧ (chkK x != 0) = true ∧ unfG i z s P v D l u x m = chkK x) ∨
    (chkG i z s P v D l u = 0 ∧ chkK x = 0 ∧ wi m 0 9999 = false ∧ unfG i z s P v D l u x m = 3) ∨ (chkG i z s P v D l u = 0 ∧ chkK x = 0 ∧ wi m 0 9999 = true ∧ earlyG P m = true ∧ unfG i z s P v D l u x m = 4) ∨
    (chkG i z s P v D l u = 0 ∧ chkK x = 0 ∧ wi m 0 9999 = true ∧ earlyG P m = false ∧ unfG i z s P v D l u x m = 0) := by
  rw [unfG]
  by_cases h1 : chkG i z s P v D l u = 0
  · by_cases h2 : chkK x = 0
    · cases wi m 0 9999 <;> cases earlyG P m <;> simp [h1, h2]
    · simp [h1, h2]
  · simp [h1]

theorem chkG_right {i z s : Int} {P : List TP} {v : Int} {D : List Int} {l u : Int} (h : chkG i z s P v D l u = 0) : errS i z s P.length = 0 ∧ aloneE i z s P = 0 ∧ chkD v D = 0 ∧ errB l u = 0 := by
  rcases chkG_ways i z s P v D l u with ⟨h1, h2⟩ | ⟨h1, h2, h3⟩ | ⟨h1, h2, h3, h4⟩ | ⟨h1, h2, h3, h4⟩
  · rw [h2] at h; rw [h] at h1; cases h1
  · rw [h3] at h; rw [h] at h2; cases h2
  · rw [h4] at h; rw [h] at h3; cases h3
  · exact ⟨h1, h2, h3, h4.symm.trans h⟩

set_option maxHeartbeats 3200000 in
theorem gateUnfit_any (i z s : Int) (oa : Option Addr) (P : List TP) (ca : Nat) (v : Int) (od : Option Addr) (D : List Int) (cd : Nat) (l u : Int) (ti k f t y r m : Int) (w : World) (hP : TapsAt w oa P) (hD : IntsAt w od D) (hlD : D.length ≤ 9223372036854775807) :
    Calls Try.prog 16 #[gtV i z s oa P.length ca v od D.length cd l u, tk ti k f t y r, .int .i64 m] w fun e w' => e = .returned (.int .i64 (unfG i z s P v D l u ⟨ti, k, f, t, y, r⟩ m)) ∧ Below w.heap.size w w' := by
  have HC := hide (fun W (h : TapsAt W oa P) (h' : IntsAt W od D) => gateCheck_any i z s oa P ca v od D cd l u W h h' hlD)
  have HT := hide (fun W => check_any ti k f t y r W)
  have HI := hide (fun W => isTime_any m W)
  have HE := hide (fun W (h0 : chkG i z s P v D l u = 0) (h : TapsAt W oa P) => earlyG_any i z s oa P ca v od D.length cd l u m W h (errS_right (chkG_right h0).1).2.2.2)
  have HP := hide hP
  have HD := hide hD
  have hp := unfG_ways i z s P v D l u ⟨ti, k, f, t, y, r⟩ m
  rw [show chkK ⟨ti, k, f, t, y, r⟩ = chk ti k f t y r from rfl] at hp
  generalize unfG i z s P v D l u ⟨ti, k, f, t, y, r⟩ m = E at *
  generalize chkG i z s P v D l u = X1 at *
  generalize chk ti k f t y r = X2 at *
  generalize wi m 0 9999 = X3 at *
  generalize earlyG P m = X4 at *
  clear hP hD
  rcases hp with ⟨h1, rfl⟩ | ⟨rfl, h1, rfl⟩ | ⟨rfl, rfl, rfl, rfl⟩ | ⟨rfl, rfl, rfl, rfl, rfl⟩ | ⟨rfl, rfl, rfl, rfl, rfl⟩
  all_goals
    go_enter Try.func16, Try.ntmps16
    go_wp2_with fail
    have HG1 := hide (((Blks.nil w).more (.cells #[.int .i64 i, .int .i64 z, .int .i64 s, .slice oa P.length ca, .int .i64 v, .slice od D.length cd, .int .i64 l, .int .i64 u] 48) (by simp)).more (.cells #[.int .i64 ti, .int .i64 k, .int .i64 f, .int .i64 t, .int .i64 y, .int .i64 r] 39) (by simp))
    refine (HC.out _ (HP.out.below HG1.out.2.2) (HD.out.below HG1.out.2.2)).mono ?_
    rintro e w1 ⟨rfl, hb⟩
    have HG1w1 := hide (HG1.out.on hb)
    clear hb HG1
    have lG1_0 := HG1w1.out.lt 0 w.heap.size (by simp) rfl
    have cG1_0_0 := HG1w1.out.cell 0 0 w.heap.size _ _ _ rfl rfl rfl
    have cG1_0_1 := HG1w1.out.cell 0 1 w.heap.size _ _ _ rfl rfl rfl
    have cG1_0_2 := HG1w1.out.cell 0 2 w.heap.size _ _ _ rfl rfl rfl
    have cG1_0_3 := HG1w1.out.cell 0 3 w.heap.size _ _ _ rfl rfl rfl
    have cG1_0_4 := HG1w1.out.cell 0 4 w.heap.size _ _ _ rfl rfl rfl
    have cG1_0_5 := HG1w1.out.cell 0 5 w.heap.size _ _ _ rfl rfl rfl
    have cG1_0_6 := HG1w1.out.cell 0 6 w.heap.size _ _ _ rfl rfl rfl
    have cG1_0_7 := HG1w1.out.cell 0 7 w.heap.size _ _ _ rfl rfl rfl
    have lG1_1 := HG1w1.out.lt 1 (w.heap.size + 1) (by simp) rfl
    have cG1_1_0 := HG1w1.out.cell 1 0 (w.heap.size + 1) _ _ _ rfl rfl rfl
    have cG1_1_1 := HG1w1.out.cell 1 1 (w.heap.size + 1) _ _ _ rfl rfl rfl
    have cG1_1_2 := HG1w1.out.cell 1 2 (w.heap.size + 1) _ _ _ rfl rfl rfl
    have cG1_1_3 := HG1w1.out.cell 1 3 (w.heap.size + 1) _ _ _ rfl rfl rfl
    have cG1_1_4 := HG1w1.out.cell 1 4 (w.heap.size + 1) _ _ _ rfl rfl rfl
    have cG1_1_5 := HG1w1.out.cell 1 5 (w.heap.size + 1) _ _ _ rfl rfl rfl
    go_wp2_with fail
  · go_ret
    exact ⟨rfl, HG1w1.out.2.2⟩
  all_goals
    refine (HT.out _).mono ?_
    rintro e w2 ⟨rfl, hb⟩
    have HG1w2 := hide (HG1w1.out.on hb)
    clear lG1_0 cG1_0_0 cG1_0_1 cG1_0_2 cG1_0_3 cG1_0_4 cG1_0_5 cG1_0_6 cG1_0_7 lG1_1 cG1_1_0 cG1_1_1 cG1_1_2 cG1_1_3 cG1_1_4 cG1_1_5
    clear hb HG1w1
    have lG1_0 := HG1w2.out.lt 0 w.heap.size (by simp) rfl
    have cG1_0_0 := HG1w2.out.cell 0 0 w.heap.size _ _ _ rfl rfl rfl
    have cG1_0_1 := HG1w2.out.cell 0 1 w.heap.size _ _ _ rfl rfl rfl
    have cG1_0_2 := HG1w2.out.cell 0 2 w.heap.size _ _ _ rfl rfl rfl
    have cG1_0_3 := HG1w2.out.cell 0 3 w.heap.size _ _ _ rfl rfl rfl
    have cG1_0_4 := HG1w2.out.cell 0 4 w.heap.size _ _ _ rfl rfl rfl
    have cG1_0_5 := HG1w2.out.cell 0 5 w.heap.size _ _ _ rfl rfl rfl
    have cG1_0_6 := HG1w2.out.cell 0 6 w.heap.size _ _ _ rfl rfl rfl
    have cG1_0_7 := HG1w2.out.cell 0 7 w.heap.size _ _ _ rfl rfl rfl
    have lG1_1 := HG1w2.out.lt 1 (w.heap.size + 1) (by simp) rfl
    have cG1_1_0 := HG1w2.out.cell 1 0 (w.heap.size + 1) _ _ _ rfl rfl rfl
    have cG1_1_1 := HG1w2.out.cell 1 1 (w.heap.size + 1) _ _ _ rfl rfl rfl
    have cG1_1_2 := HG1w2.out.cell 1 2 (w.heap.size + 1) _ _ _ rfl rfl rfl
    have cG1_1_3 := HG1w2.out.cell 1 3 (w.heap.size + 1) _ _ _ rfl rfl rfl
    have cG1_1_4 := HG1w2.out.cell 1 4 (w.heap.size + 1) _ _ _ rfl rfl rfl
    have cG1_1_5 := HG1w2.out.cell 1 5 (w.heap.size + 1) _ _ _ rfl rfl rfl
    go_wp2_with fail
  · go_ret
    exact ⟨rfl, HG1w2.out.2.2⟩
  all_goals
    refine (HI.out _).mono ?_
    rintro e w3 ⟨rfl, rfl⟩
    go_wp2_with fail
  · go_ret
    exact ⟨rfl, HG1w2.out.2.2⟩
  all_goals
    refine (HE.out _ trivial (HP.out.below HG1w2.out.2.2)).mono ?_
    rintro e w4 ⟨rfl, hb⟩
    have HG1w4 := hide (HG1w2.out.on hb)
    clear lG1_0 cG1_0_0 cG1_0_1 cG1_0_2 cG1_0_3 cG1_0_4 cG1_0_5 cG1_0_6 cG1_0_7 lG1_1 cG1_1_0 cG1_1_1 cG1_1_2 cG1_1_3 cG1_1_4 cG1_1_5
    clear hb HG1w2
    go_wp2_with fail
    go_ret
    exact ⟨rfl, HG1w4.out.2.2⟩
end Go.Proofs.Ytlnmheooicancaa
