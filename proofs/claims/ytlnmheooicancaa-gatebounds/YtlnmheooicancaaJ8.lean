/-
  'told', 'Sync' (package gate).
-/
import Derived.Test.YtlnmheooicancaaJ7
namespace Go.Proofs.Ytlnmheooicancaa
open Go.RowKit

set_option maxHeartbeats 1600000 in
theorem told_any (i z s : Int) (oa : Option Addr) (P : List TP) (ca : Nat) (v : Int) (od : Option Addr) (D : List Int) (cd : Nat) (l u : Int) (v' : Int) (od' : Option Addr) (nd' cd' : Nat) (m : Int) (w : World) (hm : 0 ≤ m) (hm2 : m ≤ 9999) :
    Calls Try.prog 24 #[gtV i z s oa P.length ca v od D.length cd l u, dn v' od' nd' cd', .int .i64 m] w fun e w' => e = .returned (gtV i z s none 0 0 v' od' nd' cd' 9 (m + 100)) ∧ Below w.heap.size w w' := by
  have hwr : IntKind.i64.wrap (m + 100) = m + 100 := by rw [IntKind.wrap_i64]; omega
  go_enter Try.func24, Try.ntmps24
  go_wp2_with fail
  refine bodyPost_ret (v := gtV i z s none 0 0 v' od' nd' cd' 9 (m + 100)) (by simp [results, Try.results24, go_sem]) rfl ⟨rfl, ?_⟩
  exact (((Below.refl _ _).alloc (Nat.le_refl _) _).alloc (by simp) _).alloc (by simp; omega) _

/-- what Sync says -/
def syncG (i z s : Int) (P : List TP) (v : Int) (D : List Int) (l u v' : Int) (D' : List Int) (m : Int) : Int :=
  if chkG i z s P v D l u = 0 then (if newE v D v' D' = 0 then (if wi m 0 9999 = true then 0 else 3) else newE v D v' D') else chkG i z s P v D l u

theorem syncG_ways (i z s : Int) (P : List TP) (v : Int) (D : List Int) (l u v' : Int) (D' : List Int) (m : Int) : ((chkG i z s P v D l u != 0) = true ∧ syncG i z s P v D l u v' D' m = chkG i z s P v D l u) ∨ (chkG i z s P v D l u = 0 ∧ (newE v D v' D' != 0) = true ∧ syncG i z s P v D l u v' D' m = newE v D v' D') ∨
    (chkG i z s P v D l u = 0 ∧ newE v D v' D' = 0 ∧ wi m 0 9999 = false ∧ syncG i z s P v D l u v' D' m = 3) ∨ (chkG i z s P v D l u = 0 ∧ newE v D v' D' = 0 ∧ wi m 0 9999 = true ∧ syncG i z s P v D l u v' D' m = 0) := by
  rw [syncG]
  by_cases h1 : chkG i z s P v D l u = 0
  · by_cases h2 : newE v D v' D' = 0
    · cases wi m 0 9999 <;> simp [h1, h2]
    · simp [h1, h2]
  · simp [h1]

set_option maxHeartbeats 1200000 in
theorem gateSync_err (i z s : Int) (oa : Option Addr) (P : List TP) (ca : Nat) (v : Int) (od : Option Addr) (D : List Int) (cd : Nat) (l u : Int) (v' : Int) (od' : Option Addr) (D' : List Int) (cd' : Nat) (m : Int) (w : World) (hP : TapsAt w oa P) (hD : IntsAt w od D) (hD' : IntsAt w od' D') (hlD : D.length ≤ 9223372036854775807) (hlD' : D'.length ≤ 9223372036854775807) (hE : syncG i z s P v D l u v' D' m ≠ 0) :
    Calls Try.prog 11 #[gtV i z s oa P.length ca v od D.length cd l u, dn v' od' D'.length cd', .int .i64 m] w fun e w' => e = .returned (.tuple #[gtV 0 0 0 none 0 0 0 none 0 0 0 0, .slice none 0 0, .int .i64 (syncG i z s P v D l u v' D' m)]) ∧ Below w.heap.size w w' := by
  have HC := hide (fun W (h : TapsAt W oa P) (h' : IntsAt W od D) => gateCheck_any i z s oa P ca v od D cd l u W h h' hlD)
  have HN := hide (fun W (h : IntsAt W od D) (h' : IntsAt W od' D') => newerF_any v v' D D' od od' cd cd' W h h' hlD hlD')
  have HI := hide (fun W => isTime_any m W)
  have HP := hide hP
  have HD := hide hD
  have HD' := hide hD'
  have hp := syncG_ways i z s P v D l u v' D' m
  generalize syncG i z s P v D l u v' D' m = E at *
  generalize chkG i z s P v D l u = X1 at *
  generalize (if newE v D v' D' = 0 then (if v < v' then v' else v) else 0) = V at *
  generalize (if newE v D v' D' = 0 then (if v < v' then D' else D) else []) = N at *
  generalize newE v D v' D' = X2 at *
  generalize wi m 0 9999 = X3 at *
  clear hP hD hD'
  rcases hp with ⟨h1, rfl⟩ | ⟨rfl, h1, rfl⟩ | ⟨rfl, rfl, rfl, rfl⟩ | ⟨-, -, -, rfl⟩
  rotate_left 3
  · exact absurd rfl hE
  all_goals
    clear hE
    go_enter Try.func11, Try.ntmps11
    go_wp2_with fail
    have HG1 := hide ((((Blks.nil w).more (.cells #[.int .i64 i, .int .i64 z, .int .i64 s, .slice oa P.length ca, .int .i64 v, .slice od D.length cd, .int .i64 l, .int .i64 u] 29) (by simp)).more (.cells #[.int .i64 v', .slice od' D'.length cd'] 25) (by simp)).more (.cells #[.int .i64 0, .int .i64 0, .int .i64 0, .slice none 0 0, .int .i64 0, .slice none 0 0, .int .i64 0, .int .i64 0] 29) (by simp))
    refine (HC.out _ (HP.out.below HG1.out.2.2) (HD.out.below HG1.out.2.2)).mono ?_
    rintro e w1 ⟨rfl, hb⟩
    have HG1w1 := hide (HG1.out.on hb)
    clear hb HG1
    have lG1_0 := HG1w1.out.lt 0 w.heap.size (by simp) rfl
    have cG1_0_0 := HG1w1.out.cell 0 0 w.heap.size _ _ _ rfl rfl rfl
    have cG1_0_1 := HG1w1.out.cell 0 1 w.heap.size _ _ _ rfl rfl rfl
    have cG1_0_2 := HG1w1.out.cell 0 2 w.heap.size _ _ _ rfl rfl rfl
    have cG1_0_3 := HG1w1.out.cell 0 3 w.heap.size _ _ _ rfl rfl rfl
    have cG1_0_4 := HG1w1.out.cell 0 4 w.heap.size _ _ _ rfl rfl rfl
    have cG1_0_5 := HG1w1.out.cell 0 5 w.heap.size _ _ _ rfl rfl rfl
    have cG1_0_6 := HG1w1.out.cell 0 6 w.heap.size _ _ _ rfl rfl rfl
    have cG1_0_7 := HG1w1.out.cell 0 7 w.heap.size _ _ _ rfl rfl rfl
    have lG1_1 := HG1w1.out.lt 1 (w.heap.size + 1) (by simp) rfl
    have cG1_1_0 := HG1w1.out.cell 1 0 (w.heap.size + 1) _ _ _ rfl rfl rfl
    have cG1_1_1 := HG1w1.out.cell 1 1 (w.heap.size + 1) _ _ _ rfl rfl rfl
    have lG1_2 := HG1w1.out.lt 2 (w.heap.size + 1 + 1) (by simp) rfl
    have cG1_2_0 := HG1w1.out.cell 2 0 (w.heap.size + 1 + 1) _ _ _ rfl rfl rfl
    have fG1_2_0 := HG1w1.out.frozen 2 0 (w.heap.size + 1 + 1) _ _ rfl rfl
    have cG1_2_1 := HG1w1.out.cell 2 1 (w.heap.size + 1 + 1) _ _ _ rfl rfl rfl
    have fG1_2_1 := HG1w1.out.frozen 2 1 (w.heap.size + 1 + 1) _ _ rfl rfl
    have cG1_2_2 := HG1w1.out.cell 2 2 (w.heap.size + 1 + 1) _ _ _ rfl rfl rfl
    have fG1_2_2 := HG1w1.out.frozen 2 2 (w.heap.size + 1 + 1) _ _ rfl rfl
    have cG1_2_3 := HG1w1.out.cell 2 3 (w.heap.size + 1 + 1) _ _ _ rfl rfl rfl
    have fG1_2_3 := HG1w1.out.frozen 2 3 (w.heap.size + 1 + 1) _ _ rfl rfl
    have cG1_2_4 := HG1w1.out.cell 2 4 (w.heap.size + 1 + 1) _ _ _ rfl rfl rfl
    have fG1_2_4 := HG1w1.out.frozen 2 4 (w.heap.size + 1 + 1) _ _ rfl rfl
    have cG1_2_5 := HG1w1.out.cell 2 5 (w.heap.size + 1 + 1) _ _ _ rfl rfl rfl
    have fG1_2_5 := HG1w1.out.frozen 2 5 (w.heap.size + 1 + 1) _ _ rfl rfl
    have cG1_2_6 := HG1w1.out.cell 2 6 (w.heap.size + 1 + 1) _ _ _ rfl rfl rfl
    have fG1_2_6 := HG1w1.out.frozen 2 6 (w.heap.size + 1 + 1) _ _ rfl rfl
    have cG1_2_7 := HG1w1.out.cell 2 7 (w.heap.size + 1 + 1) _ _ _ rfl rfl rfl
    have fG1_2_7 := HG1w1.out.frozen 2 7 (w.heap.size + 1 + 1) _ _ rfl rfl
    go_wp2_with fail
  · refine bodyPost_ret (v := .tuple #[gtV 0 0 0 none 0 0 0 none 0 0 0 0, .slice none 0 0, .int .i64 E]) (by simp [results, Try.results11, go_sem, *]) rfl ⟨rfl, ?_⟩
    repeat (first | with_reducible refine Below.setCell ?_ (by simp; try omega) _ | with_reducible refine Below.alloc ?_ (by simp; omega) _)
    exact HG1w1.out.2.2
  all_goals
    refine (HN.out _ (HD.out.below HG1w1.out.2.2) (HD'.out.below HG1w1.out.2.2)).mono ?_
    rintro e w2 ⟨⟨x, rfl, ⟨on, cn, rfl, hI⟩, hf⟩, hb⟩
    have HG1w2 := hide (HG1w1.out.on hb)
    clear hI hf
    clear lG1_0 cG1_0_0 cG1_0_1 cG1_0_2 cG1_0_3 cG1_0_4 cG1_0_5 cG1_0_6 cG1_0_7 lG1_1 cG1_1_0 cG1_1_1 lG1_2 cG1_2_0 fG1_2_0 cG1_2_1 fG1_2_1 cG1_2_2 fG1_2_2 cG1_2_3 fG1_2_3 cG1_2_4 fG1_2_4 cG1_2_5 fG1_2_5 cG1_2_6 fG1_2_6 cG1_2_7 fG1_2_7
    clear hb HG1w1
    have lG1_0 := HG1w2.out.lt 0 w.heap.size (by simp) rfl
    have cG1_0_0 := HG1w2.out.cell 0 0 w.heap.size _ _ _ rfl rfl rfl
    have cG1_0_1 := HG1w2.out.cell 0 1 w.heap.size _ _ _ rfl rfl rfl
    have cG1_0_2 := HG1w2.out.cell 0 2 w.heap.size _ _ _ rfl rfl rfl
    have cG1_0_3 := HG1w2.out.cell 0 3 w.heap.size _ _ _ rfl rfl rfl
    have cG1_0_4 := HG1w2.out.cell 0 4 w.heap.size _ _ _ rfl rfl rfl
    have cG1_0_5 := HG1w2.out.cell 0 5 w.heap.size _ _ _ rfl rfl rfl
    have cG1_0_6 := HG1w2.out.cell 0 6 w.heap.size _ _ _ rfl rfl rfl
    have cG1_0_7 := HG1w2.out.cell 0 7 w.heap.size _ _ _ rfl rfl rfl
    have lG1_1 := HG1w2.out.lt 1 (w.heap.size + 1) (by simp) rfl
    have cG1_1_0 := HG1w2.out.cell 1 0 (w.heap.size + 1) _ _ _ rfl rfl rfl
    have cG1_1_1 := HG1w2.out.cell 1 1 (w.heap.size + 1) _ _ _ rfl rfl rfl
    have lG1_2 := HG1w2.out.lt 2 (w.heap.size + 1 + 1) (by simp) rfl
    have cG1_2_0 := HG1w2.out.cell 2 0 (w.heap.size + 1 + 1) _ _ _ rfl rfl rfl
    have fG1_2_0 := HG1w2.out.frozen 2 0 (w.heap.size + 1 + 1) _ _ rfl rfl
    have cG1_2_1 := HG1w2.out.cell 2 1 (w.heap.size + 1 + 1) _ _ _ rfl rfl rfl
    have fG1_2_1 := HG1w2.out.frozen 2 1 (w.heap.size + 1 + 1) _ _ rfl rfl
    have cG1_2_2 := HG1w2.out.cell 2 2 (w.heap.size + 1 + 1) _ _ _ rfl rfl rfl
    have fG1_2_2 := HG1w2.out.frozen 2 2 (w.heap.size + 1 + 1) _ _ rfl rfl
    have cG1_2_3 := HG1w2.out.cell 2 3 (w.heap.size + 1 + 1) _ _ _ rfl rfl rfl
    have fG1_2_3 := HG1w2.out.frozen 2 3 (w.heap.size + 1 + 1) _ _ rfl rfl
    have cG1_2_4 := HG1w2.out.cell 2 4 (w.heap.size + 1 + 1) _ _ _ rfl rfl rfl
    have fG1_2_4 := HG1w2.out.frozen 2 4 (w.heap.size + 1 + 1) _ _ rfl rfl
    have cG1_2_5 := HG1w2.out.cell 2 5 (w.heap.size + 1 + 1) _ _ _ rfl rfl rfl
    have fG1_2_5 := HG1w2.out.frozen 2 5 (w.heap.size + 1 + 1) _ _ rfl rfl
    have cG1_2_6 := HG1w2.out.cell 2 6 (w.heap.size + 1 + 1) _ _ _ rfl rfl rfl
    have fG1_2_6 := HG1w2.out.frozen 2 6 (w.heap.size + 1 + 1) _ _ rfl rfl
    have cG1_2_7 := HG1w2.out.cell 2 7 (w.heap.size + 1 + 1) _ _ _ rfl rfl rfl
    have fG1_2_7 := HG1w2.out.frozen 2 7 (w.heap.size + 1 + 1) _ _ rfl rfl
    go_wp2_with fail
  · refine bodyPost_ret (v := .tuple #[gtV 0 0 0 none 0 0 0 none 0 0 0 0, .slice none 0 0, .int .i64 E]) (by simp [results, Try.results11, go_sem, *]) rfl ⟨rfl, ?_⟩
    repeat (first | with_reducible refine Below.setCell ?_ (by simp; try omega) _ | with_reducible refine Below.alloc ?_ (by simp; omega) _)
    exact HG1w2.out.2.2
  · refine (HI.out _).mono ?_
    rintro e w3 ⟨rfl, rfl⟩
    go_wp2_with fail
    refine bodyPost_ret (v := .tuple #[gtV 0 0 0 none 0 0 0 none 0 0 0 0, .slice none 0 0, .int .i64 3]) (by simp [results, Try.results11, go_sem, *]) rfl ⟨rfl, ?_⟩
    repeat (first | with_reducible refine Below.setCell ?_ (by simp; try omega) _ | with_reducible refine Below.alloc ?_ (by simp; omega) _)
    exact HG1w2.out.2.2

set_option maxHeartbeats 1200000 in
theorem gateSync_ok (i z s : Int) (oa : Option Addr) (P : List TP) (ca : Nat) (v : Int) (od : Option Addr) (D : List Int) (cd : Nat) (l u : Int) (v' : Int) (od' : Option Addr) (D' : List Int) (cd' : Nat) (m : Int) (w : World) (hP : TapsAt w oa P) (hD : IntsAt w od D) (hD' : IntsAt w od' D') (hlD : D.length ≤ 9223372036854775807) (hlD' : D'.length ≤ 9223372036854775807) (hlP : P.length ≤ 12) (hE : syncG i z s P v D l u v' D' m = 0) :
    Calls Try.prog 11 #[gtV i z s oa P.length ca v od D.length cd l u, dn v' od' D'.length cd', .int .i64 m] w fun e w' =>
      (∃ on cn x, e = .returned (.tuple #[gtV i z s none 0 0 (if v < v' then v' else v) on (if v < v' then D' else D).length cn 9 (m + 100), x, .int .i64 0]) ∧ IntsV w' (.slice on (if v < v' then D' else D).length cn) (if v < v' then D' else D) ∧ Fresh w.heap.size (.slice on (if v < v' then D' else D).length cn) ∧ TapsV w' x P ∧ Fresh w.heap.size x) ∧ Below w.heap.size w w' := by
  have HC := hide (fun W (h : TapsAt W oa P) (h' : IntsAt W od D) => gateCheck_any i z s oa P ca v od D cd l u W h h' hlD)
  have HN := hide (fun W (h : IntsAt W od D) (h' : IntsAt W od' D') => newerF_any v v' D D' od od' cd cd' W h h' hlD hlD')
  have HI := hide (fun W => isTime_any m W)
  have HP := hide hP
  have HD := hide hD
  have HD' := hide hD'
  have hp := syncG_ways i z s P v D l u v' D' m
  rw [hE] at hp
  have hpp : chkG i z s P v D l u = 0 ∧ newE v D v' D' = 0 ∧ wi m 0 9999 = true := by
    rcases hp with ⟨h1, h2⟩ | ⟨h1, h2, h3⟩ | ⟨h1, h2, h3, h4⟩ | ⟨h1, h2, h3, h4⟩
    · rw [← h2] at h1; cases h1
    · rw [← h3] at h2; cases h2
    · cases h4
    · exact ⟨h1, h2, h3⟩
  obtain ⟨h1, h2, h3⟩ := hpp
  have hm := (wi_iff _ _ _).1 h3
  have HTo := hide (fun W on nn cn => told_any i z s oa P ca v od D cd l u (if v < v' then v' else v) on nn cn m W hm.1 hm.2)
  rw [h1] at HC
  rw [h2, if_pos rfl, if_pos rfl] at HN
  rw [h3] at HI
  generalize (if v < v' then v' else v) = V at *
  generalize (if v < v' then D' else D) = N at *
  clear hP hD hD' hE hp h1 h2 h3 hm
  go_enter Try.func11, Try.ntmps11
  go_wp2_with fail
  have HG1 := hide ((((Blks.nil w).more (.cells #[.int .i64 i, .int .i64 z, .int .i64 s, .slice oa P.length ca, .int .i64 v, .slice od D.length cd, .int .i64 l, .int .i64 u] 29) (by simp)).more (.cells #[.int .i64 v', .slice od' D'.length cd'] 25) (by simp)).more (.cells #[.int .i64 0, .int .i64 0, .int .i64 0, .slice none 0 0, .int .i64 0, .slice none 0 0, .int .i64 0, .int .i64 0] 29) (by simp))
  refine (HC.out _ (HP.out.below HG1.out.2.2) (HD.out.below HG1.out.2.2)).mono ?_
  rintro e w1 ⟨rfl, hb⟩
  have HG1w1 := hide (HG1.out.on hb)
  clear hb HG1
  have lG1_0 := HG1w1.out.lt 0 w.heap.size (by simp) rfl
  have cG1_0_0 := HG1w1.out.cell 0 0 w.heap.size _ _ _ rfl rfl rfl
  have cG1_0_1 := HG1w1.out.cell 0 1 w.heap.size _ _ _ rfl rfl rfl
  have cG1_0_2 := HG1w1.out.cell 0 2 w.heap.size _ _ _ rfl rfl rfl
  have cG1_0_3 := HG1w1.out.cell 0 3 w.heap.size _ _ _ rfl rfl rfl
  have cG1_0_4 := HG1w1.out.cell 0 4 w.heap.size _ _ _ rfl rfl rfl
  have cG1_0_5 := HG1w1.out.cell 0 5 w.heap.size _ _ _ rfl rfl rfl
  have cG1_0_6 := HG1w1.out.cell 0 6 w.heap.size _ _ _ rfl rfl rfl
  have cG1_0_7 := HG1w1.out.cell 0 7 w.heap.size _ _ _ rfl rfl rfl
  have lG1_1 := HG1w1.out.lt 1 (w.heap.size + 1) (by simp) rfl
  have cG1_1_0 := HG1w1.out.cell 1 0 (w.heap.size + 1) _ _ _ rfl rfl rfl
  have cG1_1_1 := HG1w1.out.cell 1 1 (w.heap.size + 1) _ _ _ rfl rfl rfl
  have lG1_2 := HG1w1.out.lt 2 (w.heap.size + 1 + 1) (by simp) rfl
  have cG1_2_0 := HG1w1.out.cell 2 0 (w.heap.size + 1 + 1) _ _ _ rfl rfl rfl
  have fG1_2_0 := HG1w1.out.frozen 2 0 (w.heap.size + 1 + 1) _ _ rfl rfl
  have cG1_2_1 := HG1w1.out.cell 2 1 (w.heap.size + 1 + 1) _ _ _ rfl rfl rfl
  have fG1_2_1 := HG1w1.out.frozen 2 1 (w.heap.size + 1 + 1) _ _ rfl rfl
  have cG1_2_2 := HG1w1.out.cell 2 2 (w.heap.size + 1 + 1) _ _ _ rfl rfl rfl
  have fG1_2_2 := HG1w1.out.frozen 2 2 (w.heap.size + 1 + 1) _ _ rfl rfl
  have cG1_2_3 := HG1w1.out.cell 2 3 (w.heap.size + 1 + 1) _ _ _ rfl rfl rfl
  have fG1_2_3 := HG1w1.out.frozen 2 3 (w.heap.size + 1 + 1) _ _ rfl rfl
  have cG1_2_4 := HG1w1.out.cell 2 4 (w.heap.size + 1 + 1) _ _ _ rfl rfl rfl
  have fG1_2_4 := HG1w1.out.frozen 2 4 (w.heap.size + 1 + 1) _ _ rfl rfl
  have cG1_2_5 := HG1w1.out.cell 2 5 (w.heap.size + 1 + 1) _ _ _ rfl rfl rfl
  have fG1_2_5 := HG1w1.out.frozen 2 5 (w.heap.size + 1 + 1) _ _ rfl rfl
  have cG1_2_6 := HG1w1.out.cell 2 6 (w.heap.size + 1 + 1) _ _ _ rfl rfl rfl
  have fG1_2_6 := HG1w1.out.frozen 2 6 (w.heap.size + 1 + 1) _ _ rfl rfl
  have cG1_2_7 := HG1w1.out.cell 2 7 (w.heap.size + 1 + 1) _ _ _ rfl rfl rfl
  have fG1_2_7 := HG1w1.out.frozen 2 7 (w.heap.size + 1 + 1) _ _ rfl rfl
  go_wp2_with fail
  refine (HN.out _ (HD.out.below HG1w1.out.2.2) (HD'.out.below HG1w1.out.2.2)).mono ?_
  rintro e w2 ⟨⟨x, rfl, ⟨on, cn, rfl, hI⟩, hf⟩, hb⟩
  have HG1w2 := hide (HG1w1.out.on hb)
  have hsz1 := HG1w1.out.2.1
  simp only [List.length_append, List.length_cons, List.length_nil] at hsz1
  have HV := hide (And.intro (show IntsV w2 (.slice on N.length cn) N from ⟨on, cn, rfl, hI⟩) (hf.monoD (show w.heap.size + 1 + 1 + 1 ≤ w1.heap.size by omega)))
  clear hI hf hsz1
  clear lG1_0 cG1_0_0 cG1_0_1 cG1_0_2 cG1_0_3 cG1_0_4 cG1_0_5 cG1_0_6 cG1_0_7 lG1_1 cG1_1_0 cG1_1_1 lG1_2 cG1_2_0 fG1_2_0 cG1_2_1 fG1_2_1 cG1_2_2 fG1_2_2 cG1_2_3 fG1_2_3 cG1_2_4 fG1_2_4 cG1_2_5 fG1_2_5 cG1_2_6 fG1_2_6 cG1_2_7 fG1_2_7
  clear hb HG1w1
  have lG1_0 := HG1w2.out.lt 0 w.heap.size (by simp) rfl
  have cG1_0_0 := HG1w2.out.cell 0 0 w.heap.size _ _ _ rfl rfl rfl
  have cG1_0_1 := HG1w2.out.cell 0 1 w.heap.size _ _ _ rfl rfl rfl
  have cG1_0_2 := HG1w2.out.cell 0 2 w.heap.size _ _ _ rfl rfl rfl
  have cG1_0_3 := HG1w2.out.cell 0 3 w.heap.size _ _ _ rfl rfl rfl
  have cG1_0_4 := HG1w2.out.cell 0 4 w.heap.size _ _ _ rfl rfl rfl
  have cG1_0_5 := HG1w2.out.cell 0 5 w.heap.size _ _ _ rfl rfl rfl
  have cG1_0_6 := HG1w2.out.cell 0 6 w.heap.size _ _ _ rfl rfl rfl
  have cG1_0_7 := HG1w2.out.cell 0 7 w.heap.size _ _ _ rfl rfl rfl
  have lG1_1 := HG1w2.out.lt 1 (w.heap.size + 1) (by simp) rfl
  have cG1_1_0 := HG1w2.out.cell 1 0 (w.heap.size + 1) _ _ _ rfl rfl rfl
  have cG1_1_1 := HG1w2.out.cell 1 1 (w.heap.size + 1) _ _ _ rfl rfl rfl
  have lG1_2 := HG1w2.out.lt 2 (w.heap.size + 1 + 1) (by simp) rfl
  have cG1_2_0 := HG1w2.out.cell 2 0 (w.heap.size + 1 + 1) _ _ _ rfl rfl rfl
  have cG1_2_1 := HG1w2.out.cell 2 1 (w.heap.size + 1 + 1) _ _ _ rfl rfl rfl
  have cG1_2_2 := HG1w2.out.cell 2 2 (w.heap.size + 1 + 1) _ _ _ rfl rfl rfl
  have cG1_2_3 := HG1w2.out.cell 2 3 (w.heap.size + 1 + 1) _ _ _ rfl rfl rfl
  have cG1_2_4 := HG1w2.out.cell 2 4 (w.heap.size + 1 + 1) _ _ _ rfl rfl rfl
  have cG1_2_5 := HG1w2.out.cell 2 5 (w.heap.size + 1 + 1) _ _ _ rfl rfl rfl
  have cG1_2_6 := HG1w2.out.cell 2 6 (w.heap.size + 1 + 1) _ _ _ rfl rfl rfl
  have cG1_2_7 := HG1w2.out.cell 2 7 (w.heap.size + 1 + 1) _ _ _ rfl rfl rfl
  go_wp2_with fail
  refine (HI.out _).mono ?_
  rintro e w3 ⟨rfl, rfl⟩
  go_wp2_with fail
  clear lG1_0 cG1_0_0 cG1_0_1 cG1_0_2 cG1_0_3 cG1_0_4 cG1_0_5 cG1_0_6 cG1_0_7 lG1_1 cG1_1_0 cG1_1_1 lG1_2 cG1_2_0 cG1_2_1 cG1_2_2 cG1_2_3 cG1_2_4 cG1_2_5 cG1_2_6 cG1_2_7
  have HQ := hide ((Blks.nil w2).more (.cells #[.int .i64 V, .slice on N.length cn] 25) (by simp))
  have hszw := HG1w2.out.2.1
  simp only [List.length_append, List.length_cons, List.length_nil] at hszw
  have HGa : Hid (Blks w _ [.cells #[.int .i64 i, .int .i64 z, .int .i64 s, .slice oa P.length ca, .int .i64 v, .slice od D.length cd, .int .i64 l, .int .i64 u] 29, .cells #[.int .i64 v', .slice od' D'.length cd'] 25, .cells #[.int .i64 0, .int .i64 0, .int .i64 0, .slice none 0 0, .int .i64 0, .slice none 0 0, .int .i64 0, .int .i64 0] 29]) := hide ((HG1w2.out.on HQ.out.2.2).on (Below.refl _ _).drew)
  have hQx := HQ.out.on (Below.refl _ _).drew
  have q0 := hQx.cell 0 0 w2.heap.size _ _ _ rfl rfl rfl
  have q1 := hQx.cell 0 1 w2.heap.size _ _ _ rfl rfl rfl
  have HVa := hide (And.intro (HV.out.1.below hQx.2.2) HV.out.2)
  clear hQx HC HN HI HV
  refine wp_region_reads (fun w' => (∃ oo2, Blks w w' [.cells #[.int .i64 i, .int .i64 z, .int .i64 s, .slice oa P.length ca, .int .i64 v, .slice od D.length cd, .int .i64 l, .int .i64 u] 29, .cells #[.int .i64 v', .slice od' D'.length cd'] 25, oo2]) ∧ w'.cell? ⟨w2.heap.size, 0, none⟩ = some (.int .i64 V) ∧ w'.cell? ⟨w2.heap.size, 1, none⟩ = some (.slice on N.length cn)) [0, 1, 2, 3, 5, 6] 5 (by rfl) (by kernel_rfl) (by kernel_rfl) (by kernel_rfl) (fun c d v a w h => by cases d <;> exact h) ?_ ?_
  · exact ⟨⟨_, HGa.out⟩, q0, q1⟩
  refine wpPureH_step (gtV i z s oa P.length ca v od D.length cd l u) rfl rfl (fun w' hS => ?_) ?_
  · obtain ⟨⟨oo2, hS1⟩, p0, p1⟩ := hS
    have k0 := hS1.cell 0 0 w.heap.size _ _ _ rfl rfl rfl
    have k1 := hS1.cell 0 1 w.heap.size _ _ _ rfl rfl rfl
    have k2 := hS1.cell 0 2 w.heap.size _ _ _ rfl rfl rfl
    have k3 := hS1.cell 0 3 w.heap.size _ _ _ rfl rfl rfl
    have k4 := hS1.cell 0 4 w.heap.size _ _ _ rfl rfl rfl
    have k5 := hS1.cell 0 5 w.heap.size _ _ _ rfl rfl rfl
    have k6 := hS1.cell 0 6 w.heap.size _ _ _ rfl rfl rfl
    have k7 := hS1.cell 0 7 w.heap.size _ _ _ rfl rfl rfl
    go_simp
  refine wpPureH_step (gtV i z s oa P.length ca v od D.length cd l u) rfl rfl (fun w' hS => ?_) ?_
  · obtain ⟨⟨oo2, hS1⟩, p0, p1⟩ := hS
    have k0 := hS1.cell 0 0 w.heap.size _ _ _ rfl rfl rfl
    have k1 := hS1.cell 0 1 w.heap.size _ _ _ rfl rfl rfl
    have k2 := hS1.cell 0 2 w.heap.size _ _ _ rfl rfl rfl
    have k3 := hS1.cell 0 3 w.heap.size _ _ _ rfl rfl rfl
    have k4 := hS1.cell 0 4 w.heap.size _ _ _ rfl rfl rfl
    have k5 := hS1.cell 0 5 w.heap.size _ _ _ rfl rfl rfl
    have k6 := hS1.cell 0 6 w.heap.size _ _ _ rfl rfl rfl
    have k7 := hS1.cell 0 7 w.heap.size _ _ _ rfl rfl rfl
    go_simp
  refine wpPureH_step (dn V on N.length cn) rfl rfl (fun w' hS => ?_) ?_
  · obtain ⟨⟨oo2, hS1⟩, p0, p1⟩ := hS
    have k0 := hS1.cell 0 0 w.heap.size _ _ _ rfl rfl rfl
    have k1 := hS1.cell 0 1 w.heap.size _ _ _ rfl rfl rfl
    have k2 := hS1.cell 0 2 w.heap.size _ _ _ rfl rfl rfl
    have k3 := hS1.cell 0 3 w.heap.size _ _ _ rfl rfl rfl
    have k4 := hS1.cell 0 4 w.heap.size _ _ _ rfl rfl rfl
    have k5 := hS1.cell 0 5 w.heap.size _ _ _ rfl rfl rfl
    have k6 := hS1.cell 0 6 w.heap.size _ _ _ rfl rfl rfl
    have k7 := hS1.cell 0 7 w.heap.size _ _ _ rfl rfl rfl
    go_simp
  refine wpPureH_step (.int .i64 m) rfl rfl (fun w' hS => ?_) ?_
  · obtain ⟨⟨oo2, hS1⟩, p0, p1⟩ := hS
    have k0 := hS1.cell 0 0 w.heap.size _ _ _ rfl rfl rfl
    have k1 := hS1.cell 0 1 w.heap.size _ _ _ rfl rfl rfl
    have k2 := hS1.cell 0 2 w.heap.size _ _ _ rfl rfl rfl
    have k3 := hS1.cell 0 3 w.heap.size _ _ _ rfl rfl rfl
    have k4 := hS1.cell 0 4 w.heap.size _ _ _ rfl rfl rfl
    have k5 := hS1.cell 0 5 w.heap.size _ _ _ rfl rfl rfl
    have k6 := hS1.cell 0 6 w.heap.size _ _ _ rfl rfl rfl
    have k7 := hS1.cell 0 7 w.heap.size _ _ _ rfl rfl rfl
    go_simp
  refine wpPureH_step (.pointer (some ⟨w.heap.size, 3, none⟩)) rfl rfl (fun w' hS => ?_) ?_
  · obtain ⟨⟨oo2, hS1⟩, p0, p1⟩ := hS
    have k0 := hS1.cell 0 0 w.heap.size _ _ _ rfl rfl rfl
    have k1 := hS1.cell 0 1 w.heap.size _ _ _ rfl rfl rfl
    have k2 := hS1.cell 0 2 w.heap.size _ _ _ rfl rfl rfl
    have k3 := hS1.cell 0 3 w.heap.size _ _ _ rfl rfl rfl
    have k4 := hS1.cell 0 4 w.heap.size _ _ _ rfl rfl rfl
    have k5 := hS1.cell 0 5 w.heap.size _ _ _ rfl rfl rfl
    have k6 := hS1.cell 0 6 w.heap.size _ _ _ rfl rfl rfl
    have k7 := hS1.cell 0 7 w.heap.size _ _ _ rfl rfl rfl
    go_simp
  refine wpPureH_step (.slice oa P.length ca) rfl rfl (fun w' hS => ?_) ?_
  · obtain ⟨⟨oo2, hS1⟩, p0, p1⟩ := hS
    have k0 := hS1.cell 0 0 w.heap.size _ _ _ rfl rfl rfl
    have k1 := hS1.cell 0 1 w.heap.size _ _ _ rfl rfl rfl
    have k2 := hS1.cell 0 2 w.heap.size _ _ _ rfl rfl rfl
    have k3 := hS1.cell 0 3 w.heap.size _ _ _ rfl rfl rfl
    have k4 := hS1.cell 0 4 w.heap.size _ _ _ rfl rfl rfl
    have k5 := hS1.cell 0 5 w.heap.size _ _ _ rfl rfl rfl
    have k6 := hS1.cell 0 6 w.heap.size _ _ _ rfl rfl rfl
    have k7 := hS1.cell 0 7 w.heap.size _ _ _ rfl rfl rfl
    go_simp
  refine wpPureH_nil ?_
  clear HG1w2 HQ
  generalize World.drew _ = wa at *
  refine one_readyH (i := 4) (by kernel_rfl) rfl rfl (fun K hK => ?_)
  go_simp
  refine (HTo.out wa on N.length cn).mono ?_
  rintro e wb ⟨rfl, hb⟩
  have HGb : Hid (Blks w wb [.cells #[.int .i64 i, .int .i64 z, .int .i64 s, .slice oa P.length ca, .int .i64 v, .slice od D.length cd, .int .i64 l, .int .i64 u] 29, .cells #[.int .i64 v', .slice od' D'.length cd'] 25, .cells #[.int .i64 0, .int .i64 0, .int .i64 0, .slice none 0 0, .int .i64 0, .slice none 0 0, .int .i64 0, .int .i64 0] 29]) := hide (HGa.out.on hb)
  have HVb := hide (And.intro (HVa.out.1.below hb) HVa.out.2)
  have q0b : wb.cell? ⟨w2.heap.size, 0, none⟩ = some (.int .i64 V) := by rw [hb.cell (World.block_lt_of_cell? wa _ q0)]; exact q0
  have q1b : wb.cell? ⟨w2.heap.size, 1, none⟩ = some (.slice on N.length cn) := by rw [hb.cell (World.block_lt_of_cell? wa _ q1)]; exact q1
  clear hb HGa HVa q0 q1
  refine hK _ _ ⟨⟨_, HGb.out⟩, q0b, q1b⟩ ?_
  clear hK K
  refine one_readyH (i := 7) (by kernel_rfl) rfl rfl (fun K hK => ?_)
  go_simp
  refine (cloneP_any P oa ca wb (HP.out.below HGb.out.2.2) (by omega)).mono ?_
  rintro e wc ⟨⟨x, rfl, ⟨ox, cx, rfl, hx⟩, hfx⟩, hb⟩
  have hszb := HGb.out.2.1
  simp only [List.length_cons, List.length_nil] at hszb
  have HX := hide (And.intro (show TapsV wc (.slice ox P.length cx) P from ⟨ox, cx, rfl, hx⟩) (hfx.monoD (show w.heap.size + 1 + 1 + 1 ≤ wb.heap.size by omega)))
  have HGc : Hid (Blks w wc [.cells #[.int .i64 i, .int .i64 z, .int .i64 s, .slice oa P.length ca, .int .i64 v, .slice od D.length cd, .int .i64 l, .int .i64 u] 29, .cells #[.int .i64 v', .slice od' D'.length cd'] 25, .cells #[.int .i64 0, .int .i64 0, .int .i64 0, .slice none 0 0, .int .i64 0, .slice none 0 0, .int .i64 0, .int .i64 0] 29]) := hide (HGb.out.on hb)
  have HVc := hide (And.intro (HVb.out.1.below hb) HVb.out.2)
  have q0c : wc.cell? ⟨w2.heap.size, 0, none⟩ = some (.int .i64 V) := by rw [hb.cell (World.block_lt_of_cell? wb _ q0b)]; exact q0b
  have q1c : wc.cell? ⟨w2.heap.size, 1, none⟩ = some (.slice on N.length cn) := by rw [hb.cell (World.block_lt_of_cell? wb _ q1b)]; exact q1b
  clear hb HGb HVb q0b q1b hx hfx hszb
  refine hK _ _ ⟨⟨_, HGc.out⟩, q0c, q1c⟩ ?_
  clear hK K
  have r0 := HGc.out.cell 2 0 (w.heap.size + 1 + 1) _ _ _ rfl rfl rfl
  have f0 := HGc.out.frozen 2 0 (w.heap.size + 1 + 1) _ _ rfl rfl
  have r1 := HGc.out.cell 2 1 (w.heap.size + 1 + 1) _ _ _ rfl rfl rfl
  have f1 := HGc.out.frozen 2 1 (w.heap.size + 1 + 1) _ _ rfl rfl
  have r2 := HGc.out.cell 2 2 (w.heap.size + 1 + 1) _ _ _ rfl rfl rfl
  have f2 := HGc.out.frozen 2 2 (w.heap.size + 1 + 1) _ _ rfl rfl
  have r3 := HGc.out.cell 2 3 (w.heap.size + 1 + 1) _ _ _ rfl rfl rfl
  have f3 := HGc.out.frozen 2 3 (w.heap.size + 1 + 1) _ _ rfl rfl
  have r4 := HGc.out.cell 2 4 (w.heap.size + 1 + 1) _ _ _ rfl rfl rfl
  have f4 := HGc.out.frozen 2 4 (w.heap.size + 1 + 1) _ _ rfl rfl
  have r5 := HGc.out.cell 2 5 (w.heap.size + 1 + 1) _ _ _ rfl rfl rfl
  have f5 := HGc.out.frozen 2 5 (w.heap.size + 1 + 1) _ _ rfl rfl
  have r6 := HGc.out.cell 2 6 (w.heap.size + 1 + 1) _ _ _ rfl rfl rfl
  have f6 := HGc.out.frozen 2 6 (w.heap.size + 1 + 1) _ _ rfl rfl
  have r7 := HGc.out.cell 2 7 (w.heap.size + 1 + 1) _ _ _ rfl rfl rfl
  have f7 := HGc.out.frozen 2 7 (w.heap.size + 1 + 1) _ _ rfl rfl
  refine one_readyH (i := 8) (by kernel_rfl) rfl rfl (fun K hK => ?_)
  go_simp
  have HGd : Hid (Blks w ((((((((wc.setCell ⟨w.heap.size + 1 + 1, 0, none⟩ (.int .i64 i)).setCell ⟨w.heap.size + 1 + 1, 1, none⟩ (.int .i64 z)).setCell ⟨w.heap.size + 1 + 1, 2, none⟩ (.int .i64 s)).setCell ⟨w.heap.size + 1 + 1, 3, none⟩ (.slice none 0 0)).setCell ⟨w.heap.size + 1 + 1, 4, none⟩ (.int .i64 V)).setCell ⟨w.heap.size + 1 + 1, 5, none⟩ (.slice on N.length cn)).setCell ⟨w.heap.size + 1 + 1, 6, none⟩ (.int .i64 9)).setCell ⟨w.heap.size + 1 + 1, 7, none⟩ (.int .i64 (m + 100))) [.cells #[.int .i64 i, .int .i64 z, .int .i64 s, .slice oa P.length ca, .int .i64 v, .slice od D.length cd, .int .i64 l, .int .i64 u] 29, .cells #[.int .i64 v', .slice od' D'.length cd'] 25, .cells #[.int .i64 i, .int .i64 z, .int .i64 s, .slice none 0 0, .int .i64 V, .slice on N.length cn, .int .i64 9, .int .i64 (m + 100)] 29]) := hide (HGc.out.put8 2 (w.heap.size + 1 + 1) _ _ _ _ _ _ _ _ (.int .i64 i) (.int .i64 z) (.int .i64 s) (.slice none 0 0) (.int .i64 V) (.slice on N.length cn) (.int .i64 9) (.int .i64 (m + 100)) _ rfl rfl)
  have HXd : Hid (TapsV ((((((((wc.setCell ⟨w.heap.size + 1 + 1, 0, none⟩ (.int .i64 i)).setCell ⟨w.heap.size + 1 + 1, 1, none⟩ (.int .i64 z)).setCell ⟨w.heap.size + 1 + 1, 2, none⟩ (.int .i64 s)).setCell ⟨w.heap.size + 1 + 1, 3, none⟩ (.slice none 0 0)).setCell ⟨w.heap.size + 1 + 1, 4, none⟩ (.int .i64 V)).setCell ⟨w.heap.size + 1 + 1, 5, none⟩ (.slice on N.length cn)).setCell ⟨w.heap.size + 1 + 1, 6, none⟩ (.int .i64 9)).setCell ⟨w.heap.size + 1 + 1, 7, none⟩ (.int .i64 (m + 100))) (.slice ox P.length cx) P) := by
    refine hide ?_
    repeat (first | with_reducible exact HX.out.1 | with_reducible refine TapsV.setD ?_ HX.out.2 (by simp; try omega) _)
  have HVd : Hid (IntsV ((((((((wc.setCell ⟨w.heap.size + 1 + 1, 0, none⟩ (.int .i64 i)).setCell ⟨w.heap.size + 1 + 1, 1, none⟩ (.int .i64 z)).setCell ⟨w.heap.size + 1 + 1, 2, none⟩ (.int .i64 s)).setCell ⟨w.heap.size + 1 + 1, 3, none⟩ (.slice none 0 0)).setCell ⟨w.heap.size + 1 + 1, 4, none⟩ (.int .i64 V)).setCell ⟨w.heap.size + 1 + 1, 5, none⟩ (.slice on N.length cn)).setCell ⟨w.heap.size + 1 + 1, 6, none⟩ (.int .i64 9)).setCell ⟨w.heap.size + 1 + 1, 7, none⟩ (.int .i64 (m + 100))) (.slice on N.length cn) N) := by
    refine hide ?_
    repeat (first | with_reducible exact HVc.out.1 | with_reducible refine IntsV.setD ?_ HVc.out.2 (by simp; try omega) _)
  have q0d : ((((((((wc.setCell ⟨w.heap.size + 1 + 1, 0, none⟩ (.int .i64 i)).setCell ⟨w.heap.size + 1 + 1, 1, none⟩ (.int .i64 z)).setCell ⟨w.heap.size + 1 + 1, 2, none⟩ (.int .i64 s)).setCell ⟨w.heap.size + 1 + 1, 3, none⟩ (.slice none 0 0)).setCell ⟨w.heap.size + 1 + 1, 4, none⟩ (.int .i64 V)).setCell ⟨w.heap.size + 1 + 1, 5, none⟩ (.slice on N.length cn)).setCell ⟨w.heap.size + 1 + 1, 6, none⟩ (.int .i64 9)).setCell ⟨w.heap.size + 1 + 1, 7, none⟩ (.int .i64 (m + 100))).cell? ⟨w2.heap.size, 0, none⟩ = some (.int .i64 V) := by
    repeat (first | with_reducible exact q0c | with_reducible refine cell_set_ne (by simp; omega) ?_)
  have q1d : ((((((((wc.setCell ⟨w.heap.size + 1 + 1, 0, none⟩ (.int .i64 i)).setCell ⟨w.heap.size + 1 + 1, 1, none⟩ (.int .i64 z)).setCell ⟨w.heap.size + 1 + 1, 2, none⟩ (.int .i64 s)).setCell ⟨w.heap.size + 1 + 1, 3, none⟩ (.slice none 0 0)).setCell ⟨w.heap.size + 1 + 1, 4, none⟩ (.int .i64 V)).setCell ⟨w.heap.size + 1 + 1, 5, none⟩ (.slice on N.length cn)).setCell ⟨w.heap.size + 1 + 1, 6, none⟩ (.int .i64 9)).setCell ⟨w.heap.size + 1 + 1, 7, none⟩ (.int .i64 (m + 100))).cell? ⟨w2.heap.size, 1, none⟩ = some (.slice on N.length cn) := by
    repeat (first | with_reducible exact q1c | with_reducible refine cell_set_ne (by simp; omega) ?_)
  refine hK _ _ ⟨⟨_, HGd.out⟩, q0d, q1d⟩ ?_
  clear hK K HGc q0c q1c r0 f0 r1 f1 r2 f2 r3 f3 r4 f4 r5 f5 r6 f6 r7 f7
  generalize ((((((((wc.setCell ⟨w.heap.size + 1 + 1, 0, none⟩ (.int .i64 i)).setCell ⟨w.heap.size + 1 + 1, 1, none⟩ (.int .i64 z)).setCell ⟨w.heap.size + 1 + 1, 2, none⟩ (.int .i64 s)).setCell ⟨w.heap.size + 1 + 1, 3, none⟩ (.slice none 0 0)).setCell ⟨w.heap.size + 1 + 1, 4, none⟩ (.int .i64 V)).setCell ⟨w.heap.size + 1 + 1, 5, none⟩ (.slice on N.length cn)).setCell ⟨w.heap.size + 1 + 1, 6, none⟩ (.int .i64 9)).setCell ⟨w.heap.size + 1 + 1, 7, none⟩ (.int .i64 (m + 100))) = wd at *
  refine one_readyH (i := 9) (by kernel_rfl) rfl rfl (fun K hK => ?_)
  go_simp
  refine hK _ _ ⟨⟨_, HGd.out⟩, q0d, q1d⟩ ?_
  clear hK K
  refine one_readyH (i := 10) (by kernel_rfl) rfl rfl (fun K hK => ?_)
  go_simp
  refine hK _ _ ⟨⟨_, HGd.out⟩, q0d, q1d⟩ ?_
  clear hK K
  refine wpAnyH_done (by kernel_rfl) ?_ _
  have g0 := HGd.out.cell 2 0 (w.heap.size + 1 + 1) _ _ _ rfl rfl rfl
  have g1 := HGd.out.cell 2 1 (w.heap.size + 1 + 1) _ _ _ rfl rfl rfl
  have g2 := HGd.out.cell 2 2 (w.heap.size + 1 + 1) _ _ _ rfl rfl rfl
  have g3 := HGd.out.cell 2 3 (w.heap.size + 1 + 1) _ _ _ rfl rfl rfl
  have g4 := HGd.out.cell 2 4 (w.heap.size + 1 + 1) _ _ _ rfl rfl rfl
  have g5 := HGd.out.cell 2 5 (w.heap.size + 1 + 1) _ _ _ rfl rfl rfl
  have g6 := HGd.out.cell 2 6 (w.heap.size + 1 + 1) _ _ _ rfl rfl rfl
  have g7 := HGd.out.cell 2 7 (w.heap.size + 1 + 1) _ _ _ rfl rfl rfl
  go_wp2_with fail
  refine bodyPost_ret (v := .tuple #[gtV i z s none 0 0 V on N.length cn 9 (m + 100), .slice ox P.length cx, .int .i64 0]) (by simp [results, Try.results11, go_sem, *]) rfl ⟨⟨on, cn, _, rfl, HVd.out, HVc.out.2.monoD (by omega), HXd.out, HX.out.2.monoD (by omega)⟩, HGd.out.2.2⟩
end Go.Proofs.Ytlnmheooicancaa
