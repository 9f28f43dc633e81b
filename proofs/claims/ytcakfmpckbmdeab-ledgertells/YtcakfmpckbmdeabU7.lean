/-
  The walk of LedgerTells.
-/
import Derived.Test.YtcakfmpckbmdeabU6
import Derived.Test.YtcakfmpckbmdeabW2
import Derived.Test.YtcakfmpckbmdeabW4
import Derived.Deep.CutRange
import Derived.Deep.CutBlock
namespace Go.Proofs.Ytcakfmpckbmdeab
open Go.RowKit

/-- a ledger's value in three slices -/
theorem LedV.open9 {w : World} {v : Value} {T : List TK} {P : List TP} {V : List Int} (h : LedV w v T P V) : ∃ o1 o2 o3 n1 c1 n2 c2 n3 c3, v = lg o1 o2 o3 n1 c1 n2 c2 n3 c3 ∧ LedV w (lg o1 o2 o3 n1 c1 n2 c2 n3 c3) T P V := by
  obtain ⟨o1, c1, o2, c2, o3, c3, e, -⟩ := h.opened
  exact ⟨o1, o2, o3, _, c1, _, c2, _, c3, e, e ▸ h⟩

theorem enter_chk0 {T : List TK} {P : List TP} {V : List Int} {p : TP} (h : chkL T P V ≠ 0) : enterV T P V p = (0, chkL T P V) := by
  unfold enterV
  rw [if_pos h]

theorem sell_chk0 {T : List TK} {P : List TP} {V : List Int} {t : TK} (h : chkL T P V ≠ 0) : sellE T P V t = chkL T P V := by
  simp [sellE, firstE, h]

theorem rides_ways {T : List TK} {P : List TP} {V : List Int} (id : Int) (h0 : chkL T P V = 0) : (idxT T id < 0 ∧ ridesV T P V id = (0, 5)) ∨ (¬ idxT T id < 0 ∧ ridesV T P V id = ((many (P.zip V) id).1, 0)) := by
  have hr := chkL_right h0
  have hR : ridesV T P V id = if hasT T id = true then (((ridesL (P.zip V) id).length : Int), 0) else (0, 5) := by unfold ridesV; rw [if_neg (by simp [h0])]
  cases hh : hasT T id
  · rw [hh] at hR
    left
    refine ⟨?_, by rw [hR]; rfl⟩
    by_cases hi : idxT T id < 0
    · exact hi
    · obtain ⟨k, x, e1, e2⟩ := idxT_get hi
      have hx : x.i = id := idxT_id' e1 e2
      rw [← hx, hasT_mem (List.mem_of_getElem? e2)] at hh
      cases hh
  · rw [hh] at hR
    right
    obtain ⟨x, hx, e1, e2⟩ := hasT_pos (rising_of hr.2.2.2.1) hh
    exact ⟨by rw [e2]; omega, by rw [hR, if_pos rfl, many_rides]⟩

/-- what Sell and Enter give is not too long -/
theorem tells_lens {T : List TK} {P : List TP} {V : List Int} (t : TK) (p : TP) :
    ((if sellE T P V t = 0 then soldT T t else []).length ≤ 100 ∧ (if sellE T P V t = 0 then P else []).length ≤ 100 ∧ (if sellE T P V t = 0 then V else []).length ≤ 100) ∧
    ((if (enterV T P V p).2 = 0 then T else []).length ≤ 100 ∧ (if (enterV T P V p).2 = 0 then P ++ [p] else []).length ≤ 100 ∧ (if (enterV T P V p).2 = 0 then V ++ [(enterV T P V p).1] else []).length ≤ 100) := by
  constructor
  · by_cases h : sellE T P V t = 0
    · have h1 := sell_right h
      have h2 := chkL_right h1.1
      rw [if_pos h, if_pos h, if_pos h, soldT_len]
      omega
    · simp [h]
  · by_cases h : (enterV T P V p).2 = 0
    · have h1 := enter_right h
      have h2 := chkL_right h1.1
      rw [if_pos h, if_pos h, if_pos h, List.length_append, List.length_append, List.length_singleton, List.length_singleton]
      omega
    · simp [h]

set_option maxHeartbeats 12800000 in
set_option maxRecDepth 100000 in
theorem ledgerTells_walk (o1 o2 o3 : Option Addr) (T : List TK) (P : List TP) (V : List Int) (c1 c2 c3 : Nat) (i k f t z r : Int) (a g s m zo : Int) (id : Int) (w : World) (h : LedV w (lg o1 o2 o3 T.length c1 P.length c2 V.length c3) T P V) (hl : LensOk T P V) :
    Calls Try.prog 7 #[lg o1 o2 o3 T.length c1 P.length c2 V.length c3, tk i k f t z r, tp a g s m zo, .int .i64 id] w fun e w' => e = .returned (.bool true) ∧ Below w.heap.size w w' := by
  have HL0 := hide h
  have HS := hide (fun W (h : LedV W (lg o1 o2 o3 T.length c1 P.length c2 V.length c3) T P V) => sellV h hl i k f t z r)
  have HE := hide (fun W (h : LedV W (lg o1 o2 o3 T.length c1 P.length c2 V.length c3) T P V) => enterVv h hl a g s m zo)
  have HRd := hide (fun W (h : LedV W (lg o1 o2 o3 T.length c1 P.length c2 V.length c3) T P V) => ridesVv h hl id)
  have HC := hide (fun W (h : LedV W (lg o1 o2 o3 T.length c1 P.length c2 V.length c3) T P V) => checkLedger_any o1 o2 o3 c1 c2 c3 T P V W h.at.1 h.at.2.1 h.at.2.2.1)
  have HK := hide (fun W (h : LedV W (lg o1 o2 o3 T.length c1 P.length c2 V.length c3) T P V) => checkV h hl)
  have HSo := hide (fun (h0 : chkL T P V = 0) W (h : LedV W (lg o1 o2 o3 T.length c1 P.length c2 V.length c3) T P V) => sellOfV h h0 i k f t z r)
  have HEo := hide (fun (h0 : chkL T P V = 0) W (h : LedV W (lg o1 o2 o3 T.length c1 P.length c2 V.length c3) T P V) => enterOfV h h0 a g s m zo)
  have HMo := hide (fun (h0 : chkL T P V = 0) W (h : LedV W (lg o1 o2 o3 T.length c1 P.length c2 V.length c3) T P V) => manyOf_any o1 o2 o3 T.length c1 c2 c3 P V id P.length W h.at.2.1 h.at.2.2.1 (Nat.le_refl _) (by have := chkL_right h0; omega) (by have := chkL_right h0; omega))
  rw [List.take_of_length_le (l := P.zip V) (i := P.length) (by rw [List.length_zip]; omega)] at HMo
  have HX0 := hide (fun (h : chkL T P V ≠ 0) => (by rw [sell_chk0 h, enter_chk0 h]; unfold ridesV; rw [if_pos h]; exact ⟨rfl, rfl, rfl⟩ : sellE T P V (⟨i, k, f, t, z, r⟩ : TK) = chkL T P V ∧ enterV T P V (⟨a, g, s, m, zo⟩ : TP) = (0, chkL T P V) ∧ ridesV T P V id = (0, chkL T P V)))
  have HX1 := hide (fun (h : chkL T P V = 0) => rides_ways id h)
  have HLn := hide (tells_lens (T := T) (P := P) (V := V) (⟨i, k, f, t, z, r⟩ : TK) (⟨a, g, s, m, zo⟩ : TP))
  have hl1 := hl.1
  have HN1 := hide (fun (hh : sellE T P V (⟨i, k, f, t, z, r⟩ : TK) ≠ 0) => (by rw [if_neg hh, if_neg hh, if_neg hh]; exact ⟨rfl, rfl, rfl⟩ : (if sellE T P V (⟨i, k, f, t, z, r⟩ : TK) = 0 then soldT T (⟨i, k, f, t, z, r⟩ : TK) else []) = [] ∧ (if sellE T P V (⟨i, k, f, t, z, r⟩ : TK) = 0 then P else []) = [] ∧ (if sellE T P V (⟨i, k, f, t, z, r⟩ : TK) = 0 then V else []) = []))
  have HN2 := hide (fun (hh : (enterV T P V (⟨a, g, s, m, zo⟩ : TP)).2 ≠ 0) => (by rw [if_neg hh, if_neg hh, if_neg hh]; exact ⟨rfl, rfl, rfl⟩ : (if (enterV T P V (⟨a, g, s, m, zo⟩ : TP)).2 = 0 then T else []) = [] ∧ (if (enterV T P V (⟨a, g, s, m, zo⟩ : TP)).2 = 0 then P ++ [(⟨a, g, s, m, zo⟩ : TP)] else []) = [] ∧ (if (enterV T P V (⟨a, g, s, m, zo⟩ : TP)).2 = 0 then V ++ [(enterV T P V (⟨a, g, s, m, zo⟩ : TP)).1] else []) = []))
  clear h hl
  generalize (if sellE T P V (⟨i, k, f, t, z, r⟩ : TK) = 0 then soldT T (⟨i, k, f, t, z, r⟩ : TK) else []) = Ts at *
  generalize (if sellE T P V (⟨i, k, f, t, z, r⟩ : TK) = 0 then P else []) = Ps at *
  generalize (if sellE T P V (⟨i, k, f, t, z, r⟩ : TK) = 0 then V else []) = Vs at *
  generalize (if (enterV T P V (⟨a, g, s, m, zo⟩ : TP)).2 = 0 then T else []) = Te at *
  generalize (if (enterV T P V (⟨a, g, s, m, zo⟩ : TP)).2 = 0 then P ++ [(⟨a, g, s, m, zo⟩ : TP)] else []) = Pe at *
  generalize (if (enterV T P V (⟨a, g, s, m, zo⟩ : TP)).2 = 0 then V ++ [(enterV T P V (⟨a, g, s, m, zo⟩ : TP)).1] else []) = Ve at *
  generalize sellE T P V (⟨i, k, f, t, z, r⟩ : TK) = SE at *
  generalize enterV T P V (⟨a, g, s, m, zo⟩ : TP) = EE at *
  generalize ridesV T P V id = RR at *
  generalize chkL T P V = X at *
  obtain ⟨E1, E2⟩ := EE
  obtain ⟨R1, R2⟩ := RR
  simp only [] at HE HEo HRd HN2
  go_enter Try.func7, Try.ntmps7
  go_wp2_with fail
  have HG1 := hide ((((Blks.nil w).more (.cells #[.slice o1 T.length c1, .slice o2 P.length c2, .slice o3 V.length c3] 43) (by simp)).more (.cells #[.int .i64 i, .int .i64 k, .int .i64 f, .int .i64 t, .int .i64 z, .int .i64 r] 23) (by simp)).more (.cells #[.int .i64 a, .int .i64 g, .int .i64 s, .int .i64 m, .int .i64 zo] 32) (by simp))
  refine (HS.out _ (HL0.out.below HG1.out.2.2)).mono ?_
  rintro e w1 ⟨⟨va, rfl, hva⟩, hb⟩
  have HG1w1 := hide (HG1.out.on hb)
  obtain ⟨oa1, oa2, oa3, na1, ca1, na2, ca2, na3, ca3, rfl, hva'⟩ := hva.open9
  have HVa := hide hva'
  clear hva hva'
  clear hb HG1
  have lG1_0 := HG1w1.out.lt 0 w.heap.size (by simp) rfl
  have cG1_0_0 := HG1w1.out.cell 0 0 w.heap.size _ _ _ rfl rfl rfl
  have cG1_0_1 := HG1w1.out.cell 0 1 w.heap.size _ _ _ rfl rfl rfl
  have cG1_0_2 := HG1w1.out.cell 0 2 w.heap.size _ _ _ rfl rfl rfl
  have lG1_1 := HG1w1.out.lt 1 (w.heap.size + 1) (by simp) rfl
  have cG1_1_0 := HG1w1.out.cell 1 0 (w.heap.size + 1) _ _ _ rfl rfl rfl
  have cG1_1_1 := HG1w1.out.cell 1 1 (w.heap.size + 1) _ _ _ rfl rfl rfl
  have cG1_1_2 := HG1w1.out.cell 1 2 (w.heap.size + 1) _ _ _ rfl rfl rfl
  have cG1_1_3 := HG1w1.out.cell 1 3 (w.heap.size + 1) _ _ _ rfl rfl rfl
  have cG1_1_4 := HG1w1.out.cell 1 4 (w.heap.size + 1) _ _ _ rfl rfl rfl
  have cG1_1_5 := HG1w1.out.cell 1 5 (w.heap.size + 1) _ _ _ rfl rfl rfl
  have lG1_2 := HG1w1.out.lt 2 (w.heap.size + 1 + 1) (by simp) rfl
  have cG1_2_0 := HG1w1.out.cell 2 0 (w.heap.size + 1 + 1) _ _ _ rfl rfl rfl
  have cG1_2_1 := HG1w1.out.cell 2 1 (w.heap.size + 1 + 1) _ _ _ rfl rfl rfl
  have cG1_2_2 := HG1w1.out.cell 2 2 (w.heap.size + 1 + 1) _ _ _ rfl rfl rfl
  have cG1_2_3 := HG1w1.out.cell 2 3 (w.heap.size + 1 + 1) _ _ _ rfl rfl rfl
  have cG1_2_4 := HG1w1.out.cell 2 4 (w.heap.size + 1 + 1) _ _ _ rfl rfl rfl
  go_wp2_with fail
  have HG2 := hide ((Blks.nil w1).more (.cells #[.slice oa1 na1 ca1, .slice oa2 na2 ca2, .slice oa3 na3 ca3] 43) (by simp))
  refine (HE.out _ (HL0.out.below (HG1w1.out.on HG2.out.2.2).2.2)).mono ?_
  rintro e w2 ⟨⟨vb, rfl, hvb⟩, hb⟩
  have HG2w2 := hide (HG2.out.on hb)
  have HG1w2 := hide (HG1w1.out.on HG2w2.out.2.2)
  obtain ⟨ob1, ob2, ob3, nb1, cb1, nb2, cb2, nb3, cb3, rfl, hvb'⟩ := hvb.open9
  have HVb := hide hvb'
  clear hvb hvb'
  clear lG1_0 cG1_0_0 cG1_0_1 cG1_0_2 lG1_1 cG1_1_0 cG1_1_1 cG1_1_2 cG1_1_3 cG1_1_4 cG1_1_5 lG1_2 cG1_2_0 cG1_2_1 cG1_2_2 cG1_2_3 cG1_2_4
  clear hb HG1w1 HG2
  have lG1_0 := HG1w2.out.lt 0 w.heap.size (by simp) rfl
  have cG1_0_0 := HG1w2.out.cell 0 0 w.heap.size _ _ _ rfl rfl rfl
  have cG1_0_1 := HG1w2.out.cell 0 1 w.heap.size _ _ _ rfl rfl rfl
  have cG1_0_2 := HG1w2.out.cell 0 2 w.heap.size _ _ _ rfl rfl rfl
  have lG1_1 := HG1w2.out.lt 1 (w.heap.size + 1) (by simp) rfl
  have cG1_1_0 := HG1w2.out.cell 1 0 (w.heap.size + 1) _ _ _ rfl rfl rfl
  have cG1_1_1 := HG1w2.out.cell 1 1 (w.heap.size + 1) _ _ _ rfl rfl rfl
  have cG1_1_2 := HG1w2.out.cell 1 2 (w.heap.size + 1) _ _ _ rfl rfl rfl
  have cG1_1_3 := HG1w2.out.cell 1 3 (w.heap.size + 1) _ _ _ rfl rfl rfl
  have cG1_1_4 := HG1w2.out.cell 1 4 (w.heap.size + 1) _ _ _ rfl rfl rfl
  have cG1_1_5 := HG1w2.out.cell 1 5 (w.heap.size + 1) _ _ _ rfl rfl rfl
  have lG1_2 := HG1w2.out.lt 2 (w.heap.size + 1 + 1) (by simp) rfl
  have cG1_2_0 := HG1w2.out.cell 2 0 (w.heap.size + 1 + 1) _ _ _ rfl rfl rfl
  have cG1_2_1 := HG1w2.out.cell 2 1 (w.heap.size + 1 + 1) _ _ _ rfl rfl rfl
  have cG1_2_2 := HG1w2.out.cell 2 2 (w.heap.size + 1 + 1) _ _ _ rfl rfl rfl
  have cG1_2_3 := HG1w2.out.cell 2 3 (w.heap.size + 1 + 1) _ _ _ rfl rfl rfl
  have cG1_2_4 := HG1w2.out.cell 2 4 (w.heap.size + 1 + 1) _ _ _ rfl rfl rfl
  have lG2_0 := HG2w2.out.lt 0 w1.heap.size (by simp) rfl
  have cG2_0_0 := HG2w2.out.cell 0 0 w1.heap.size _ _ _ rfl rfl rfl
  have cG2_0_1 := HG2w2.out.cell 0 1 w1.heap.size _ _ _ rfl rfl rfl
  have cG2_0_2 := HG2w2.out.cell 0 2 w1.heap.size _ _ _ rfl rfl rfl
  go_wp2_with fail
  have HG3 := hide ((Blks.nil w2).more (.cells #[.slice ob1 nb1 cb1, .slice ob2 nb2 cb2, .slice ob3 nb3 cb3] 43) (by simp))
  refine (HRd.out _ (HL0.out.below (HG1w2.out.on HG3.out.2.2).2.2)).mono ?_
  rintro e w3 ⟨rfl, hb⟩
  have HG3w3 := hide (HG3.out.on hb)
  have HG1w3 := hide (HG1w2.out.on HG3w3.out.2.2)
  have HG2w3 := hide (HG2w2.out.on HG3w3.out.2.2)
  clear lG1_0 cG1_0_0 cG1_0_1 cG1_0_2 lG1_1 cG1_1_0 cG1_1_1 cG1_1_2 cG1_1_3 cG1_1_4 cG1_1_5 lG1_2 cG1_2_0 cG1_2_1 cG1_2_2 cG1_2_3 cG1_2_4 lG2_0 cG2_0_0 cG2_0_1 cG2_0_2
  clear hb HG1w2 HG2w2 HG3
  have lG1_0 := HG1w3.out.lt 0 w.heap.size (by simp) rfl
  have cG1_0_0 := HG1w3.out.cell 0 0 w.heap.size _ _ _ rfl rfl rfl
  have cG1_0_1 := HG1w3.out.cell 0 1 w.heap.size _ _ _ rfl rfl rfl
  have cG1_0_2 := HG1w3.out.cell 0 2 w.heap.size _ _ _ rfl rfl rfl
  have lG1_1 := HG1w3.out.lt 1 (w.heap.size + 1) (by simp) rfl
  have cG1_1_0 := HG1w3.out.cell 1 0 (w.heap.size + 1) _ _ _ rfl rfl rfl
  have cG1_1_1 := HG1w3.out.cell 1 1 (w.heap.size + 1) _ _ _ rfl rfl rfl
  have cG1_1_2 := HG1w3.out.cell 1 2 (w.heap.size + 1) _ _ _ rfl rfl rfl
  have cG1_1_3 := HG1w3.out.cell 1 3 (w.heap.size + 1) _ _ _ rfl rfl rfl
  have cG1_1_4 := HG1w3.out.cell 1 4 (w.heap.size + 1) _ _ _ rfl rfl rfl
  have cG1_1_5 := HG1w3.out.cell 1 5 (w.heap.size + 1) _ _ _ rfl rfl rfl
  have lG1_2 := HG1w3.out.lt 2 (w.heap.size + 1 + 1) (by simp) rfl
  have cG1_2_0 := HG1w3.out.cell 2 0 (w.heap.size + 1 + 1) _ _ _ rfl rfl rfl
  have cG1_2_1 := HG1w3.out.cell 2 1 (w.heap.size + 1 + 1) _ _ _ rfl rfl rfl
  have cG1_2_2 := HG1w3.out.cell 2 2 (w.heap.size + 1 + 1) _ _ _ rfl rfl rfl
  have cG1_2_3 := HG1w3.out.cell 2 3 (w.heap.size + 1 + 1) _ _ _ rfl rfl rfl
  have cG1_2_4 := HG1w3.out.cell 2 4 (w.heap.size + 1 + 1) _ _ _ rfl rfl rfl
  have lG2_0 := HG2w3.out.lt 0 w1.heap.size (by simp) rfl
  have cG2_0_0 := HG2w3.out.cell 0 0 w1.heap.size _ _ _ rfl rfl rfl
  have cG2_0_1 := HG2w3.out.cell 0 1 w1.heap.size _ _ _ rfl rfl rfl
  have cG2_0_2 := HG2w3.out.cell 0 2 w1.heap.size _ _ _ rfl rfl rfl
  have lG3_0 := HG3w3.out.lt 0 w2.heap.size (by simp) rfl
  have cG3_0_0 := HG3w3.out.cell 0 0 w2.heap.size _ _ _ rfl rfl rfl
  have cG3_0_1 := HG3w3.out.cell 0 1 w2.heap.size _ _ _ rfl rfl rfl
  have cG3_0_2 := HG3w3.out.cell 0 2 w2.heap.size _ _ _ rfl rfl rfl
  go_wp2_with fail
  refine (HC.out _ (HL0.out.below HG1w3.out.2.2)).mono ?_
  rintro e w4 ⟨rfl, hb⟩
  have HG1w4 := hide (HG1w3.out.on hb)
  have HG2w4 := hide (HG2w3.out.on hb)
  have HG3w4 := hide (HG3w3.out.on hb)
  clear lG1_0 cG1_0_0 cG1_0_1 cG1_0_2 lG1_1 cG1_1_0 cG1_1_1 cG1_1_2 cG1_1_3 cG1_1_4 cG1_1_5 lG1_2 cG1_2_0 cG1_2_1 cG1_2_2 cG1_2_3 cG1_2_4 lG2_0 cG2_0_0 cG2_0_1 cG2_0_2 lG3_0 cG3_0_0 cG3_0_1 cG3_0_2
  clear hb HG1w3 HG2w3 HG3w3
  have lG1_0 := HG1w4.out.lt 0 w.heap.size (by simp) rfl
  have cG1_0_0 := HG1w4.out.cell 0 0 w.heap.size _ _ _ rfl rfl rfl
  have cG1_0_1 := HG1w4.out.cell 0 1 w.heap.size _ _ _ rfl rfl rfl
  have cG1_0_2 := HG1w4.out.cell 0 2 w.heap.size _ _ _ rfl rfl rfl
  have lG1_1 := HG1w4.out.lt 1 (w.heap.size + 1) (by simp) rfl
  have cG1_1_0 := HG1w4.out.cell 1 0 (w.heap.size + 1) _ _ _ rfl rfl rfl
  have cG1_1_1 := HG1w4.out.cell 1 1 (w.heap.size + 1) _ _ _ rfl rfl rfl
  have cG1_1_2 := HG1w4.out.cell 1 2 (w.heap.size + 1) _ _ _ rfl rfl rfl
  have cG1_1_3 := HG1w4.out.cell 1 3 (w.heap.size + 1) _ _ _ rfl rfl rfl
  have cG1_1_4 := HG1w4.out.cell 1 4 (w.heap.size + 1) _ _ _ rfl rfl rfl
  have cG1_1_5 := HG1w4.out.cell 1 5 (w.heap.size + 1) _ _ _ rfl rfl rfl
  have lG1_2 := HG1w4.out.lt 2 (w.heap.size + 1 + 1) (by simp) rfl
  have cG1_2_0 := HG1w4.out.cell 2 0 (w.heap.size + 1 + 1) _ _ _ rfl rfl rfl
  have cG1_2_1 := HG1w4.out.cell 2 1 (w.heap.size + 1 + 1) _ _ _ rfl rfl rfl
  have cG1_2_2 := HG1w4.out.cell 2 2 (w.heap.size + 1 + 1) _ _ _ rfl rfl rfl
  have cG1_2_3 := HG1w4.out.cell 2 3 (w.heap.size + 1 + 1) _ _ _ rfl rfl rfl
  have cG1_2_4 := HG1w4.out.cell 2 4 (w.heap.size + 1 + 1) _ _ _ rfl rfl rfl
  have lG2_0 := HG2w4.out.lt 0 w1.heap.size (by simp) rfl
  have cG2_0_0 := HG2w4.out.cell 0 0 w1.heap.size _ _ _ rfl rfl rfl
  have cG2_0_1 := HG2w4.out.cell 0 1 w1.heap.size _ _ _ rfl rfl rfl
  have cG2_0_2 := HG2w4.out.cell 0 2 w1.heap.size _ _ _ rfl rfl rfl
  have lG3_0 := HG3w4.out.lt 0 w2.heap.size (by simp) rfl
  have cG3_0_0 := HG3w4.out.cell 0 0 w2.heap.size _ _ _ rfl rfl rfl
  have cG3_0_1 := HG3w4.out.cell 0 1 w2.heap.size _ _ _ rfl rfl rfl
  have cG3_0_2 := HG3w4.out.cell 0 2 w2.heap.size _ _ _ rfl rfl rfl
  have zG1 := HG1w4.out.2.1
  simp only [List.length_append, List.length_cons, List.length_nil] at zG1
  have zG2 := HG2w4.out.2.1
  simp only [List.length_append, List.length_cons, List.length_nil] at zG2
  have zG3 := HG3w4.out.2.1
  simp only [List.length_append, List.length_cons, List.length_nil] at zG3
  go_upto_if 49 with fail
  have HG4 := hide (((Blks.nil w4).more (.cells #[.slice none 0 0, .slice none 0 0, .slice none 0 0] 43) (by simp)).more (.cells #[.slice none 0 0, .slice none 0 0, .slice none 0 0] 43) (by simp))
  go_cut [17, 18, 19, 22, 23] from 24 (fun s17 s18 s19 s22 s23 wx => s17 = .int .i64 SE ∧ s18 = .int .i64 E2 ∧ s19 = .int .i64 R2 ∧ s22 = .int .i64 E1 ∧ s23 = .int .i64 R1 ∧ Blks w wx ([] ++ [.cells #[.slice o1 T.length c1, .slice o2 P.length c2, .slice o3 V.length c3] 43] ++ [.cells #[.int .i64 i, .int .i64 k, .int .i64 f, .int .i64 t, .int .i64 z, .int .i64 r] 23] ++ [.cells #[.int .i64 a, .int .i64 g, .int .i64 s, .int .i64 m, .int .i64 zo] 32]) ∧ Blks w1 wx ([] ++ [.cells #[.slice oa1 na1 ca1, .slice oa2 na2 ca2, .slice oa3 na3 ca3] 43]) ∧ Blks w2 wx ([] ++ [.cells #[.slice ob1 nb1 cb1, .slice ob2 nb2 cb2, .slice ob3 nb3 cb3] 43]) ∧ ∃ os1 os2 os3 ns1 cs1 ns2 cs2 ns3 cs3 oe1 oe2 oe3 ne1 ce1 ne2 ce2 ne3 ce3, Blks w4 wx ([] ++ [.cells #[.slice os1 ns1 cs1, .slice os2 ns2 cs2, .slice os3 ns3 cs3] 43] ++ [.cells #[.slice oe1 ne1 ce1, .slice oe2 ne2 ce2, .slice oe3 ne3 ce3] 43]) ∧ (SE = 0 → LedV wx (lg os1 os2 os3 ns1 cs1 ns2 cs2 ns3 cs3) Ts Ps Vs) ∧ (E2 = 0 → LedV wx (lg oe1 oe2 oe3 ne1 ce1 ne2 ce2 ne3 ce3) Te Pe Ve))
  case first =>
    clear HS HE HRd HC
    by_cases hX : X = 0
    · subst hX
      have HSo' := hide (HSo.out rfl)
      have HEo' := hide (HEo.out rfl)
      have HMo' := hide (HMo.out rfl)
      have HX1' := hide (HX1.out rfl)
      clear HSo HEo HMo HX1 HX0 HN1 HN2 HLn
      go_wp2_with fail
      refine (HSo'.out _ (HL0.out.below (HG1w4.out.on HG4.out.2.2).2.2)).mono ?_
      rintro e w5 ⟨⟨vs, rfl, hvs⟩, hb⟩
      have HG4w5 := hide (HG4.out.on hb)
      have HG1w5 := hide (HG1w4.out.on HG4w5.out.2.2)
      have HG2w5 := hide (HG2w4.out.on HG4w5.out.2.2)
      have HG3w5 := hide (HG3w4.out.on HG4w5.out.2.2)
      obtain ⟨os1, os2, os3, ns1, cs1, ns2, cs2, ns3, cs3, rfl, hvs'⟩ := hvs.open9
      have HVs := hide hvs'
      clear hvs hvs'
      clear lG1_0 cG1_0_0 cG1_0_1 cG1_0_2 lG1_1 cG1_1_0 cG1_1_1 cG1_1_2 cG1_1_3 cG1_1_4 cG1_1_5 lG1_2 cG1_2_0 cG1_2_1 cG1_2_2 cG1_2_3 cG1_2_4 lG2_0 cG2_0_0 cG2_0_1 cG2_0_2 lG3_0 cG3_0_0 cG3_0_1 cG3_0_2
      clear hb HG1w4 HG2w4 HG3w4 HG4
      have lG1_0 := HG1w5.out.lt 0 w.heap.size (by simp) rfl
      have cG1_0_0 := HG1w5.out.cell 0 0 w.heap.size _ _ _ rfl rfl rfl
      have cG1_0_1 := HG1w5.out.cell 0 1 w.heap.size _ _ _ rfl rfl rfl
      have cG1_0_2 := HG1w5.out.cell 0 2 w.heap.size _ _ _ rfl rfl rfl
      have lG1_1 := HG1w5.out.lt 1 (w.heap.size + 1) (by simp) rfl
      have cG1_1_0 := HG1w5.out.cell 1 0 (w.heap.size + 1) _ _ _ rfl rfl rfl
      have cG1_1_1 := HG1w5.out.cell 1 1 (w.heap.size + 1) _ _ _ rfl rfl rfl
      have cG1_1_2 := HG1w5.out.cell 1 2 (w.heap.size + 1) _ _ _ rfl rfl rfl
      have cG1_1_3 := HG1w5.out.cell 1 3 (w.heap.size + 1) _ _ _ rfl rfl rfl
      have cG1_1_4 := HG1w5.out.cell 1 4 (w.heap.size + 1) _ _ _ rfl rfl rfl
      have cG1_1_5 := HG1w5.out.cell 1 5 (w.heap.size + 1) _ _ _ rfl rfl rfl
      have lG1_2 := HG1w5.out.lt 2 (w.heap.size + 1 + 1) (by simp) rfl
      have cG1_2_0 := HG1w5.out.cell 2 0 (w.heap.size + 1 + 1) _ _ _ rfl rfl rfl
      have cG1_2_1 := HG1w5.out.cell 2 1 (w.heap.size + 1 + 1) _ _ _ rfl rfl rfl
      have cG1_2_2 := HG1w5.out.cell 2 2 (w.heap.size + 1 + 1) _ _ _ rfl rfl rfl
      have cG1_2_3 := HG1w5.out.cell 2 3 (w.heap.size + 1 + 1) _ _ _ rfl rfl rfl
      have cG1_2_4 := HG1w5.out.cell 2 4 (w.heap.size + 1 + 1) _ _ _ rfl rfl rfl
      have lG2_0 := HG2w5.out.lt 0 w1.heap.size (by simp) rfl
      have cG2_0_0 := HG2w5.out.cell 0 0 w1.heap.size _ _ _ rfl rfl rfl
      have cG2_0_1 := HG2w5.out.cell 0 1 w1.heap.size _ _ _ rfl rfl rfl
      have cG2_0_2 := HG2w5.out.cell 0 2 w1.heap.size _ _ _ rfl rfl rfl
      have lG3_0 := HG3w5.out.lt 0 w2.heap.size (by simp) rfl
      have cG3_0_0 := HG3w5.out.cell 0 0 w2.heap.size _ _ _ rfl rfl rfl
      have cG3_0_1 := HG3w5.out.cell 0 1 w2.heap.size _ _ _ rfl rfl rfl
      have cG3_0_2 := HG3w5.out.cell 0 2 w2.heap.size _ _ _ rfl rfl rfl
      have lG4_0 := HG4w5.out.lt 0 w4.heap.size (by simp) rfl
      have cG4_0_0 := HG4w5.out.cell 0 0 w4.heap.size _ _ _ rfl rfl rfl
      have fG4_0_0 := HG4w5.out.frozen 0 0 w4.heap.size _ _ rfl rfl
      have cG4_0_1 := HG4w5.out.cell 0 1 w4.heap.size _ _ _ rfl rfl rfl
      have fG4_0_1 := HG4w5.out.frozen 0 1 w4.heap.size _ _ rfl rfl
      have cG4_0_2 := HG4w5.out.cell 0 2 w4.heap.size _ _ _ rfl rfl rfl
      have fG4_0_2 := HG4w5.out.frozen 0 2 w4.heap.size _ _ rfl rfl
      have lG4_1 := HG4w5.out.lt 1 (w4.heap.size + 1) (by simp) rfl
      have cG4_1_0 := HG4w5.out.cell 1 0 (w4.heap.size + 1) _ _ _ rfl rfl rfl
      have fG4_1_0 := HG4w5.out.frozen 1 0 (w4.heap.size + 1) _ _ rfl rfl
      have cG4_1_1 := HG4w5.out.cell 1 1 (w4.heap.size + 1) _ _ _ rfl rfl rfl
      have fG4_1_1 := HG4w5.out.frozen 1 1 (w4.heap.size + 1) _ _ rfl rfl
      have cG4_1_2 := HG4w5.out.cell 1 2 (w4.heap.size + 1) _ _ _ rfl rfl rfl
      have fG4_1_2 := HG4w5.out.frozen 1 2 (w4.heap.size + 1) _ _ rfl rfl
      go_wp2_with fail
      have HVs6 : Hid (LedV (((w5.setCell ⟨w4.heap.size, 0, none⟩ (.slice os1 ns1 cs1)).setCell ⟨w4.heap.size, 1, none⟩ (.slice os2 ns2 cs2)).setCell ⟨w4.heap.size, 2, none⟩ (.slice os3 ns3 cs3)) (lg os1 os2 os3 ns1 cs1 ns2 cs2 ns3 cs3) Ts Ps Vs) := hide (((HVs.out.setSlice (b := ⟨w4.heap.size, 0, none⟩) cG4_0_0 _).setSlice (b := ⟨w4.heap.size, 1, none⟩) (by first | exact cG4_0_1 | (rw [World.cell?_setCell_other _ _ _ _ (by simp)]; exact cG4_0_1)) _).setSlice (b := ⟨w4.heap.size, 2, none⟩) (by first | exact cG4_0_2 | (rw [World.cell?_setCell_other _ _ _ _ (by simp), World.cell?_setCell_other _ _ _ _ (by simp)]; exact cG4_0_2)) _)
      clear HVs
      clear lG1_0 cG1_0_0 cG1_0_1 cG1_0_2 lG1_1 cG1_1_0 cG1_1_1 cG1_1_2 cG1_1_3 cG1_1_4 cG1_1_5 lG1_2 cG1_2_0 cG1_2_1 cG1_2_2 cG1_2_3 cG1_2_4 lG2_0 cG2_0_0 cG2_0_1 cG2_0_2 lG3_0 cG3_0_0 cG3_0_1 cG3_0_2 lG4_0 cG4_0_0 fG4_0_0 cG4_0_1 fG4_0_1 cG4_0_2 fG4_0_2 lG4_1 cG4_1_0 fG4_1_0 cG4_1_1 fG4_1_1 cG4_1_2 fG4_1_2
      have HG1w6 := hide (((HG1w5.out.set ⟨w4.heap.size, 0, none⟩ (by simp; try omega) (.slice os1 ns1 cs1)).set ⟨w4.heap.size, 1, none⟩ (by simp; try omega) (.slice os2 ns2 cs2)).set ⟨w4.heap.size, 2, none⟩ (by simp; try omega) (.slice os3 ns3 cs3))
      have HG2w6 := hide (((HG2w5.out.set ⟨w4.heap.size, 0, none⟩ (by simp; try omega) (.slice os1 ns1 cs1)).set ⟨w4.heap.size, 1, none⟩ (by simp; try omega) (.slice os2 ns2 cs2)).set ⟨w4.heap.size, 2, none⟩ (by simp; try omega) (.slice os3 ns3 cs3))
      have HG3w6 := hide (((HG3w5.out.set ⟨w4.heap.size, 0, none⟩ (by simp; try omega) (.slice os1 ns1 cs1)).set ⟨w4.heap.size, 1, none⟩ (by simp; try omega) (.slice os2 ns2 cs2)).set ⟨w4.heap.size, 2, none⟩ (by simp; try omega) (.slice os3 ns3 cs3))
      have HG4w6 : Hid (Blks w4 (((w5.setCell ⟨w4.heap.size, 0, none⟩ (.slice os1 ns1 cs1)).setCell ⟨w4.heap.size, 1, none⟩ (.slice os2 ns2 cs2)).setCell ⟨w4.heap.size, 2, none⟩ (.slice os3 ns3 cs3)) [.cells #[.slice os1 ns1 cs1, .slice os2 ns2 cs2, .slice os3 ns3 cs3] 43, .cells #[.slice none 0 0, .slice none 0 0, .slice none 0 0] 43]) := hide (((HG4w5.out.put 0 0 w4.heap.size _ _ (.slice os1 ns1 cs1) rfl rfl).put 0 1 w4.heap.size _ _ (.slice os2 ns2 cs2) rfl rfl).put 0 2 w4.heap.size _ _ (.slice os3 ns3 cs3) rfl rfl)
      clear HG1w5 HG2w5 HG3w5 HG4w5
      generalize (((w5.setCell ⟨w4.heap.size, 0, none⟩ (.slice os1 ns1 cs1)).setCell ⟨w4.heap.size, 1, none⟩ (.slice os2 ns2 cs2)).setCell ⟨w4.heap.size, 2, none⟩ (.slice os3 ns3 cs3)) = w6 at *
      have lG1_0 := HG1w6.out.lt 0 w.heap.size (by simp) rfl
      have cG1_0_0 := HG1w6.out.cell 0 0 w.heap.size _ _ _ rfl rfl rfl
      have cG1_0_1 := HG1w6.out.cell 0 1 w.heap.size _ _ _ rfl rfl rfl
      have cG1_0_2 := HG1w6.out.cell 0 2 w.heap.size _ _ _ rfl rfl rfl
      have lG1_1 := HG1w6.out.lt 1 (w.heap.size + 1) (by simp) rfl
      have cG1_1_0 := HG1w6.out.cell 1 0 (w.heap.size + 1) _ _ _ rfl rfl rfl
      have cG1_1_1 := HG1w6.out.cell 1 1 (w.heap.size + 1) _ _ _ rfl rfl rfl
      have cG1_1_2 := HG1w6.out.cell 1 2 (w.heap.size + 1) _ _ _ rfl rfl rfl
      have cG1_1_3 := HG1w6.out.cell 1 3 (w.heap.size + 1) _ _ _ rfl rfl rfl
      have cG1_1_4 := HG1w6.out.cell 1 4 (w.heap.size + 1) _ _ _ rfl rfl rfl
      have cG1_1_5 := HG1w6.out.cell 1 5 (w.heap.size + 1) _ _ _ rfl rfl rfl
      have lG1_2 := HG1w6.out.lt 2 (w.heap.size + 1 + 1) (by simp) rfl
      have cG1_2_0 := HG1w6.out.cell 2 0 (w.heap.size + 1 + 1) _ _ _ rfl rfl rfl
      have cG1_2_1 := HG1w6.out.cell 2 1 (w.heap.size + 1 + 1) _ _ _ rfl rfl rfl
      have cG1_2_2 := HG1w6.out.cell 2 2 (w.heap.size + 1 + 1) _ _ _ rfl rfl rfl
      have cG1_2_3 := HG1w6.out.cell 2 3 (w.heap.size + 1 + 1) _ _ _ rfl rfl rfl
      have cG1_2_4 := HG1w6.out.cell 2 4 (w.heap.size + 1 + 1) _ _ _ rfl rfl rfl
      have lG2_0 := HG2w6.out.lt 0 w1.heap.size (by simp) rfl
      have cG2_0_0 := HG2w6.out.cell 0 0 w1.heap.size _ _ _ rfl rfl rfl
      have cG2_0_1 := HG2w6.out.cell 0 1 w1.heap.size _ _ _ rfl rfl rfl
      have cG2_0_2 := HG2w6.out.cell 0 2 w1.heap.size _ _ _ rfl rfl rfl
      have lG3_0 := HG3w6.out.lt 0 w2.heap.size (by simp) rfl
      have cG3_0_0 := HG3w6.out.cell 0 0 w2.heap.size _ _ _ rfl rfl rfl
      have cG3_0_1 := HG3w6.out.cell 0 1 w2.heap.size _ _ _ rfl rfl rfl
      have cG3_0_2 := HG3w6.out.cell 0 2 w2.heap.size _ _ _ rfl rfl rfl
      have lG4_0 := HG4w6.out.lt 0 w4.heap.size (by simp) rfl
      have cG4_0_0 := HG4w6.out.cell 0 0 w4.heap.size _ _ _ rfl rfl rfl
      have cG4_0_1 := HG4w6.out.cell 0 1 w4.heap.size _ _ _ rfl rfl rfl
      have cG4_0_2 := HG4w6.out.cell 0 2 w4.heap.size _ _ _ rfl rfl rfl
      have lG4_1 := HG4w6.out.lt 1 (w4.heap.size + 1) (by simp) rfl
      have cG4_1_0 := HG4w6.out.cell 1 0 (w4.heap.size + 1) _ _ _ rfl rfl rfl
      have cG4_1_1 := HG4w6.out.cell 1 1 (w4.heap.size + 1) _ _ _ rfl rfl rfl
      have cG4_1_2 := HG4w6.out.cell 1 2 (w4.heap.size + 1) _ _ _ rfl rfl rfl
      refine (HEo'.out _ (HL0.out.below HG1w6.out.2.2)).mono ?_
      rintro e w7 ⟨⟨ve, rfl, hve⟩, hb⟩
      have HG1w7 := hide (HG1w6.out.on hb)
      have HG2w7 := hide (HG2w6.out.on hb)
      have HG3w7 := hide (HG3w6.out.on hb)
      have HG4w7 := hide (HG4w6.out.on hb)
      obtain ⟨oe1, oe2, oe3, ne1, ce1, ne2, ce2, ne3, ce3, rfl, hve'⟩ := hve.open9
      have HVe := hide hve'
      have HVs7 := hide (HVs6.out.below hb)
      clear hve hve' HVs6
      clear lG1_0 cG1_0_0 cG1_0_1 cG1_0_2 lG1_1 cG1_1_0 cG1_1_1 cG1_1_2 cG1_1_3 cG1_1_4 cG1_1_5 lG1_2 cG1_2_0 cG1_2_1 cG1_2_2 cG1_2_3 cG1_2_4 lG2_0 cG2_0_0 cG2_0_1 cG2_0_2 lG3_0 cG3_0_0 cG3_0_1 cG3_0_2 lG4_0 cG4_0_0 cG4_0_1 cG4_0_2 lG4_1 cG4_1_0 cG4_1_1 cG4_1_2
      clear hb HG1w6 HG2w6 HG3w6 HG4w6
      have lG1_0 := HG1w7.out.lt 0 w.heap.size (by simp) rfl
      have cG1_0_0 := HG1w7.out.cell 0 0 w.heap.size _ _ _ rfl rfl rfl
      have cG1_0_1 := HG1w7.out.cell 0 1 w.heap.size _ _ _ rfl rfl rfl
      have cG1_0_2 := HG1w7.out.cell 0 2 w.heap.size _ _ _ rfl rfl rfl
      have lG1_1 := HG1w7.out.lt 1 (w.heap.size + 1) (by simp) rfl
      have cG1_1_0 := HG1w7.out.cell 1 0 (w.heap.size + 1) _ _ _ rfl rfl rfl
      have cG1_1_1 := HG1w7.out.cell 1 1 (w.heap.size + 1) _ _ _ rfl rfl rfl
      have cG1_1_2 := HG1w7.out.cell 1 2 (w.heap.size + 1) _ _ _ rfl rfl rfl
      have cG1_1_3 := HG1w7.out.cell 1 3 (w.heap.size + 1) _ _ _ rfl rfl rfl
      have cG1_1_4 := HG1w7.out.cell 1 4 (w.heap.size + 1) _ _ _ rfl rfl rfl
      have cG1_1_5 := HG1w7.out.cell 1 5 (w.heap.size + 1) _ _ _ rfl rfl rfl
      have lG1_2 := HG1w7.out.lt 2 (w.heap.size + 1 + 1) (by simp) rfl
      have cG1_2_0 := HG1w7.out.cell 2 0 (w.heap.size + 1 + 1) _ _ _ rfl rfl rfl
      have cG1_2_1 := HG1w7.out.cell 2 1 (w.heap.size + 1 + 1) _ _ _ rfl rfl rfl
      have cG1_2_2 := HG1w7.out.cell 2 2 (w.heap.size + 1 + 1) _ _ _ rfl rfl rfl
      have cG1_2_3 := HG1w7.out.cell 2 3 (w.heap.size + 1 + 1) _ _ _ rfl rfl rfl
      have cG1_2_4 := HG1w7.out.cell 2 4 (w.heap.size + 1 + 1) _ _ _ rfl rfl rfl
      have lG2_0 := HG2w7.out.lt 0 w1.heap.size (by simp) rfl
      have cG2_0_0 := HG2w7.out.cell 0 0 w1.heap.size _ _ _ rfl rfl rfl
      have cG2_0_1 := HG2w7.out.cell 0 1 w1.heap.size _ _ _ rfl rfl rfl
      have cG2_0_2 := HG2w7.out.cell 0 2 w1.heap.size _ _ _ rfl rfl rfl
      have lG3_0 := HG3w7.out.lt 0 w2.heap.size (by simp) rfl
      have cG3_0_0 := HG3w7.out.cell 0 0 w2.heap.size _ _ _ rfl rfl rfl
      have cG3_0_1 := HG3w7.out.cell 0 1 w2.heap.size _ _ _ rfl rfl rfl
      have cG3_0_2 := HG3w7.out.cell 0 2 w2.heap.size _ _ _ rfl rfl rfl
      have lG4_0 := HG4w7.out.lt 0 w4.heap.size (by simp) rfl
      have cG4_0_0 := HG4w7.out.cell 0 0 w4.heap.size _ _ _ rfl rfl rfl
      have fG4_0_0 := HG4w7.out.frozen 0 0 w4.heap.size _ _ rfl rfl
      have cG4_0_1 := HG4w7.out.cell 0 1 w4.heap.size _ _ _ rfl rfl rfl
      have fG4_0_1 := HG4w7.out.frozen 0 1 w4.heap.size _ _ rfl rfl
      have cG4_0_2 := HG4w7.out.cell 0 2 w4.heap.size _ _ _ rfl rfl rfl
      have fG4_0_2 := HG4w7.out.frozen 0 2 w4.heap.size _ _ rfl rfl
      have lG4_1 := HG4w7.out.lt 1 (w4.heap.size + 1) (by simp) rfl
      have cG4_1_0 := HG4w7.out.cell 1 0 (w4.heap.size + 1) _ _ _ rfl rfl rfl
      have fG4_1_0 := HG4w7.out.frozen 1 0 (w4.heap.size + 1) _ _ rfl rfl
      have cG4_1_1 := HG4w7.out.cell 1 1 (w4.heap.size + 1) _ _ _ rfl rfl rfl
      have fG4_1_1 := HG4w7.out.frozen 1 1 (w4.heap.size + 1) _ _ rfl rfl
      have cG4_1_2 := HG4w7.out.cell 1 2 (w4.heap.size + 1) _ _ _ rfl rfl rfl
      have fG4_1_2 := HG4w7.out.frozen 1 2 (w4.heap.size + 1) _ _ rfl rfl
      go_wp2_with fail
      have HVe8 : Hid (LedV (((w7.setCell ⟨w4.heap.size + 1, 0, none⟩ (.slice oe1 ne1 ce1)).setCell ⟨w4.heap.size + 1, 1, none⟩ (.slice oe2 ne2 ce2)).setCell ⟨w4.heap.size + 1, 2, none⟩ (.slice oe3 ne3 ce3)) (lg oe1 oe2 oe3 ne1 ce1 ne2 ce2 ne3 ce3) Te Pe Ve) := hide (((HVe.out.setSlice (b := ⟨w4.heap.size + 1, 0, none⟩) cG4_1_0 _).setSlice (b := ⟨w4.heap.size + 1, 1, none⟩) (by first | exact cG4_1_1 | (rw [World.cell?_setCell_other _ _ _ _ (by simp)]; exact cG4_1_1)) _).setSlice (b := ⟨w4.heap.size + 1, 2, none⟩) (by first | exact cG4_1_2 | (rw [World.cell?_setCell_other _ _ _ _ (by simp), World.cell?_setCell_other _ _ _ _ (by simp)]; exact cG4_1_2)) _)
      have HVs78 : Hid (LedV (((w7.setCell ⟨w4.heap.size + 1, 0, none⟩ (.slice oe1 ne1 ce1)).setCell ⟨w4.heap.size + 1, 1, none⟩ (.slice oe2 ne2 ce2)).setCell ⟨w4.heap.size + 1, 2, none⟩ (.slice oe3 ne3 ce3)) (lg os1 os2 os3 ns1 cs1 ns2 cs2 ns3 cs3) Ts Ps Vs) := hide (((HVs7.out.setSlice (b := ⟨w4.heap.size + 1, 0, none⟩) cG4_1_0 _).setSlice (b := ⟨w4.heap.size + 1, 1, none⟩) (by first | exact cG4_1_1 | (rw [World.cell?_setCell_other _ _ _ _ (by simp)]; exact cG4_1_1)) _).setSlice (b := ⟨w4.heap.size + 1, 2, none⟩) (by first | exact cG4_1_2 | (rw [World.cell?_setCell_other _ _ _ _ (by simp), World.cell?_setCell_other _ _ _ _ (by simp)]; exact cG4_1_2)) _)
      clear HVe HVs7
      clear lG1_0 cG1_0_0 cG1_0_1 cG1_0_2 lG1_1 cG1_1_0 cG1_1_1 cG1_1_2 cG1_1_3 cG1_1_4 cG1_1_5 lG1_2 cG1_2_0 cG1_2_1 cG1_2_2 cG1_2_3 cG1_2_4 lG2_0 cG2_0_0 cG2_0_1 cG2_0_2 lG3_0 cG3_0_0 cG3_0_1 cG3_0_2 lG4_0 cG4_0_0 fG4_0_0 cG4_0_1 fG4_0_1 cG4_0_2 fG4_0_2 lG4_1 cG4_1_0 fG4_1_0 cG4_1_1 fG4_1_1 cG4_1_2 fG4_1_2
      have HG1w8 := hide (((HG1w7.out.set ⟨w4.heap.size + 1, 0, none⟩ (by simp; try omega) (.slice oe1 ne1 ce1)).set ⟨w4.heap.size + 1, 1, none⟩ (by simp; try omega) (.slice oe2 ne2 ce2)).set ⟨w4.heap.size + 1, 2, none⟩ (by simp; try omega) (.slice oe3 ne3 ce3))
      have HG2w8 := hide (((HG2w7.out.set ⟨w4.heap.size + 1, 0, none⟩ (by simp; try omega) (.slice oe1 ne1 ce1)).set ⟨w4.heap.size + 1, 1, none⟩ (by simp; try omega) (.slice oe2 ne2 ce2)).set ⟨w4.heap.size + 1, 2, none⟩ (by simp; try omega) (.slice oe3 ne3 ce3))
      have HG3w8 := hide (((HG3w7.out.set ⟨w4.heap.size + 1, 0, none⟩ (by simp; try omega) (.slice oe1 ne1 ce1)).set ⟨w4.heap.size + 1, 1, none⟩ (by simp; try omega) (.slice oe2 ne2 ce2)).set ⟨w4.heap.size + 1, 2, none⟩ (by simp; try omega) (.slice oe3 ne3 ce3))
      have HG4w8 : Hid (Blks w4 (((w7.setCell ⟨w4.heap.size + 1, 0, none⟩ (.slice oe1 ne1 ce1)).setCell ⟨w4.heap.size + 1, 1, none⟩ (.slice oe2 ne2 ce2)).setCell ⟨w4.heap.size + 1, 2, none⟩ (.slice oe3 ne3 ce3)) [.cells #[.slice os1 ns1 cs1, .slice os2 ns2 cs2, .slice os3 ns3 cs3] 43, .cells #[.slice oe1 ne1 ce1, .slice oe2 ne2 ce2, .slice oe3 ne3 ce3] 43]) := hide (((HG4w7.out.put 1 0 (w4.heap.size + 1) _ _ (.slice oe1 ne1 ce1) rfl rfl).put 1 1 (w4.heap.size + 1) _ _ (.slice oe2 ne2 ce2) rfl rfl).put 1 2 (w4.heap.size + 1) _ _ (.slice oe3 ne3 ce3) rfl rfl)
      clear HG1w7 HG2w7 HG3w7 HG4w7
      generalize (((w7.setCell ⟨w4.heap.size + 1, 0, none⟩ (.slice oe1 ne1 ce1)).setCell ⟨w4.heap.size + 1, 1, none⟩ (.slice oe2 ne2 ce2)).setCell ⟨w4.heap.size + 1, 2, none⟩ (.slice oe3 ne3 ce3)) = w8 at *
      have lG1_0 := HG1w8.out.lt 0 w.heap.size (by simp) rfl
      have cG1_0_0 := HG1w8.out.cell 0 0 w.heap.size _ _ _ rfl rfl rfl
      have cG1_0_1 := HG1w8.out.cell 0 1 w.heap.size _ _ _ rfl rfl rfl
      have cG1_0_2 := HG1w8.out.cell 0 2 w.heap.size _ _ _ rfl rfl rfl
      have lG1_1 := HG1w8.out.lt 1 (w.heap.size + 1) (by simp) rfl
      have cG1_1_0 := HG1w8.out.cell 1 0 (w.heap.size + 1) _ _ _ rfl rfl rfl
      have cG1_1_1 := HG1w8.out.cell 1 1 (w.heap.size + 1) _ _ _ rfl rfl rfl
      have cG1_1_2 := HG1w8.out.cell 1 2 (w.heap.size + 1) _ _ _ rfl rfl rfl
      have cG1_1_3 := HG1w8.out.cell 1 3 (w.heap.size + 1) _ _ _ rfl rfl rfl
      have cG1_1_4 := HG1w8.out.cell 1 4 (w.heap.size + 1) _ _ _ rfl rfl rfl
      have cG1_1_5 := HG1w8.out.cell 1 5 (w.heap.size + 1) _ _ _ rfl rfl rfl
      have lG1_2 := HG1w8.out.lt 2 (w.heap.size + 1 + 1) (by simp) rfl
      have cG1_2_0 := HG1w8.out.cell 2 0 (w.heap.size + 1 + 1) _ _ _ rfl rfl rfl
      have cG1_2_1 := HG1w8.out.cell 2 1 (w.heap.size + 1 + 1) _ _ _ rfl rfl rfl
      have cG1_2_2 := HG1w8.out.cell 2 2 (w.heap.size + 1 + 1) _ _ _ rfl rfl rfl
      have cG1_2_3 := HG1w8.out.cell 2 3 (w.heap.size + 1 + 1) _ _ _ rfl rfl rfl
      have cG1_2_4 := HG1w8.out.cell 2 4 (w.heap.size + 1 + 1) _ _ _ rfl rfl rfl
      have lG2_0 := HG2w8.out.lt 0 w1.heap.size (by simp) rfl
      have cG2_0_0 := HG2w8.out.cell 0 0 w1.heap.size _ _ _ rfl rfl rfl
      have cG2_0_1 := HG2w8.out.cell 0 1 w1.heap.size _ _ _ rfl rfl rfl
      have cG2_0_2 := HG2w8.out.cell 0 2 w1.heap.size _ _ _ rfl rfl rfl
      have lG3_0 := HG3w8.out.lt 0 w2.heap.size (by simp) rfl
      have cG3_0_0 := HG3w8.out.cell 0 0 w2.heap.size _ _ _ rfl rfl rfl
      have cG3_0_1 := HG3w8.out.cell 0 1 w2.heap.size _ _ _ rfl rfl rfl
      have cG3_0_2 := HG3w8.out.cell 0 2 w2.heap.size _ _ _ rfl rfl rfl
      have lG4_0 := HG4w8.out.lt 0 w4.heap.size (by simp) rfl
      have cG4_0_0 := HG4w8.out.cell 0 0 w4.heap.size _ _ _ rfl rfl rfl
      have cG4_0_1 := HG4w8.out.cell 0 1 w4.heap.size _ _ _ rfl rfl rfl
      have cG4_0_2 := HG4w8.out.cell 0 2 w4.heap.size _ _ _ rfl rfl rfl
      have lG4_1 := HG4w8.out.lt 1 (w4.heap.size + 1) (by simp) rfl
      have cG4_1_0 := HG4w8.out.cell 1 0 (w4.heap.size + 1) _ _ _ rfl rfl rfl
      have cG4_1_1 := HG4w8.out.cell 1 1 (w4.heap.size + 1) _ _ _ rfl rfl rfl
      have cG4_1_2 := HG4w8.out.cell 1 2 (w4.heap.size + 1) _ _ _ rfl rfl rfl
      refine (HMo'.out _ (HL0.out.below HG1w8.out.2.2)).mono ?_
      rintro e w9 ⟨rfl, hb⟩
      have HG1w9 := hide (HG1w8.out.on hb)
      have HG2w9 := hide (HG2w8.out.on hb)
      have HG3w9 := hide (HG3w8.out.on hb)
      have HG4w9 := hide (HG4w8.out.on hb)
      have HVe9 := hide (HVe8.out.below hb)
      have HVs9 := hide (HVs78.out.below hb)
      clear HVe8 HVs78
      clear lG1_0 cG1_0_0 cG1_0_1 cG1_0_2 lG1_1 cG1_1_0 cG1_1_1 cG1_1_2 cG1_1_3 cG1_1_4 cG1_1_5 lG1_2 cG1_2_0 cG1_2_1 cG1_2_2 cG1_2_3 cG1_2_4 lG2_0 cG2_0_0 cG2_0_1 cG2_0_2 lG3_0 cG3_0_0 cG3_0_1 cG3_0_2 lG4_0 cG4_0_0 cG4_0_1 cG4_0_2 lG4_1 cG4_1_0 cG4_1_1 cG4_1_2
      clear hb HG1w8 HG2w8 HG3w8 HG4w8
      have lG1_0 := HG1w9.out.lt 0 w.heap.size (by simp) rfl
      have cG1_0_0 := HG1w9.out.cell 0 0 w.heap.size _ _ _ rfl rfl rfl
      have cG1_0_1 := HG1w9.out.cell 0 1 w.heap.size _ _ _ rfl rfl rfl
      have cG1_0_2 := HG1w9.out.cell 0 2 w.heap.size _ _ _ rfl rfl rfl
      have lG1_1 := HG1w9.out.lt 1 (w.heap.size + 1) (by simp) rfl
      have cG1_1_0 := HG1w9.out.cell 1 0 (w.heap.size + 1) _ _ _ rfl rfl rfl
      have cG1_1_1 := HG1w9.out.cell 1 1 (w.heap.size + 1) _ _ _ rfl rfl rfl
      have cG1_1_2 := HG1w9.out.cell 1 2 (w.heap.size + 1) _ _ _ rfl rfl rfl
      have cG1_1_3 := HG1w9.out.cell 1 3 (w.heap.size + 1) _ _ _ rfl rfl rfl
      have cG1_1_4 := HG1w9.out.cell 1 4 (w.heap.size + 1) _ _ _ rfl rfl rfl
      have cG1_1_5 := HG1w9.out.cell 1 5 (w.heap.size + 1) _ _ _ rfl rfl rfl
      have lG1_2 := HG1w9.out.lt 2 (w.heap.size + 1 + 1) (by simp) rfl
      have cG1_2_0 := HG1w9.out.cell 2 0 (w.heap.size + 1 + 1) _ _ _ rfl rfl rfl
      have cG1_2_1 := HG1w9.out.cell 2 1 (w.heap.size + 1 + 1) _ _ _ rfl rfl rfl
      have cG1_2_2 := HG1w9.out.cell 2 2 (w.heap.size + 1 + 1) _ _ _ rfl rfl rfl
      have cG1_2_3 := HG1w9.out.cell 2 3 (w.heap.size + 1 + 1) _ _ _ rfl rfl rfl
      have cG1_2_4 := HG1w9.out.cell 2 4 (w.heap.size + 1 + 1) _ _ _ rfl rfl rfl
      have lG2_0 := HG2w9.out.lt 0 w1.heap.size (by simp) rfl
      have cG2_0_0 := HG2w9.out.cell 0 0 w1.heap.size _ _ _ rfl rfl rfl
      have cG2_0_1 := HG2w9.out.cell 0 1 w1.heap.size _ _ _ rfl rfl rfl
      have cG2_0_2 := HG2w9.out.cell 0 2 w1.heap.size _ _ _ rfl rfl rfl
      have lG3_0 := HG3w9.out.lt 0 w2.heap.size (by simp) rfl
      have cG3_0_0 := HG3w9.out.cell 0 0 w2.heap.size _ _ _ rfl rfl rfl
      have cG3_0_1 := HG3w9.out.cell 0 1 w2.heap.size _ _ _ rfl rfl rfl
      have cG3_0_2 := HG3w9.out.cell 0 2 w2.heap.size _ _ _ rfl rfl rfl
      have lG4_0 := HG4w9.out.lt 0 w4.heap.size (by simp) rfl
      have cG4_0_0 := HG4w9.out.cell 0 0 w4.heap.size _ _ _ rfl rfl rfl
      have cG4_0_1 := HG4w9.out.cell 0 1 w4.heap.size _ _ _ rfl rfl rfl
      have cG4_0_2 := HG4w9.out.cell 0 2 w4.heap.size _ _ _ rfl rfl rfl
      have lG4_1 := HG4w9.out.lt 1 (w4.heap.size + 1) (by simp) rfl
      have cG4_1_0 := HG4w9.out.cell 1 0 (w4.heap.size + 1) _ _ _ rfl rfl rfl
      have cG4_1_1 := HG4w9.out.cell 1 1 (w4.heap.size + 1) _ _ _ rfl rfl rfl
      have cG4_1_2 := HG4w9.out.cell 1 2 (w4.heap.size + 1) _ _ _ rfl rfl rfl
      go_wp2_with fail
      refine (ticketAt_any o1 c1 T id _ (HL0.out.below HG1w9.out.2.2).at.1 hl1).mono ?_
      rintro e w9' ⟨rfl, hw9⟩
      obtain rfl := hw9.symm
      clear hw9
      rcases HX1'.out with ⟨hn, he⟩ | ⟨hn, he⟩
      · have HEq := hide he
        clear he HX1'
        go_wp2_with fail
        go_meet
        case rel =>
          have he := HEq.out
          simp only [Prod.mk.injEq] at he
          exact ⟨rfl, rfl, by rw [he.2], rfl, by rw [he.1], HG1w9.out, HG2w9.out, HG3w9.out, os1, os2, os3, ns1, cs1, ns2, cs2, ns3, cs3, oe1, oe2, oe3, ne1, ce1, ne2, ce2, ne3, ce3, HG4w9.out, fun _ => HVs9.out, fun _ => HVe9.out⟩
      · have HEq := hide he
        clear he HX1'
        go_wp2_with fail
        go_meet
        case rel =>
          have he := HEq.out
          simp only [Prod.mk.injEq] at he
          exact ⟨rfl, rfl, by rw [he.2], rfl, by rw [he.1], HG1w9.out, HG2w9.out, HG3w9.out, os1, os2, os3, ns1, cs1, ns2, cs2, ns3, cs3, oe1, oe2, oe3, ne1, ce1, ne2, ce2, ne3, ce3, HG4w9.out, fun _ => HVs9.out, fun _ => HVe9.out⟩
    · have hX' : (X == 0) = false := by simpa using hX
      obtain ⟨e1, e2, e3⟩ := HX0.out hX
      simp only [Prod.mk.injEq] at e2 e3
      have HEq := hide (And.intro hX (And.intro e1 (And.intro e2 e3)))
      clear e1 e2 e3 hX HSo HEo HMo HX1 HX0
      go_wp2_with fail
      go_meet
      case rel =>
        obtain ⟨hX, he1, ⟨he2, he3⟩, he4, he5⟩ := HEq.out
        exact ⟨by rw [he1], by rw [he3], by rw [he5], by rw [he2], by rw [he4], HG1w4.out.on HG4.out.2.2, HG2w4.out.on HG4.out.2.2, HG3w4.out.on HG4.out.2.2, none, none, none, 0, 0, 0, 0, 0, 0, none, none, none, 0, 0, 0, 0, 0, 0, HG4.out, fun e => absurd (he1.symm.trans e) hX, fun e => absurd (he3.symm.trans e) hX⟩
  case rest =>
    obtain ⟨rfl, rfl, rfl, rfl, rfl, hk1, hk2, hk3, os1, os2, os3, ns1, cs1, ns2, cs2, ns3, cs3, oe1, oe2, oe3, ne1, ce1, ne2, ce2, ne3, ce3, hk4, hvs, hve⟩ := hcut
    have HK1 := hide hk1
    have HK2 := hide hk2
    have HK3 := hide hk3
    have HK4 := hide hk4
    have HVs := hide hvs
    have HVe := hide hve
    clear hk1 hk2 hk3 hk4 hvs hve HG4 HG1w4 HG2w4 HG3w4 HS HE HRd HC HSo HEo HMo HX0 HX1
    go_wp2_with fail
    refine (ledgerBegun_any _).mono ?_
    rintro e v1 ⟨rfl, hb⟩
    have HG1v1 := hide (HK1.out.on hb)
    have HG2v1 := hide (HK2.out.on hb)
    have HG3v1 := hide (HK3.out.on hb)
    have HG4v1 := hide (HK4.out.on hb)
    have HVs1 := hide (fun h => (HVs.out h).below hb)
    have HVe1 := hide (fun h => (HVe.out h).below hb)
    clear HVs HVe
    clear hb HK1 HK2 HK3 HK4
    have lG1_0 := HG1v1.out.lt 0 w.heap.size (by simp) rfl
    have cG1_0_0 := HG1v1.out.cell 0 0 w.heap.size _ _ _ rfl rfl rfl
    have cG1_0_1 := HG1v1.out.cell 0 1 w.heap.size _ _ _ rfl rfl rfl
    have cG1_0_2 := HG1v1.out.cell 0 2 w.heap.size _ _ _ rfl rfl rfl
    have lG1_1 := HG1v1.out.lt 1 (w.heap.size + 1) (by simp) rfl
    have cG1_1_0 := HG1v1.out.cell 1 0 (w.heap.size + 1) _ _ _ rfl rfl rfl
    have cG1_1_1 := HG1v1.out.cell 1 1 (w.heap.size + 1) _ _ _ rfl rfl rfl
    have cG1_1_2 := HG1v1.out.cell 1 2 (w.heap.size + 1) _ _ _ rfl rfl rfl
    have cG1_1_3 := HG1v1.out.cell 1 3 (w.heap.size + 1) _ _ _ rfl rfl rfl
    have cG1_1_4 := HG1v1.out.cell 1 4 (w.heap.size + 1) _ _ _ rfl rfl rfl
    have cG1_1_5 := HG1v1.out.cell 1 5 (w.heap.size + 1) _ _ _ rfl rfl rfl
    have lG1_2 := HG1v1.out.lt 2 (w.heap.size + 1 + 1) (by simp) rfl
    have cG1_2_0 := HG1v1.out.cell 2 0 (w.heap.size + 1 + 1) _ _ _ rfl rfl rfl
    have cG1_2_1 := HG1v1.out.cell 2 1 (w.heap.size + 1 + 1) _ _ _ rfl rfl rfl
    have cG1_2_2 := HG1v1.out.cell 2 2 (w.heap.size + 1 + 1) _ _ _ rfl rfl rfl
    have cG1_2_3 := HG1v1.out.cell 2 3 (w.heap.size + 1 + 1) _ _ _ rfl rfl rfl
    have cG1_2_4 := HG1v1.out.cell 2 4 (w.heap.size + 1 + 1) _ _ _ rfl rfl rfl
    have lG2_0 := HG2v1.out.lt 0 w1.heap.size (by simp) rfl
    have cG2_0_0 := HG2v1.out.cell 0 0 w1.heap.size _ _ _ rfl rfl rfl
    have cG2_0_1 := HG2v1.out.cell 0 1 w1.heap.size _ _ _ rfl rfl rfl
    have cG2_0_2 := HG2v1.out.cell 0 2 w1.heap.size _ _ _ rfl rfl rfl
    have lG3_0 := HG3v1.out.lt 0 w2.heap.size (by simp) rfl
    have cG3_0_0 := HG3v1.out.cell 0 0 w2.heap.size _ _ _ rfl rfl rfl
    have cG3_0_1 := HG3v1.out.cell 0 1 w2.heap.size _ _ _ rfl rfl rfl
    have cG3_0_2 := HG3v1.out.cell 0 2 w2.heap.size _ _ _ rfl rfl rfl
    have lG4_0 := HG4v1.out.lt 0 w4.heap.size (by simp) rfl
    have cG4_0_0 := HG4v1.out.cell 0 0 w4.heap.size _ _ _ rfl rfl rfl
    have cG4_0_1 := HG4v1.out.cell 0 1 w4.heap.size _ _ _ rfl rfl rfl
    have cG4_0_2 := HG4v1.out.cell 0 2 w4.heap.size _ _ _ rfl rfl rfl
    have lG4_1 := HG4v1.out.lt 1 (w4.heap.size + 1) (by simp) rfl
    have cG4_1_0 := HG4v1.out.cell 1 0 (w4.heap.size + 1) _ _ _ rfl rfl rfl
    have cG4_1_1 := HG4v1.out.cell 1 1 (w4.heap.size + 1) _ _ _ rfl rfl rfl
    have cG4_1_2 := HG4v1.out.cell 1 2 (w4.heap.size + 1) _ _ _ rfl rfl rfl
    go_wp2_with fail
    refine (HK.out _ (HL0.out.below HG1v1.out.2.2)).mono ?_
    rintro e v2 ⟨rfl, hb⟩
    have HG1v2 := hide (HG1v1.out.on hb)
    have HG2v2 := hide (HG2v1.out.on hb)
    have HG3v2 := hide (HG3v1.out.on hb)
    have HG4v2 := hide (HG4v1.out.on hb)
    have HVs2 := hide (fun h => (HVs1.out h).below hb)
    have HVe2 := hide (fun h => (HVe1.out h).below hb)
    clear HVs1 HVe1
    clear lG1_0 cG1_0_0 cG1_0_1 cG1_0_2 lG1_1 cG1_1_0 cG1_1_1 cG1_1_2 cG1_1_3 cG1_1_4 cG1_1_5 lG1_2 cG1_2_0 cG1_2_1 cG1_2_2 cG1_2_3 cG1_2_4 lG2_0 cG2_0_0 cG2_0_1 cG2_0_2 lG3_0 cG3_0_0 cG3_0_1 cG3_0_2 lG4_0 cG4_0_0 cG4_0_1 cG4_0_2 lG4_1 cG4_1_0 cG4_1_1 cG4_1_2
    clear hb HG1v1 HG2v1 HG3v1 HG4v1
    have lG1_0 := HG1v2.out.lt 0 w.heap.size (by simp) rfl
    have cG1_0_0 := HG1v2.out.cell 0 0 w.heap.size _ _ _ rfl rfl rfl
    have cG1_0_1 := HG1v2.out.cell 0 1 w.heap.size _ _ _ rfl rfl rfl
    have cG1_0_2 := HG1v2.out.cell 0 2 w.heap.size _ _ _ rfl rfl rfl
    have lG1_1 := HG1v2.out.lt 1 (w.heap.size + 1) (by simp) rfl
    have cG1_1_0 := HG1v2.out.cell 1 0 (w.heap.size + 1) _ _ _ rfl rfl rfl
    have cG1_1_1 := HG1v2.out.cell 1 1 (w.heap.size + 1) _ _ _ rfl rfl rfl
    have cG1_1_2 := HG1v2.out.cell 1 2 (w.heap.size + 1) _ _ _ rfl rfl rfl
    have cG1_1_3 := HG1v2.out.cell 1 3 (w.heap.size + 1) _ _ _ rfl rfl rfl
    have cG1_1_4 := HG1v2.out.cell 1 4 (w.heap.size + 1) _ _ _ rfl rfl rfl
    have cG1_1_5 := HG1v2.out.cell 1 5 (w.heap.size + 1) _ _ _ rfl rfl rfl
    have lG1_2 := HG1v2.out.lt 2 (w.heap.size + 1 + 1) (by simp) rfl
    have cG1_2_0 := HG1v2.out.cell 2 0 (w.heap.size + 1 + 1) _ _ _ rfl rfl rfl
    have cG1_2_1 := HG1v2.out.cell 2 1 (w.heap.size + 1 + 1) _ _ _ rfl rfl rfl
    have cG1_2_2 := HG1v2.out.cell 2 2 (w.heap.size + 1 + 1) _ _ _ rfl rfl rfl
    have cG1_2_3 := HG1v2.out.cell 2 3 (w.heap.size + 1 + 1) _ _ _ rfl rfl rfl
    have cG1_2_4 := HG1v2.out.cell 2 4 (w.heap.size + 1 + 1) _ _ _ rfl rfl rfl
    have lG2_0 := HG2v2.out.lt 0 w1.heap.size (by simp) rfl
    have cG2_0_0 := HG2v2.out.cell 0 0 w1.heap.size _ _ _ rfl rfl rfl
    have cG2_0_1 := HG2v2.out.cell 0 1 w1.heap.size _ _ _ rfl rfl rfl
    have cG2_0_2 := HG2v2.out.cell 0 2 w1.heap.size _ _ _ rfl rfl rfl
    have lG3_0 := HG3v2.out.lt 0 w2.heap.size (by simp) rfl
    have cG3_0_0 := HG3v2.out.cell 0 0 w2.heap.size _ _ _ rfl rfl rfl
    have cG3_0_1 := HG3v2.out.cell 0 1 w2.heap.size _ _ _ rfl rfl rfl
    have cG3_0_2 := HG3v2.out.cell 0 2 w2.heap.size _ _ _ rfl rfl rfl
    have lG4_0 := HG4v2.out.lt 0 w4.heap.size (by simp) rfl
    have cG4_0_0 := HG4v2.out.cell 0 0 w4.heap.size _ _ _ rfl rfl rfl
    have cG4_0_1 := HG4v2.out.cell 0 1 w4.heap.size _ _ _ rfl rfl rfl
    have cG4_0_2 := HG4v2.out.cell 0 2 w4.heap.size _ _ _ rfl rfl rfl
    have lG4_1 := HG4v2.out.lt 1 (w4.heap.size + 1) (by simp) rfl
    have cG4_1_0 := HG4v2.out.cell 1 0 (w4.heap.size + 1) _ _ _ rfl rfl rfl
    have cG4_1_1 := HG4v2.out.cell 1 1 (w4.heap.size + 1) _ _ _ rfl rfl rfl
    have cG4_1_2 := HG4v2.out.cell 1 2 (w4.heap.size + 1) _ _ _ rfl rfl rfl
    go_wp2_with fail
    have hA : Calls Try.prog 28 #[lg oa1 oa2 oa3 na1 ca1 na2 ca2 na3 ca3, .int .i64 SE, .int .i64 SE, lg os1 os2 os3 ns1 cs1 ns2 cs2 ns3 cs3] v2 fun e w' => e = .returned (.bool true) ∧ Below v2.heap.size v2 w' := by
      by_cases hE : SE = 0
      · rw [hE]
        exact ledgerIs_ok (HVa.out.below HG2v2.out.2.2) (HVs2.out hE) HLn.out.1.1 HLn.out.1.2.1 HLn.out.1.2.2
      · obtain ⟨e1, e2, e3⟩ := HN1.out hE
        have := HVa.out.below HG2v2.out.2.2
        rw [e1, e2, e3] at this
        exact ledgerIs_err this SE hE
    refine (hA).mono ?_
    rintro e v3 ⟨rfl, hb⟩
    have HG1v3 := hide (HG1v2.out.on hb)
    have HG2v3 := hide (HG2v2.out.on hb)
    have HG3v3 := hide (HG3v2.out.on hb)
    have HG4v3 := hide (HG4v2.out.on hb)
    have HVs3 := hide (fun h => (HVs2.out h).below hb)
    have HVe3 := hide (fun h => (HVe2.out h).below hb)
    clear HVs2 HVe2
    clear hA
    clear lG1_0 cG1_0_0 cG1_0_1 cG1_0_2 lG1_1 cG1_1_0 cG1_1_1 cG1_1_2 cG1_1_3 cG1_1_4 cG1_1_5 lG1_2 cG1_2_0 cG1_2_1 cG1_2_2 cG1_2_3 cG1_2_4 lG2_0 cG2_0_0 cG2_0_1 cG2_0_2 lG3_0 cG3_0_0 cG3_0_1 cG3_0_2 lG4_0 cG4_0_0 cG4_0_1 cG4_0_2 lG4_1 cG4_1_0 cG4_1_1 cG4_1_2
    clear hb HG1v2 HG2v2 HG3v2 HG4v2
    have lG1_0 := HG1v3.out.lt 0 w.heap.size (by simp) rfl
    have cG1_0_0 := HG1v3.out.cell 0 0 w.heap.size _ _ _ rfl rfl rfl
    have cG1_0_1 := HG1v3.out.cell 0 1 w.heap.size _ _ _ rfl rfl rfl
    have cG1_0_2 := HG1v3.out.cell 0 2 w.heap.size _ _ _ rfl rfl rfl
    have lG1_1 := HG1v3.out.lt 1 (w.heap.size + 1) (by simp) rfl
    have cG1_1_0 := HG1v3.out.cell 1 0 (w.heap.size + 1) _ _ _ rfl rfl rfl
    have cG1_1_1 := HG1v3.out.cell 1 1 (w.heap.size + 1) _ _ _ rfl rfl rfl
    have cG1_1_2 := HG1v3.out.cell 1 2 (w.heap.size + 1) _ _ _ rfl rfl rfl
    have cG1_1_3 := HG1v3.out.cell 1 3 (w.heap.size + 1) _ _ _ rfl rfl rfl
    have cG1_1_4 := HG1v3.out.cell 1 4 (w.heap.size + 1) _ _ _ rfl rfl rfl
    have cG1_1_5 := HG1v3.out.cell 1 5 (w.heap.size + 1) _ _ _ rfl rfl rfl
    have lG1_2 := HG1v3.out.lt 2 (w.heap.size + 1 + 1) (by simp) rfl
    have cG1_2_0 := HG1v3.out.cell 2 0 (w.heap.size + 1 + 1) _ _ _ rfl rfl rfl
    have cG1_2_1 := HG1v3.out.cell 2 1 (w.heap.size + 1 + 1) _ _ _ rfl rfl rfl
    have cG1_2_2 := HG1v3.out.cell 2 2 (w.heap.size + 1 + 1) _ _ _ rfl rfl rfl
    have cG1_2_3 := HG1v3.out.cell 2 3 (w.heap.size + 1 + 1) _ _ _ rfl rfl rfl
    have cG1_2_4 := HG1v3.out.cell 2 4 (w.heap.size + 1 + 1) _ _ _ rfl rfl rfl
    have lG2_0 := HG2v3.out.lt 0 w1.heap.size (by simp) rfl
    have cG2_0_0 := HG2v3.out.cell 0 0 w1.heap.size _ _ _ rfl rfl rfl
    have cG2_0_1 := HG2v3.out.cell 0 1 w1.heap.size _ _ _ rfl rfl rfl
    have cG2_0_2 := HG2v3.out.cell 0 2 w1.heap.size _ _ _ rfl rfl rfl
    have lG3_0 := HG3v3.out.lt 0 w2.heap.size (by simp) rfl
    have cG3_0_0 := HG3v3.out.cell 0 0 w2.heap.size _ _ _ rfl rfl rfl
    have cG3_0_1 := HG3v3.out.cell 0 1 w2.heap.size _ _ _ rfl rfl rfl
    have cG3_0_2 := HG3v3.out.cell 0 2 w2.heap.size _ _ _ rfl rfl rfl
    have lG4_0 := HG4v3.out.lt 0 w4.heap.size (by simp) rfl
    have cG4_0_0 := HG4v3.out.cell 0 0 w4.heap.size _ _ _ rfl rfl rfl
    have cG4_0_1 := HG4v3.out.cell 0 1 w4.heap.size _ _ _ rfl rfl rfl
    have cG4_0_2 := HG4v3.out.cell 0 2 w4.heap.size _ _ _ rfl rfl rfl
    have lG4_1 := HG4v3.out.lt 1 (w4.heap.size + 1) (by simp) rfl
    have cG4_1_0 := HG4v3.out.cell 1 0 (w4.heap.size + 1) _ _ _ rfl rfl rfl
    have cG4_1_1 := HG4v3.out.cell 1 1 (w4.heap.size + 1) _ _ _ rfl rfl rfl
    have cG4_1_2 := HG4v3.out.cell 1 2 (w4.heap.size + 1) _ _ _ rfl rfl rfl
    go_wp2_with fail
    have hA : Calls Try.prog 28 #[lg ob1 ob2 ob3 nb1 cb1 nb2 cb2 nb3 cb3, .int .i64 E2, .int .i64 E2, lg oe1 oe2 oe3 ne1 ce1 ne2 ce2 ne3 ce3] v3 fun e w' => e = .returned (.bool true) ∧ Below v3.heap.size v3 w' := by
      by_cases hE : E2 = 0
      · rw [hE]
        exact ledgerIs_ok (HVb.out.below HG3v3.out.2.2) (HVe3.out hE) HLn.out.2.1 HLn.out.2.2.1 HLn.out.2.2.2
      · obtain ⟨e1, e2, e3⟩ := HN2.out hE
        have := HVb.out.below HG3v3.out.2.2
        rw [e1, e2, e3] at this
        exact ledgerIs_err this E2 hE
    refine (hA).mono ?_
    rintro e v4 ⟨rfl, hb⟩
    have HG1v4 := hide (HG1v3.out.on hb)
    have HG2v4 := hide (HG2v3.out.on hb)
    have HG3v4 := hide (HG3v3.out.on hb)
    have HG4v4 := hide (HG4v3.out.on hb)
    clear hA HVs3 HVe3
    clear lG1_0 cG1_0_0 cG1_0_1 cG1_0_2 lG1_1 cG1_1_0 cG1_1_1 cG1_1_2 cG1_1_3 cG1_1_4 cG1_1_5 lG1_2 cG1_2_0 cG1_2_1 cG1_2_2 cG1_2_3 cG1_2_4 lG2_0 cG2_0_0 cG2_0_1 cG2_0_2 lG3_0 cG3_0_0 cG3_0_1 cG3_0_2 lG4_0 cG4_0_0 cG4_0_1 cG4_0_2 lG4_1 cG4_1_0 cG4_1_1 cG4_1_2
    clear hb HG1v3 HG2v3 HG3v3 HG4v3
    go_wp2_with fail
    go_ret
    exact ⟨rfl, HG1v4.out.2.2⟩

end Go.Proofs.Ytcakfmpckbmdeab
