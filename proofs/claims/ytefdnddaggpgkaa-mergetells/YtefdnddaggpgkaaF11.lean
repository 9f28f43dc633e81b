/-
  'Into' (package merge).
-/
import Derived.Test.YtefdnddaggpgkaaF7
import Derived.Test.YtefdnddaggpgkaaF10
import Derived.Test.YtefdnddaggpgkaaK4
namespace Go.Proofs.Ytefdnddaggpgkaa
open Go.RowKit

/-- what Into says, and gives -/
def intoB (T : List TK) (P M : List TP) : Int × List TP × List Int × List TP := bldA T (srt (P ++ M)) [] [] []
def intoE (T : List TK) (P : List TP) (V : List Int) (M : List TP) : Int :=
  if chkL T P V = 0 then (if 12 < M.length then 2 else if ordE (P ++ M) = 0 then (intoB T P M).1 else ordE (P ++ M)) else chkL T P V
def intoT (T : List TK) (P : List TP) (V : List Int) (M : List TP) : List TK := if intoE T P V M = 0 then T else []
def intoP (T : List TK) (P : List TP) (V : List Int) (M : List TP) : List TP := if intoE T P V M = 0 then (intoB T P M).2.1 else []
def intoV (T : List TK) (P : List TP) (V : List Int) (M : List TP) : List Int := if intoE T P V M = 0 then (intoB T P M).2.2.1 else []
def intoD (T : List TK) (P : List TP) (V : List Int) (M : List TP) : List TP := if intoE T P V M = 0 then (intoB T P M).2.2.2 else []

theorem into_ways (T : List TK) (P : List TP) (V : List Int) (M : List TP) : ((chkL T P V != 0) = true ∧ intoE T P V M = chkL T P V) ∨ (chkL T P V = 0 ∧ 12 < M.length ∧ intoE T P V M = 2) ∨ (chkL T P V = 0 ∧ M.length ≤ 12 ∧ (ordE (P ++ M) != 0) = true ∧ intoE T P V M = ordE (P ++ M)) ∨
    (chkL T P V = 0 ∧ M.length ≤ 12 ∧ ordE (P ++ M) = 0 ∧ ((intoB T P M).1 != 0) = true ∧ intoE T P V M = (intoB T P M).1) ∨ (chkL T P V = 0 ∧ M.length ≤ 12 ∧ ordE (P ++ M) = 0 ∧ (intoB T P M).1 = 0 ∧ intoE T P V M = 0) := by
  unfold intoE
  by_cases h1 : chkL T P V = 0
  · right
    rw [if_pos h1]
    by_cases h2 : 12 < M.length
    · left; exact ⟨h1, h2, if_pos h2⟩
    · right
      rw [if_neg h2]
      by_cases h3 : ordE (P ++ M) = 0
      · right
        rw [if_pos h3]
        by_cases h4 : (intoB T P M).1 = 0
        · right; exact ⟨h1, by omega, h3, h4, h4⟩
        · left; exact ⟨h1, by omega, h3, by simpa using h4, rfl⟩
      · left; rw [if_neg h3]; exact ⟨h1, by omega, by simpa using h3, rfl⟩
  · left; rw [if_neg h1]; exact ⟨by simpa using h1, rfl⟩

theorem into_err {T : List TK} {P : List TP} {V : List Int} {M : List TP} (h : intoE T P V M ≠ 0) : intoT T P V M = [] ∧ intoP T P V M = [] ∧ intoV T P V M = [] ∧ intoD T P V M = [] := by
  simp [intoT, intoP, intoV, intoD, h]

theorem chkL_lens {T : List TK} {P : List TP} {V : List Int} (h : chkL T P V = 0) : T.length ≤ 12 ∧ P.length ≤ 60 ∧ V.length = P.length := by
  have := chkL_right h
  exact ⟨by omega, by omega, by omega⟩

theorem taps_lt {w : World} {o : Option Addr} {L : List TP} (h : TapsAt w o L) (A : Addr) (hA : o = some A) (hne : L ≠ []) : A.block < w.heap.size := by
  cases L with
  | nil => exact absurd rfl hne
  | cons p L =>
    obtain ⟨b, hb, c0, -⟩ := h 0 p rfl
    rw [hA] at hb
    cases hb
    have := World.block_lt_of_cell? w _ c0
    rwa [addr_blk] at this

set_option maxHeartbeats 6400000 in
set_option maxRecDepth 100000 in
theorem into_any (T : List TK) (P : List TP) (V : List Int) (M : List TP) (o1 o2 o3 om : Option Addr) (c1 c2 c3 cm : Nat) (w : World) (hled : LedV w (lg o1 o2 o3 T.length c1 P.length c2 V.length c3) T P V) (hl : LensOk T P V) (hM : TapsAt w om M) (hlM : M.length ≤ 9223372036854775807) (hnM : om = none → cm = 0) :
    Calls Try.prog 11 #[lg o1 o2 o3 T.length c1 P.length c2 V.length c3, .slice om M.length cm] w fun e w' =>
      (∃ lv od nd cd, e = .returned (.tuple #[lv, .slice od nd cd, .int .i64 (intoE T P V M)]) ∧ LedN w.heap.size w' lv (intoT T P V M) (intoP T P V M) (intoV T P V M) ∧ TapsV w' (.slice od nd cd) (intoD T P V M) ∧ Fresh w.heap.size (.slice od nd cd)) ∧ Below w.heap.size w w' := by
  have HG := hide (((Blks.nil w).more (.cells #[.slice o1 T.length c1, .slice o2 P.length c2, .slice o3 V.length c3] 26) (by simp)).more (.cells #[.slice none 0 0, .slice none 0 0, .slice none 0 0] 26) (by simp))
  have HCk := hide (fun W (h : LedV W (lg o1 o2 o3 T.length c1 P.length c2 V.length c3) T P V) => checkV h hl)
  have HLed := hide hled
  have HM := hide hM
  rcases into_ways T P V M with ⟨h1, h2⟩ | ⟨h1, h3, h2⟩ | ⟨h1, h3, h4, h2⟩ | ⟨h1, h3, h4, h5, h2⟩ | ⟨h1, h3, h4, h5, h2⟩
  · have hne : intoE T P V M ≠ 0 := by rw [h2]; simpa using h1
    obtain ⟨e1, e2, e3, e4⟩ := into_err hne
    rw [e1, e2, e3, e4, h2]
    clear hled hM hne e1 e2 e3 e4 h2
    generalize chkL T P V = E at *
    go_enter Try.func11, Try.ntmps11
    go_wp2_with fail
    refine (HCk.out _ (HLed.out.below HG.out.2.2)).mono ?_
    rintro e w1 ⟨rfl, hb⟩
    have HG1 := hide (HG.out.on hb)
    clear hb HG
    have lr := HG1.out.lt 1 (w.heap.size + 1) (by simp) rfl
    have r0 := HG1.out.cell 1 0 (w.heap.size + 1) _ _ _ rfl rfl rfl
    have f0 := HG1.out.frozen 1 0 (w.heap.size + 1) _ _ rfl rfl
    have r1 := HG1.out.cell 1 1 (w.heap.size + 1) _ _ _ rfl rfl rfl
    have f1 := HG1.out.frozen 1 1 (w.heap.size + 1) _ _ rfl rfl
    have r2 := HG1.out.cell 1 2 (w.heap.size + 1) _ _ _ rfl rfl rfl
    have f2 := HG1.out.frozen 1 2 (w.heap.size + 1) _ _ rfl rfl
    go_wp2_with fail
    refine bodyPost_ret (v := .tuple #[lg none none none 0 0 0 0 0 0, .slice none 0 0, .int .i64 E]) (by simp [results, Try.results11, go_sem, *]) rfl ⟨⟨_, _, _, _, rfl, ledN_none _ _, tapsV_nilO _, fresh_nilO _⟩, ?_⟩
    repeat (first | with_reducible refine Below.setCell ?_ (by simp; try omega) _ | exact HG1.out.2.2)
  · have hne : intoE T P V M ≠ 0 := by rw [h2]; decide
    obtain ⟨e1, e2, e3, e4⟩ := into_err hne
    rw [e1, e2, e3, e4, h2]
    rw [h1] at HCk
    have h3' : (12 : Int) < (M.length : Int) := by omega
    clear hled hM hne e1 e2 e3 e4 h2 h1 h3
    go_enter Try.func11, Try.ntmps11
    go_wp2_with fail
    refine (HCk.out _ (HLed.out.below HG.out.2.2)).mono ?_
    rintro e w1 ⟨rfl, hb⟩
    have HG1 := hide (HG.out.on hb)
    clear hb HG
    have lr := HG1.out.lt 1 (w.heap.size + 1) (by simp) rfl
    have r0 := HG1.out.cell 1 0 (w.heap.size + 1) _ _ _ rfl rfl rfl
    have f0 := HG1.out.frozen 1 0 (w.heap.size + 1) _ _ rfl rfl
    have r1 := HG1.out.cell 1 1 (w.heap.size + 1) _ _ _ rfl rfl rfl
    have f1 := HG1.out.frozen 1 1 (w.heap.size + 1) _ _ rfl rfl
    have r2 := HG1.out.cell 1 2 (w.heap.size + 1) _ _ _ rfl rfl rfl
    have f2 := HG1.out.frozen 1 2 (w.heap.size + 1) _ _ rfl rfl
    go_wp2_with fail
    refine bodyPost_ret (v := .tuple #[lg none none none 0 0 0 0 0 0, .slice none 0 0, .int .i64 2]) (by simp [results, Try.results11, go_sem, *]) rfl ⟨⟨_, _, _, _, rfl, ledN_none _ _, tapsV_nilO _, fresh_nilO _⟩, ?_⟩
    repeat (first | with_reducible refine Below.setCell ?_ (by simp; try omega) _ | exact HG1.out.2.2)
  · have hne : intoE T P V M ≠ 0 := by rw [h2]; simpa using h4
    obtain ⟨e1, e2, e3, e4⟩ := into_err hne
    rw [e1, e2, e3, e4, h2]
    clear hne e1 e2 e3 e4 h2
    have hlens := chkL_lens h1
    rw [h1] at HCk
    have h3' : ¬ (12 : Int) < (M.length : Int) := by omega
    have HOr := hide (fun W o c (h : TapsAt W o (P ++ M)) (hn : o = none → c = 0) => order_any o c (P ++ M) W h (by simp; omega) hn)
    have hsum : lenS [(o2, P, c2), (om, M, cm)] ≤ 100 := by simp [lenS]; omega
    have HCc := hide (fun (W : World) (h : PiecesP W ⟨W.heap.size - 1, 0, none⟩ [(o2, P, c2), (om, M, cm)]) => concatP_any _ _ 2 W h (by simp) hsum)
    have hfl : ([(o2, P, c2), (om, M, cm)] : List (Option Addr × List TP × Nat)).flatMap (fun x => x.2.1) = P ++ M := by simp
    rw [hfl] at HCc
    have HTap := hide HLed.out.parts3.2.1.eqs
    have HTik := hide HLed.out.parts3.1.eqs
    have HLn := hide hlens
    clear hled hM hl hlM h1 h3 hsum hfl hlens
    generalize ordE (P ++ M) = E at *
    generalize P ++ M = Q at *
    go_enter Try.func11, Try.ntmps11
    go_wp2_with fail
    refine (HCk.out _ (HLed.out.below HG.out.2.2)).mono ?_
    rintro e w1 ⟨rfl, hb⟩
    have HG1 := hide (HG.out.on hb)
    clear hb HG
    have l0 := HG1.out.cell 0 0 w.heap.size _ _ _ rfl rfl rfl
    have l1 := HG1.out.cell 0 1 w.heap.size _ _ _ rfl rfl rfl
    have l2 := HG1.out.cell 0 2 w.heap.size _ _ _ rfl rfl rfl
    have lr := HG1.out.lt 1 (w.heap.size + 1) (by simp) rfl
    have r0 := HG1.out.cell 1 0 (w.heap.size + 1) _ _ _ rfl rfl rfl
    have f0 := HG1.out.frozen 1 0 (w.heap.size + 1) _ _ rfl rfl
    have r1 := HG1.out.cell 1 1 (w.heap.size + 1) _ _ _ rfl rfl rfl
    have f1 := HG1.out.frozen 1 1 (w.heap.size + 1) _ _ rfl rfl
    have r2 := HG1.out.cell 1 2 (w.heap.size + 1) _ _ _ rfl rfl rfl
    have f2 := HG1.out.frozen 1 2 (w.heap.size + 1) _ _ rfl rfl
    go_wp2_with fail
    have HGp := hide ((Blks.nil w1).more (.cells #[.slice o2 P.length c2, .slice om M.length cm] 23) (by simp))
    have HG1p := hide (HG1.out.on HGp.out.2.2)
    have hpc : PiecesP (w1.alloc (.cells #[.slice o2 P.length c2, .slice om M.length cm] 23)) ⟨(w1.alloc (.cells #[.slice o2 P.length c2, .slice om M.length cm] 23)).heap.size - 1, 0, none⟩ [(o2, P, c2), (om, M, cm)] := by
      have hb := HG1p.out.2.2
      intro q o L cap hq
      match q, hq with
      | 0, hq =>
        simp at hq
        obtain ⟨rfl, rfl, rfl⟩ := hq
        exact ⟨by simp [Addr.add, go_sem], HTap.out.2.1.below hb, HTap.out.2.2.2⟩
      | 1, hq =>
        simp at hq
        obtain ⟨rfl, rfl, rfl⟩ := hq
        exact ⟨by simp [Addr.add, go_sem], HM.out.below hb, hnM⟩
    have HPc := hide (HCc.out _ hpc)
    have hz1 : (w1.alloc (.cells #[.slice o2 P.length c2, .slice om M.length cm] 23)).heap.size - 1 = w1.heap.size := by simp
    rw [hz1] at HPc
    clear hpc hz1 l0 l1 l2 lr r0 r1 r2 f0 f1 f2
    refine HPc.out.mono ?_
    rintro e w2 ⟨⟨cv, rfl, hcv, -⟩, hb⟩
    obtain ⟨oc, cc, rfl, hcv, -, hnc⟩ := hcv
    have HG2 := hide (HG1p.out.on hb)
    have HCv := hide hcv
    clear hb hcv HPc HGp HG1p HG1
    go_wp2_with fail
    refine (HOr.out _ oc cc HCv.out hnc).mono ?_
    rintro e w3 ⟨⟨oo, no, co, rfl, hov, hof⟩, hb⟩
    have HG3 := hide (HG2.out.on hb)
    have HOv := hide hov
    have HOf := hide hof
    have hsz2 := HG2.out.2.1
    simp only [List.length_append, List.length_cons, List.length_nil] at hsz2
    clear hb hov hof HG2 HCv hnc
    have l0 := HG3.out.cell 0 0 w.heap.size _ _ _ rfl rfl rfl
    have l1 := HG3.out.cell 0 1 w.heap.size _ _ _ rfl rfl rfl
    have l2 := HG3.out.cell 0 2 w.heap.size _ _ _ rfl rfl rfl
    have lr := HG3.out.lt 1 (w.heap.size + 1) (by simp) rfl
    have r0 := HG3.out.cell 1 0 (w.heap.size + 1) _ _ _ rfl rfl rfl
    have f0 := HG3.out.frozen 1 0 (w.heap.size + 1) _ _ rfl rfl
    have r1 := HG3.out.cell 1 1 (w.heap.size + 1) _ _ _ rfl rfl rfl
    have f1 := HG3.out.frozen 1 1 (w.heap.size + 1) _ _ rfl rfl
    have r2 := HG3.out.cell 1 2 (w.heap.size + 1) _ _ _ rfl rfl rfl
    have f2 := HG3.out.frozen 1 2 (w.heap.size + 1) _ _ rfl rfl
    go_wp2_with fail
    refine bodyPost_ret (v := .tuple #[lg none none none 0 0 0 0 0 0, .slice none 0 0, .int .i64 E]) (by simp [results, Try.results11, go_sem, *]) rfl ⟨⟨_, _, _, _, rfl, ledN_none _ _, tapsV_nilO _, fresh_nilO _⟩, ?_⟩
    repeat (first | with_reducible refine Below.setCell ?_ (by simp; try omega) _ | exact HG3.out.2.2)
  · have hne : intoE T P V M ≠ 0 := by rw [h2]; simpa using h5
    obtain ⟨e1, e2, e3, e4⟩ := into_err hne
    rw [e1, e2, e3, e4, h2]
    clear hne e1 e2 e3 e4 h2
    have hlens := chkL_lens h1
    rw [h1] at HCk
    have h3' : ¬ (12 : Int) < (M.length : Int) := by omega
    have HOr := hide (fun W o c (h : TapsAt W o (P ++ M)) (hn : o = none → c = 0) => order_any o c (P ++ M) W h (by simp; omega) hn)
    have hsum : lenS [(o2, P, c2), (om, M, cm)] ≤ 100 := by simp [lenS]; omega
    have HCc := hide (fun (W : World) (h : PiecesP W ⟨W.heap.size - 1, 0, none⟩ [(o2, P, c2), (om, M, cm)]) => concatP_any _ _ 2 W h (by simp) hsum)
    have hfl : ([(o2, P, c2), (om, M, cm)] : List (Option Addr × List TP × Nat)).flatMap (fun x => x.2.1) = P ++ M := by simp
    rw [hfl] at HCc
    have HTap := hide HLed.out.parts3.2.1.eqs
    have HTik := hide HLed.out.parts3.1.eqs
    have HLn := hide hlens
    clear hled hM hl hlM h1 h3 hsum hfl hlens
    have hS : ordR (P ++ M) = srt (P ++ M) := by simp [ordR, h4]
    rw [h4, hS] at HOr
    have hSl : (srt (P ++ M)).length ≤ 72 := by rw [srt_len]; exact (ordE_right h4).1
    have HEb := hide (fun (W : World) (B base : Nat) (h : Bld W B base (w.heap.size + 2) T [] [] []) (o : Option Addr) (cap : Nat) (hL : TapsAt W o (srt (P ++ M))) (hlt : ∀ A, o = some A → srt (P ++ M) ≠ [] → A.block < B) => eachB_any B base (w.heap.size + 2) T o cap (srt (P ++ M)) W h (by have := HLn.out; omega) hL hlt hSl)
    clear h4 hS hSl
    unfold intoB at *
    generalize bldA T (srt (P ++ M)) [] [] [] = R at *
    obtain ⟨E, P', V', D'⟩ := R
    dsimp only at *
    generalize srt (P ++ M) = S at *
    generalize P ++ M = Q at *
    go_enter Try.func11, Try.ntmps11
    go_wp2_with fail
    refine (HCk.out _ (HLed.out.below HG.out.2.2)).mono ?_
    rintro e w1 ⟨rfl, hb⟩
    have HG1 := hide (HG.out.on hb)
    clear hb HG
    have l0 := HG1.out.cell 0 0 w.heap.size _ _ _ rfl rfl rfl
    have l1 := HG1.out.cell 0 1 w.heap.size _ _ _ rfl rfl rfl
    have l2 := HG1.out.cell 0 2 w.heap.size _ _ _ rfl rfl rfl
    have lr := HG1.out.lt 1 (w.heap.size + 1) (by simp) rfl
    have r0 := HG1.out.cell 1 0 (w.heap.size + 1) _ _ _ rfl rfl rfl
    have f0 := HG1.out.frozen 1 0 (w.heap.size + 1) _ _ rfl rfl
    have r1 := HG1.out.cell 1 1 (w.heap.size + 1) _ _ _ rfl rfl rfl
    have f1 := HG1.out.frozen 1 1 (w.heap.size + 1) _ _ rfl rfl
    have r2 := HG1.out.cell 1 2 (w.heap.size + 1) _ _ _ rfl rfl rfl
    have f2 := HG1.out.frozen 1 2 (w.heap.size + 1) _ _ rfl rfl
    go_wp2_with fail
    have HGp := hide ((Blks.nil w1).more (.cells #[.slice o2 P.length c2, .slice om M.length cm] 23) (by simp))
    have HG1p := hide (HG1.out.on HGp.out.2.2)
    have hpc : PiecesP (w1.alloc (.cells #[.slice o2 P.length c2, .slice om M.length cm] 23)) ⟨(w1.alloc (.cells #[.slice o2 P.length c2, .slice om M.length cm] 23)).heap.size - 1, 0, none⟩ [(o2, P, c2), (om, M, cm)] := by
      have hb := HG1p.out.2.2
      intro q o L cap hq
      match q, hq with
      | 0, hq =>
        simp at hq
        obtain ⟨rfl, rfl, rfl⟩ := hq
        exact ⟨by simp [Addr.add, go_sem], HTap.out.2.1.below hb, HTap.out.2.2.2⟩
      | 1, hq =>
        simp at hq
        obtain ⟨rfl, rfl, rfl⟩ := hq
        exact ⟨by simp [Addr.add, go_sem], HM.out.below hb, hnM⟩
    have HPc := hide (HCc.out _ hpc)
    have hz1 : (w1.alloc (.cells #[.slice o2 P.length c2, .slice om M.length cm] 23)).heap.size - 1 = w1.heap.size := by simp
    rw [hz1] at HPc
    clear hpc hz1 l0 l1 l2 lr r0 r1 r2 f0 f1 f2
    refine HPc.out.mono ?_
    rintro e w2 ⟨⟨cv, rfl, hcv, -⟩, hb⟩
    obtain ⟨oc, cc, rfl, hcv, -, hnc⟩ := hcv
    have HG2 := hide (HG1p.out.on hb)
    have HCv := hide hcv
    clear hb hcv HPc HGp HG1p HG1
    go_wp2_with fail
    refine (HOr.out _ oc cc HCv.out hnc).mono ?_
    rintro e w3 ⟨⟨oo, no, co, rfl, hov, hof⟩, hb⟩
    have HG3 := hide (HG2.out.on hb)
    obtain ⟨rfl, hoa, -, -⟩ := hov.eqs
    have HOa := hide hoa
    have HOl := hide (taps_lt hoa)
    have hsz2 := HG2.out.2.1
    simp only [List.length_append, List.length_cons, List.length_nil] at hsz2
    clear hb hov hof hoa HG2 HCv hnc
    have l0 := HG3.out.cell 0 0 w.heap.size _ _ _ rfl rfl rfl
    have l1 := HG3.out.cell 0 1 w.heap.size _ _ _ rfl rfl rfl
    have l2 := HG3.out.cell 0 2 w.heap.size _ _ _ rfl rfl rfl
    have lr := HG3.out.lt 1 (w.heap.size + 1) (by simp) rfl
    have r0 := HG3.out.cell 1 0 (w.heap.size + 1) _ _ _ rfl rfl rfl
    have f0 := HG3.out.frozen 1 0 (w.heap.size + 1) _ _ rfl rfl
    have r1 := HG3.out.cell 1 1 (w.heap.size + 1) _ _ _ rfl rfl rfl
    have f1 := HG3.out.frozen 1 1 (w.heap.size + 1) _ _ rfl rfl
    have r2 := HG3.out.cell 1 2 (w.heap.size + 1) _ _ _ rfl rfl rfl
    have f2 := HG3.out.frozen 1 2 (w.heap.size + 1) _ _ rfl rfl
    have hsz3 := HG3.out.2.1
    simp only [List.length_append, List.length_cons, List.length_nil] at hsz3
    go_wp2_with fail
    refine (cloneK_any T o1 c1 _ (HTik.out.2.1.below HG3.out.2.2) (by have := HLn.out; omega)).mono ?_
    rintro e w4 ⟨⟨ct, rfl, hct, hcf⟩, hb⟩
    obtain ⟨ok, ck, rfl, hct1, hct2, hct3⟩ := hct
    have HK4 := hide (show TiksV w4 (.slice ok T.length ck) T from ⟨ok, ck, rfl, hct1, hct2, hct3⟩)
    have HKf := hide (hcf.monoB (C := w.heap.size + 2) (by omega))
    have HO4 := hide (HOa.out.below hb)
    have HOl4 := hide (fun A h1 h2 => Nat.lt_of_lt_of_le (HOl.out A h1 h2) hb.size)
    have HG4 := hide (HG3.out.on hb)
    clear hb hcf hct1 hct2 hct3 HOa HOl HG3 l0 l1 l2 lr r0 r1 r2 f0 f1 f2 hsz3 hsz2
    have lr := HG4.out.lt 1 (w.heap.size + 1) (by simp) rfl
    go_wp2_with fail
    have hal := (Below.refl w4.heap.size w4).alloc (Nat.le_refl _) (.cells #[.slice ok T.length ck, .slice none 0 0, .slice none 0 0, .slice none 0 0] 65)
    have hs5 : (w4.alloc (.cells #[.slice ok T.length ck, .slice none 0 0, .slice none 0 0, .slice none 0 0] 65)).heap.size = w4.heap.size + 1 := by simp
    have hB4 : Bld (w4.alloc (.cells #[.slice ok T.length ck, .slice none 0 0, .slice none 0 0, .slice none 0 0] 65)) w4.heap.size (w4.heap.size + 1) (w.heap.size + 2) T [] [] [] :=
      ⟨ok, ck, none, 0, none, 0, none, 0, heap_alloc_new _ _, LedV.of (HK4.out.below hal) (tapsV_nilO _) (intsV_nil _), World.ownsRow_nil _ _ _ _, by omega, by omega, fun g hg => by simp [Value.ownBlock] at hg, ⟨HKf.out, fresh_nilO _, fresh_nilO _⟩, by omega⟩
    have HP5 := hide (HEb.out _ _ _ hB4 oo co (HO4.out.below hal) HOl4.out)
    clear hB4
    refine HP5.out.mono ?_
    rintro e w5 ⟨⟨rfl, hbl⟩, hb⟩
    have HG5 := hide (HG4.out.on (hal.trans hb))
    have HBl := hide hbl
    have hz5 := hb.size
    rw [hs5] at hz5
    clear hb hbl hal hs5 HP5 HG4 HK4 HKf HO4 HOl4
    have lr5 := HG5.out.lt 1 (w.heap.size + 1) (by simp) rfl
    have r0 := HG5.out.cell 1 0 (w.heap.size + 1) _ _ _ rfl rfl rfl
    have f0 := HG5.out.frozen 1 0 (w.heap.size + 1) _ _ rfl rfl
    have r1 := HG5.out.cell 1 1 (w.heap.size + 1) _ _ _ rfl rfl rfl
    have f1 := HG5.out.frozen 1 1 (w.heap.size + 1) _ _ rfl rfl
    have r2 := HG5.out.cell 1 2 (w.heap.size + 1) _ _ _ rfl rfl rfl
    have f2 := HG5.out.frozen 1 2 (w.heap.size + 1) _ _ rfl rfl
    go_wp2_with fail
    refine bodyPost_ret (v := .tuple #[lg none none none 0 0 0 0 0 0, .slice none 0 0, .int .i64 E]) (by simp [results, Try.results11, go_sem, *]) rfl ⟨⟨_, _, _, _, rfl, ledN_none _ _, tapsV_nilO _, fresh_nilO _⟩, ?_⟩
    repeat (first | with_reducible refine Below.setCell ?_ (by simp; try omega) _ | exact HG5.out.2.2)
  · have e1 : intoT T P V M = T := by simp [intoT, h2]
    have e2 : intoP T P V M = (intoB T P M).2.1 := by simp [intoP, h2]
    have e3 : intoV T P V M = (intoB T P M).2.2.1 := by simp [intoV, h2]
    have e4 : intoD T P V M = (intoB T P M).2.2.2 := by simp [intoD, h2]
    rw [e1, e2, e3, e4, h2]
    clear e1 e2 e3 e4 h2
    have hlens := chkL_lens h1
    rw [h1] at HCk
    have h3' : ¬ (12 : Int) < (M.length : Int) := by omega
    have HOr := hide (fun W o c (h : TapsAt W o (P ++ M)) (hn : o = none → c = 0) => order_any o c (P ++ M) W h (by simp; omega) hn)
    have hsum : lenS [(o2, P, c2), (om, M, cm)] ≤ 100 := by simp [lenS]; omega
    have HCc := hide (fun (W : World) (h : PiecesP W ⟨W.heap.size - 1, 0, none⟩ [(o2, P, c2), (om, M, cm)]) => concatP_any _ _ 2 W h (by simp) hsum)
    have hfl : ([(o2, P, c2), (om, M, cm)] : List (Option Addr × List TP × Nat)).flatMap (fun x => x.2.1) = P ++ M := by simp
    rw [hfl] at HCc
    have HTap := hide HLed.out.parts3.2.1.eqs
    have HTik := hide HLed.out.parts3.1.eqs
    have HLn := hide hlens
    clear hled hM hl hlM h1 h3 hsum hfl hlens
    have hS : ordR (P ++ M) = srt (P ++ M) := by simp [ordR, h4]
    rw [h4, hS] at HOr
    have hSl : (srt (P ++ M)).length ≤ 72 := by rw [srt_len]; exact (ordE_right h4).1
    have HEb := hide (fun (W : World) (B base : Nat) (h : Bld W B base (w.heap.size + 2) T [] [] []) (o : Option Addr) (cap : Nat) (hL : TapsAt W o (srt (P ++ M))) (hlt : ∀ A, o = some A → srt (P ++ M) ≠ [] → A.block < B) => eachB_any B base (w.heap.size + 2) T o cap (srt (P ++ M)) W h (by have := HLn.out; omega) hL hlt hSl)
    clear h4 hS hSl
    unfold intoB at *
    generalize bldA T (srt (P ++ M)) [] [] [] = R at *
    obtain ⟨E, P', V', D'⟩ := R
    dsimp only at *
    generalize srt (P ++ M) = S at *
    generalize P ++ M = Q at *
    subst h5
    go_enter Try.func11, Try.ntmps11
    go_wp2_with fail
    refine (HCk.out _ (HLed.out.below HG.out.2.2)).mono ?_
    rintro e w1 ⟨rfl, hb⟩
    have HG1 := hide (HG.out.on hb)
    clear hb HG
    have l0 := HG1.out.cell 0 0 w.heap.size _ _ _ rfl rfl rfl
    have l1 := HG1.out.cell 0 1 w.heap.size _ _ _ rfl rfl rfl
    have l2 := HG1.out.cell 0 2 w.heap.size _ _ _ rfl rfl rfl
    have lr := HG1.out.lt 1 (w.heap.size + 1) (by simp) rfl
    have r0 := HG1.out.cell 1 0 (w.heap.size + 1) _ _ _ rfl rfl rfl
    have f0 := HG1.out.frozen 1 0 (w.heap.size + 1) _ _ rfl rfl
    have r1 := HG1.out.cell 1 1 (w.heap.size + 1) _ _ _ rfl rfl rfl
    have f1 := HG1.out.frozen 1 1 (w.heap.size + 1) _ _ rfl rfl
    have r2 := HG1.out.cell 1 2 (w.heap.size + 1) _ _ _ rfl rfl rfl
    have f2 := HG1.out.frozen 1 2 (w.heap.size + 1) _ _ rfl rfl
    go_wp2_with fail
    have HGp := hide ((Blks.nil w1).more (.cells #[.slice o2 P.length c2, .slice om M.length cm] 23) (by simp))
    have HG1p := hide (HG1.out.on HGp.out.2.2)
    have hpc : PiecesP (w1.alloc (.cells #[.slice o2 P.length c2, .slice om M.length cm] 23)) ⟨(w1.alloc (.cells #[.slice o2 P.length c2, .slice om M.length cm] 23)).heap.size - 1, 0, none⟩ [(o2, P, c2), (om, M, cm)] := by
      have hb := HG1p.out.2.2
      intro q o L cap hq
      match q, hq with
      | 0, hq =>
        simp at hq
        obtain ⟨rfl, rfl, rfl⟩ := hq
        exact ⟨by simp [Addr.add, go_sem], HTap.out.2.1.below hb, HTap.out.2.2.2⟩
      | 1, hq =>
        simp at hq
        obtain ⟨rfl, rfl, rfl⟩ := hq
        exact ⟨by simp [Addr.add, go_sem], HM.out.below hb, hnM⟩
    have HPc := hide (HCc.out _ hpc)
    have hz1 : (w1.alloc (.cells #[.slice o2 P.length c2, .slice om M.length cm] 23)).heap.size - 1 = w1.heap.size := by simp
    rw [hz1] at HPc
    clear hpc hz1 l0 l1 l2 lr r0 r1 r2 f0 f1 f2
    refine HPc.out.mono ?_
    rintro e w2 ⟨⟨cv, rfl, hcv, -⟩, hb⟩
    obtain ⟨oc, cc, rfl, hcv, -, hnc⟩ := hcv
    have HG2 := hide (HG1p.out.on hb)
    have HCv := hide hcv
    clear hb hcv HPc HGp HG1p HG1
    go_wp2_with fail
    refine (HOr.out _ oc cc HCv.out hnc).mono ?_
    rintro e w3 ⟨⟨oo, no, co, rfl, hov, hof⟩, hb⟩
    have HG3 := hide (HG2.out.on hb)
    obtain ⟨rfl, hoa, -, -⟩ := hov.eqs
    have HOa := hide hoa
    have HOl := hide (taps_lt hoa)
    have hsz2 := HG2.out.2.1
    simp only [List.length_append, List.length_cons, List.length_nil] at hsz2
    clear hb hov hof hoa HG2 HCv hnc
    have l0 := HG3.out.cell 0 0 w.heap.size _ _ _ rfl rfl rfl
    have l1 := HG3.out.cell 0 1 w.heap.size _ _ _ rfl rfl rfl
    have l2 := HG3.out.cell 0 2 w.heap.size _ _ _ rfl rfl rfl
    have lr := HG3.out.lt 1 (w.heap.size + 1) (by simp) rfl
    have r0 := HG3.out.cell 1 0 (w.heap.size + 1) _ _ _ rfl rfl rfl
    have f0 := HG3.out.frozen 1 0 (w.heap.size + 1) _ _ rfl rfl
    have r1 := HG3.out.cell 1 1 (w.heap.size + 1) _ _ _ rfl rfl rfl
    have f1 := HG3.out.frozen 1 1 (w.heap.size + 1) _ _ rfl rfl
    have r2 := HG3.out.cell 1 2 (w.heap.size + 1) _ _ _ rfl rfl rfl
    have f2 := HG3.out.frozen 1 2 (w.heap.size + 1) _ _ rfl rfl
    have hsz3 := HG3.out.2.1
    simp only [List.length_append, List.length_cons, List.length_nil] at hsz3
    go_wp2_with fail
    refine (cloneK_any T o1 c1 _ (HTik.out.2.1.below HG3.out.2.2) (by have := HLn.out; omega)).mono ?_
    rintro e w4 ⟨⟨ct, rfl, hct, hcf⟩, hb⟩
    obtain ⟨ok, ck, rfl, hct1, hct2, hct3⟩ := hct
    have HK4 := hide (show TiksV w4 (.slice ok T.length ck) T from ⟨ok, ck, rfl, hct1, hct2, hct3⟩)
    have HKf := hide (hcf.monoB (C := w.heap.size + 2) (by omega))
    have HO4 := hide (HOa.out.below hb)
    have HOl4 := hide (fun A h1 h2 => Nat.lt_of_lt_of_le (HOl.out A h1 h2) hb.size)
    have HG4 := hide (HG3.out.on hb)
    clear hb hcf hct1 hct2 hct3 HOa HOl HG3 l0 l1 l2 lr r0 r1 r2 f0 f1 f2 hsz3 hsz2
    have lr := HG4.out.lt 1 (w.heap.size + 1) (by simp) rfl
    go_wp2_with fail
    have hal := (Below.refl w4.heap.size w4).alloc (Nat.le_refl _) (.cells #[.slice ok T.length ck, .slice none 0 0, .slice none 0 0, .slice none 0 0] 65)
    have hs5 : (w4.alloc (.cells #[.slice ok T.length ck, .slice none 0 0, .slice none 0 0, .slice none 0 0] 65)).heap.size = w4.heap.size + 1 := by simp
    have hB4 : Bld (w4.alloc (.cells #[.slice ok T.length ck, .slice none 0 0, .slice none 0 0, .slice none 0 0] 65)) w4.heap.size (w4.heap.size + 1) (w.heap.size + 2) T [] [] [] :=
      ⟨ok, ck, none, 0, none, 0, none, 0, heap_alloc_new _ _, LedV.of (HK4.out.below hal) (tapsV_nilO _) (intsV_nil _), World.ownsRow_nil _ _ _ _, by omega, by omega, fun g hg => by simp [Value.ownBlock] at hg, ⟨HKf.out, fresh_nilO _, fresh_nilO _⟩, by omega⟩
    have HP5 := hide (HEb.out _ _ _ hB4 oo co (HO4.out.below hal) HOl4.out)
    clear hB4
    refine HP5.out.mono ?_
    rintro e w5 ⟨⟨rfl, hbl⟩, hb⟩
    have HG5 := hide (HG4.out.on (hal.trans hb))
    have HBl := hide hbl
    have hz5 := hb.size
    rw [hs5] at hz5
    clear hb hbl hal hs5 HP5 HG4 HK4 HKf HO4 HOl4
    have lr5 := HG5.out.lt 1 (w.heap.size + 1) (by simp) rfl
    have r0 := HG5.out.cell 1 0 (w.heap.size + 1) _ _ _ rfl rfl rfl
    have f0 := HG5.out.frozen 1 0 (w.heap.size + 1) _ _ rfl rfl
    have r1 := HG5.out.cell 1 1 (w.heap.size + 1) _ _ _ rfl rfl rfl
    have f1 := HG5.out.frozen 1 1 (w.heap.size + 1) _ _ rfl rfl
    have r2 := HG5.out.cell 1 2 (w.heap.size + 1) _ _ _ rfl rfl rfl
    have f2 := HG5.out.frozen 1 2 (w.heap.size + 1) _ _ rfl rfl
    obtain ⟨p1, q1, p2, q2, p3, q3, p4, q4, hrow, hled5, hown, -, -, -, ⟨fr1, fr2, fr3⟩, -⟩ := HBl.out
    have b0 := cell_of_row _ _ 0 _ _ _ hrow
    have b1 := cell_of_row _ _ 1 _ _ _ hrow
    have b2 := cell_of_row _ _ 2 _ _ _ hrow
    have b3 := cell_of_row _ _ 3 _ _ _ hrow
    have HLd := hide (hled5.parts3)
    have HTd := hide (tapsV_own hown)
    have HTf : Hid (Fresh (w.heap.size + 2) (.slice p4 D'.length q4)) := hide (fun g hg => Nat.le_trans (by omega) (ownsRow_block hown g hg).1)
    have HFr := hide (And.intro fr1 (And.intro fr2 fr3))
    clear hrow hled5 hown fr1 fr2 fr3
    have hne5 : ¬ w4.heap.size = w.heap.size + 1 := by omega
    have hne5' : ¬ w.heap.size + 1 = w4.heap.size := by omega
    go_wp2_with fail
    go_region
    all_goals go_wp2_with fail
    all_goals refine bodyPost_ret (v := .tuple #[lg p1 p2 p3 T.length q1 P'.length q2 V'.length q3, .slice p4 D'.length q4, .int .i64 0]) (by simp [results, Try.results11, go_sem, *]) rfl ⟨⟨_, _, _, _, rfl, ⟨_, _, _, rfl, ⟨?_, HFr.out.1.mono (by omega)⟩, ⟨?_, HFr.out.2.1.mono (by omega)⟩, ⟨?_, HFr.out.2.2.mono (by omega)⟩⟩, ?_, HTf.out.mono (by omega)⟩, ?_⟩
    · repeat (first | exact HLd.out.1 | with_reducible refine TiksV.below ?_ (Below.refl _ _).drew | with_reducible refine TiksV.set ?_ HFr.out.1 (by simp) _)
    · repeat (first | exact HLd.out.2.1 | with_reducible refine TapsV.below ?_ (Below.refl _ _).drew | with_reducible refine TapsV.set ?_ HFr.out.2.1 (by simp) _)
    · repeat (first | exact HLd.out.2.2 | with_reducible refine IntsV.below ?_ (Below.refl _ _).drew | with_reducible refine IntsV.set ?_ HFr.out.2.2 (by simp) _)
    · repeat (first | exact HTd.out | with_reducible refine TapsV.below ?_ (Below.refl _ _).drew | with_reducible refine TapsV.set ?_ HTf.out (by simp) _)
    · repeat (first | with_reducible refine Below.setCell ?_ (by simp; try omega) _ | with_reducible refine Below.drew ?_ | exact HG5.out.2.2)
end Go.Proofs.Ytefdnddaggpgkaa
