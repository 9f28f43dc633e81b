/-
  Texts joined: F11, Z15, Z20, Z21, Z22, Z23, M2, M4, F15, F16, H5, F19, R7, U1, F20, Z24, J10, Z26, Z29, J9, Q1, N9, W3, J12.
-/
import Derived.Deep.CutRange
import Derived.Lib.QuietBelow
import Derived.Test.YtcjfmbeemdcklaaGreatPk5
/-
  'Into' (package merge).
-/
namespace Go.Proofs.YtcjfmbeemdcklaaGreat

open Go.RowKit

/-- what Into says, and gives -/
def intoB (T : List TK) (P M : List TP) : Int × List TP × List Int × List TP := bldA T (srt (P ++ M)) [] [] []

def intoE (T : List TK) (P : List TP) (V : List Int) (M : List TP) : Int :=
  if chkL T P V = 0 then (if 12 < M.length then 2 else if ordE (P ++ M) = 0 then (intoB T P M).1 else ordE (P ++ M)) else chkL T P V

def intoT (T : List TK) (P : List TP) (V : List Int) (M : List TP) : List TK := if intoE T P V M = 0 then T else []

def intoP (T : List TK) (P : List TP) (V : List Int) (M : List TP) : List TP := if intoE T P V M = 0 then (intoB T P M).2.1 else []

def intoV (T : List TK) (P : List TP) (V : List Int) (M : List TP) : List Int := if intoE T P V M = 0 then (intoB T P M).2.2.1 else []

def intoD (T : List TK) (P : List TP) (V : List Int) (M : List TP) : List TP := if intoE T P V M = 0 then (intoB T P M).2.2.2 else []

theorem into_ways (T : List TK) (P : List TP) (V : List Int) (M : List TP) : ((chkL T P V != 0) = true ∧ intoE T P V M = chkL T P V) ∨ (chkL T P V = 0 ∧ 12 < M.length ∧ intoE T P V M = 2) ∨ (chkL T P V = 0 ∧ M.length ≤ 12 ∧ (ordE (P ++ M) != 0) = true ∧ intoE T P V M = ordE (P ++ M)) ∨
    (chkL T P V = 0 ∧ M.length ≤ 12 ∧ ordE (P ++ M) = 0 ∧ ((intoB T P M).1 != 0) = true ∧ intoE T P V M = (intoB T P M).1) ∨ (chkL T P V = 0 ∧ M.length ≤ 12 ∧ ordE (P ++ M) = 0 ∧ (intoB T P M).1 = 0 ∧ intoE T P V M = 0) := by
  unfold intoE
  by_cases h1 : chkL T P V = 0
  · right
    rw [if_pos h1]
    by_cases h2 : 12 < M.length
    · left; exact ⟨h1, h2, if_pos h2⟩
    · right
      rw [if_neg h2]
      by_cases h3 : ordE (P ++ M) = 0
      · right
        rw [if_pos h3]
        by_cases h4 : (intoB T P M).1 = 0
        · right; exact ⟨h1, by omega, h3, h4, h4⟩
        · left; exact ⟨h1, by omega, h3, by simpa using h4, rfl⟩
      · left; rw [if_neg h3]; exact ⟨h1, by omega, by simpa using h3, rfl⟩
  · left; rw [if_neg h1]; exact ⟨by simpa using h1, rfl⟩

theorem into_err {T : List TK} {P : List TP} {V : List Int} {M : List TP} (h : intoE T P V M ≠ 0) : intoT T P V M = [] ∧ intoP T P V M = [] ∧ intoV T P V M = [] ∧ intoD T P V M = [] := by
  simp [intoT, intoP, intoV, intoD, h]

theorem chkL_lens {T : List TK} {P : List TP} {V : List Int} (h : chkL T P V = 0) : T.length ≤ 12 ∧ P.length ≤ 60 ∧ V.length = P.length := by
  have := chkL_right h
  exact ⟨by omega, by omega, by omega⟩

theorem taps_lt {w : World} {o : Option Addr} {L : List TP} (h : TapsAt w o L) (A : Addr) (hA : o = some A) (hne : L ≠ []) : A.block < w.heap.size := by
  cases L with
  | nil => exact absurd rfl hne
  | cons p L =>
    obtain ⟨b, hb, c0, -⟩ := h 0 p rfl
    rw [hA] at hb
    cases hb
    have := World.block_lt_of_cell? w _ c0
    rwa [addr_blk] at this

set_option maxHeartbeats 6400000 in
set_option maxRecDepth 100000 in
theorem into_any (T : List TK) (P : List TP) (V : List Int) (M : List TP) (o1 o2 o3 om : Option Addr) (c1 c2 c3 cm : Nat) (w : World) (hled : LedV w (lg o1 o2 o3 T.length c1 P.length c2 V.length c3) T P V) (hl : LensOk T P V) (hM : TapsAt w om M) (hlM : M.length ≤ 9223372036854775807) (hnM : om = none → cm = 0) :
    Calls Tryz.prog 69 #[lg o1 o2 o3 T.length c1 P.length c2 V.length c3, .slice om M.length cm] w fun e w' =>
      (∃ lv od nd cd, e = .returned (.tuple #[lv, .slice od nd cd, .int .i64 (intoE T P V M)]) ∧ LedN w.heap.size w' lv (intoT T P V M) (intoP T P V M) (intoV T P V M) ∧ TapsV w' (.slice od nd cd) (intoD T P V M) ∧ Fresh w.heap.size (.slice od nd cd)) ∧ Below w.heap.size w w' := by
  have HG := hide (((Blks.nil w).more (.cells #[.slice o1 T.length c1, .slice o2 P.length c2, .slice o3 V.length c3] 26) (by simp)).more (.cells #[.slice none 0 0, .slice none 0 0, .slice none 0 0] 26) (by simp))
  have HCk := hide (fun W (h : LedV W (lg o1 o2 o3 T.length c1 P.length c2 V.length c3) T P V) => checkV h hl)
  have HLed := hide hled
  have HM := hide hM
  rcases into_ways T P V M with ⟨h1, h2⟩ | ⟨h1, h3, h2⟩ | ⟨h1, h3, h4, h2⟩ | ⟨h1, h3, h4, h5, h2⟩ | ⟨h1, h3, h4, h5, h2⟩
  · have hne : intoE T P V M ≠ 0 := by rw [h2]; simpa using h1
    obtain ⟨e1, e2, e3, e4⟩ := into_err hne
    rw [e1, e2, e3, e4, h2]
    clear hled hM hne e1 e2 e3 e4 h2
    generalize chkL T P V = E at *
    go_enter Tryz.func69, Tryz.ntmps69
    go_wp2_with fail
    refine (HCk.out _ (HLed.out.below HG.out.2.2)).mono ?_
    rintro e w1 ⟨rfl, hb⟩
    have HG1 := hide (HG.out.on hb)
    clear hb HG
    have lr := HG1.out.lt 1 (w.heap.size + 1) (by simp) rfl
    have r0 := HG1.out.cell 1 0 (w.heap.size + 1) _ _ _ rfl rfl rfl
    have f0 := HG1.out.frozen 1 0 (w.heap.size + 1) _ _ rfl rfl
    have r1 := HG1.out.cell 1 1 (w.heap.size + 1) _ _ _ rfl rfl rfl
    have f1 := HG1.out.frozen 1 1 (w.heap.size + 1) _ _ rfl rfl
    have r2 := HG1.out.cell 1 2 (w.heap.size + 1) _ _ _ rfl rfl rfl
    have f2 := HG1.out.frozen 1 2 (w.heap.size + 1) _ _ rfl rfl
    go_wp2_with fail
    refine bodyPost_ret (v := .tuple #[lg none none none 0 0 0 0 0 0, .slice none 0 0, .int .i64 E]) (by simp [results, Tryz.results69, go_sem, *]) rfl ⟨⟨_, _, _, _, rfl, ledN_none _ _, tapsV_nilO _, fresh_nilO _⟩, ?_⟩
    repeat (first | with_reducible refine Below.setCell ?_ (by simp; try omega) _ | exact HG1.out.2.2)
  · have hne : intoE T P V M ≠ 0 := by rw [h2]; decide
    obtain ⟨e1, e2, e3, e4⟩ := into_err hne
    rw [e1, e2, e3, e4, h2]
    rw [h1] at HCk
    have h3' : (12 : Int) < (M.length : Int) := by omega
    clear hled hM hne e1 e2 e3 e4 h2 h1 h3
    go_enter Tryz.func69, Tryz.ntmps69
    go_wp2_with fail
    refine (HCk.out _ (HLed.out.below HG.out.2.2)).mono ?_
    rintro e w1 ⟨rfl, hb⟩
    have HG1 := hide (HG.out.on hb)
    clear hb HG
    have lr := HG1.out.lt 1 (w.heap.size + 1) (by simp) rfl
    have r0 := HG1.out.cell 1 0 (w.heap.size + 1) _ _ _ rfl rfl rfl
    have f0 := HG1.out.frozen 1 0 (w.heap.size + 1) _ _ rfl rfl
    have r1 := HG1.out.cell 1 1 (w.heap.size + 1) _ _ _ rfl rfl rfl
    have f1 := HG1.out.frozen 1 1 (w.heap.size + 1) _ _ rfl rfl
    have r2 := HG1.out.cell 1 2 (w.heap.size + 1) _ _ _ rfl rfl rfl
    have f2 := HG1.out.frozen 1 2 (w.heap.size + 1) _ _ rfl rfl
    go_wp2_with fail
    refine bodyPost_ret (v := .tuple #[lg none none none 0 0 0 0 0 0, .slice none 0 0, .int .i64 2]) (by simp [results, Tryz.results69, go_sem, *]) rfl ⟨⟨_, _, _, _, rfl, ledN_none _ _, tapsV_nilO _, fresh_nilO _⟩, ?_⟩
    repeat (first | with_reducible refine Below.setCell ?_ (by simp; try omega) _ | exact HG1.out.2.2)
  · have hne : intoE T P V M ≠ 0 := by rw [h2]; simpa using h4
    obtain ⟨e1, e2, e3, e4⟩ := into_err hne
    rw [e1, e2, e3, e4, h2]
    clear hne e1 e2 e3 e4 h2
    have hlens := chkL_lens h1
    rw [h1] at HCk
    have h3' : ¬ (12 : Int) < (M.length : Int) := by omega
    have HOr := hide (fun W o c (h : TapsAt W o (P ++ M)) (hn : o = none → c = 0) => order_any o c (P ++ M) W h (by simp; omega) hn)
    have hsum : lenS [(o2, P, c2), (om, M, cm)] ≤ 100 := by simp [lenS]; omega
    have HCc := hide (fun (W : World) (h : PiecesP W ⟨W.heap.size - 1, 0, none⟩ [(o2, P, c2), (om, M, cm)]) => concatP_any _ _ 2 W h (by simp) hsum)
    have hfl : ([(o2, P, c2), (om, M, cm)] : List (Option Addr × List TP × Nat)).flatMap (fun x => x.2.1) = P ++ M := by simp
    rw [hfl] at HCc
    have HTap := hide HLed.out.parts3.2.1.eqs
    have HTik := hide HLed.out.parts3.1.eqs
    have HLn := hide hlens
    clear hled hM hl hlM h1 h3 hsum hfl hlens
    generalize ordE (P ++ M) = E at *
    generalize P ++ M = Q at *
    go_enter Tryz.func69, Tryz.ntmps69
    go_wp2_with fail
    refine (HCk.out _ (HLed.out.below HG.out.2.2)).mono ?_
    rintro e w1 ⟨rfl, hb⟩
    have HG1 := hide (HG.out.on hb)
    clear hb HG
    have l0 := HG1.out.cell 0 0 w.heap.size _ _ _ rfl rfl rfl
    have l1 := HG1.out.cell 0 1 w.heap.size _ _ _ rfl rfl rfl
    have l2 := HG1.out.cell 0 2 w.heap.size _ _ _ rfl rfl rfl
    have lr := HG1.out.lt 1 (w.heap.size + 1) (by simp) rfl
    have r0 := HG1.out.cell 1 0 (w.heap.size + 1) _ _ _ rfl rfl rfl
    have f0 := HG1.out.frozen 1 0 (w.heap.size + 1) _ _ rfl rfl
    have r1 := HG1.out.cell 1 1 (w.heap.size + 1) _ _ _ rfl rfl rfl
    have f1 := HG1.out.frozen 1 1 (w.heap.size + 1) _ _ rfl rfl
    have r2 := HG1.out.cell 1 2 (w.heap.size + 1) _ _ _ rfl rfl rfl
    have f2 := HG1.out.frozen 1 2 (w.heap.size + 1) _ _ rfl rfl
    go_wp2_with fail
    have HGp := hide ((Blks.nil w1).more (.cells #[.slice o2 P.length c2, .slice om M.length cm] 23) (by simp))
    have HG1p := hide (HG1.out.on HGp.out.2.2)
    have hpc : PiecesP (w1.alloc (.cells #[.slice o2 P.length c2, .slice om M.length cm] 23)) ⟨(w1.alloc (.cells #[.slice o2 P.length c2, .slice om M.length cm] 23)).heap.size - 1, 0, none⟩ [(o2, P, c2), (om, M, cm)] := by
      have hb := HG1p.out.2.2
      intro q o L cap hq
      match q, hq with
      | 0, hq =>
        simp at hq
        obtain ⟨rfl, rfl, rfl⟩ := hq
        exact ⟨by simp [Addr.add, go_sem], HTap.out.2.1.below hb, HTap.out.2.2.2⟩
      | 1, hq =>
        simp at hq
        obtain ⟨rfl, rfl, rfl⟩ := hq
        exact ⟨by simp [Addr.add, go_sem], HM.out.below hb, hnM⟩
    have HPc := hide (HCc.out _ hpc)
    have hz1 : (w1.alloc (.cells #[.slice o2 P.length c2, .slice om M.length cm] 23)).heap.size - 1 = w1.heap.size := by simp
    rw [hz1] at HPc
    clear hpc hz1 l0 l1 l2 lr r0 r1 r2 f0 f1 f2
    refine HPc.out.mono ?_
    rintro e w2 ⟨⟨cv, rfl, hcv, -⟩, hb⟩
    obtain ⟨oc, cc, rfl, hcv, -, hnc⟩ := hcv
    have HG2 := hide (HG1p.out.on hb)
    have HCv := hide hcv
    clear hb hcv HPc HGp HG1p HG1
    go_wp2_with fail
    refine (HOr.out _ oc cc HCv.out hnc).mono ?_
    rintro e w3 ⟨⟨oo, no, co, rfl, hov, hof⟩, hb⟩
    have HG3 := hide (HG2.out.on hb)
    have HOv := hide hov
    have HOf := hide hof
    have hsz2 := HG2.out.2.1
    simp only [List.length_append, List.length_cons, List.length_nil] at hsz2
    clear hb hov hof HG2 HCv hnc
    have l0 := HG3.out.cell 0 0 w.heap.size _ _ _ rfl rfl rfl
    have l1 := HG3.out.cell 0 1 w.heap.size _ _ _ rfl rfl rfl
    have l2 := HG3.out.cell 0 2 w.heap.size _ _ _ rfl rfl rfl
    have lr := HG3.out.lt 1 (w.heap.size + 1) (by simp) rfl
    have r0 := HG3.out.cell 1 0 (w.heap.size + 1) _ _ _ rfl rfl rfl
    have f0 := HG3.out.frozen 1 0 (w.heap.size + 1) _ _ rfl rfl
    have r1 := HG3.out.cell 1 1 (w.heap.size + 1) _ _ _ rfl rfl rfl
    have f1 := HG3.out.frozen 1 1 (w.heap.size + 1) _ _ rfl rfl
    have r2 := HG3.out.cell 1 2 (w.heap.size + 1) _ _ _ rfl rfl rfl
    have f2 := HG3.out.frozen 1 2 (w.heap.size + 1) _ _ rfl rfl
    go_wp2_with fail
    refine bodyPost_ret (v := .tuple #[lg none none none 0 0 0 0 0 0, .slice none 0 0, .int .i64 E]) (by simp [results, Tryz.results69, go_sem, *]) rfl ⟨⟨_, _, _, _, rfl, ledN_none _ _, tapsV_nilO _, fresh_nilO _⟩, ?_⟩
    repeat (first | with_reducible refine Below.setCell ?_ (by simp; try omega) _ | exact HG3.out.2.2)
  · have hne : intoE T P V M ≠ 0 := by rw [h2]; simpa using h5
    obtain ⟨e1, e2, e3, e4⟩ := into_err hne
    rw [e1, e2, e3, e4, h2]
    clear hne e1 e2 e3 e4 h2
    have hlens := chkL_lens h1
    rw [h1] at HCk
    have h3' : ¬ (12 : Int) < (M.length : Int) := by omega
    have HOr := hide (fun W o c (h : TapsAt W o (P ++ M)) (hn : o = none → c = 0) => order_any o c (P ++ M) W h (by simp; omega) hn)
    have hsum : lenS [(o2, P, c2), (om, M, cm)] ≤ 100 := by simp [lenS]; omega
    have HCc := hide (fun (W : World) (h : PiecesP W ⟨W.heap.size - 1, 0, none⟩ [(o2, P, c2), (om, M, cm)]) => concatP_any _ _ 2 W h (by simp) hsum)
    have hfl : ([(o2, P, c2), (om, M, cm)] : List (Option Addr × List TP × Nat)).flatMap (fun x => x.2.1) = P ++ M := by simp
    rw [hfl] at HCc
    have HTap := hide HLed.out.parts3.2.1.eqs
    have HTik := hide HLed.out.parts3.1.eqs
    have HLn := hide hlens
    clear hled hM hl hlM h1 h3 hsum hfl hlens
    have hS : ordR (P ++ M) = srt (P ++ M) := by simp [ordR, h4]
    rw [h4, hS] at HOr
    have hSl : (srt (P ++ M)).length ≤ 72 := by rw [srt_len]; exact (ordE_right h4).1
    have HEb := hide (fun (W : World) (B base : Nat) (h : Bld W B base (w.heap.size + 2) T [] [] []) (o : Option Addr) (cap : Nat) (hL : TapsAt W o (srt (P ++ M))) (hlt : ∀ A, o = some A → srt (P ++ M) ≠ [] → A.block < B) => eachB_any B base (w.heap.size + 2) T o cap (srt (P ++ M)) W h (by have := HLn.out; omega) hL hlt hSl)
    clear h4 hS hSl
    unfold intoB at *
    generalize bldA T (srt (P ++ M)) [] [] [] = R at *
    obtain ⟨E, P', V', D'⟩ := R
    dsimp only at *
    generalize srt (P ++ M) = S at *
    generalize P ++ M = Q at *
    go_enter Tryz.func69, Tryz.ntmps69
    go_wp2_with fail
    refine (HCk.out _ (HLed.out.below HG.out.2.2)).mono ?_
    rintro e w1 ⟨rfl, hb⟩
    have HG1 := hide (HG.out.on hb)
    clear hb HG
    have l0 := HG1.out.cell 0 0 w.heap.size _ _ _ rfl rfl rfl
    have l1 := HG1.out.cell 0 1 w.heap.size _ _ _ rfl rfl rfl
    have l2 := HG1.out.cell 0 2 w.heap.size _ _ _ rfl rfl rfl
    have lr := HG1.out.lt 1 (w.heap.size + 1) (by simp) rfl
    have r0 := HG1.out.cell 1 0 (w.heap.size + 1) _ _ _ rfl rfl rfl
    have f0 := HG1.out.frozen 1 0 (w.heap.size + 1) _ _ rfl rfl
    have r1 := HG1.out.cell 1 1 (w.heap.size + 1) _ _ _ rfl rfl rfl
    have f1 := HG1.out.frozen 1 1 (w.heap.size + 1) _ _ rfl rfl
    have r2 := HG1.out.cell 1 2 (w.heap.size + 1) _ _ _ rfl rfl rfl
    have f2 := HG1.out.frozen 1 2 (w.heap.size + 1) _ _ rfl rfl
    go_wp2_with fail
    have HGp := hide ((Blks.nil w1).more (.cells #[.slice o2 P.length c2, .slice om M.length cm] 23) (by simp))
    have HG1p := hide (HG1.out.on HGp.out.2.2)
    have hpc : PiecesP (w1.alloc (.cells #[.slice o2 P.length c2, .slice om M.length cm] 23)) ⟨(w1.alloc (.cells #[.slice o2 P.length c2, .slice om M.length cm] 23)).heap.size - 1, 0, none⟩ [(o2, P, c2), (om, M, cm)] := by
      have hb := HG1p.out.2.2
      intro q o L cap hq
      match q, hq with
      | 0, hq =>
        simp at hq
        obtain ⟨rfl, rfl, rfl⟩ := hq
        exact ⟨by simp [Addr.add, go_sem], HTap.out.2.1.below hb, HTap.out.2.2.2⟩
      | 1, hq =>
        simp at hq
        obtain ⟨rfl, rfl, rfl⟩ := hq
        exact ⟨by simp [Addr.add, go_sem], HM.out.below hb, hnM⟩
    have HPc := hide (HCc.out _ hpc)
    have hz1 : (w1.alloc (.cells #[.slice o2 P.length c2, .slice om M.length cm] 23)).heap.size - 1 = w1.heap.size := by simp
    rw [hz1] at HPc
    clear hpc hz1 l0 l1 l2 lr r0 r1 r2 f0 f1 f2
    refine HPc.out.mono ?_
    rintro e w2 ⟨⟨cv, rfl, hcv, -⟩, hb⟩
    obtain ⟨oc, cc, rfl, hcv, -, hnc⟩ := hcv
    have HG2 := hide (HG1p.out.on hb)
    have HCv := hide hcv
    clear hb hcv HPc HGp HG1p HG1
    go_wp2_with fail
    refine (HOr.out _ oc cc HCv.out hnc).mono ?_
    rintro e w3 ⟨⟨oo, no, co, rfl, hov, hof⟩, hb⟩
    have HG3 := hide (HG2.out.on hb)
    obtain ⟨rfl, hoa, -, -⟩ := hov.eqs
    have HOa := hide hoa
    have HOl := hide (taps_lt hoa)
    have hsz2 := HG2.out.2.1
    simp only [List.length_append, List.length_cons, List.length_nil] at hsz2
    clear hb hov hof hoa HG2 HCv hnc
    have l0 := HG3.out.cell 0 0 w.heap.size _ _ _ rfl rfl rfl
    have l1 := HG3.out.cell 0 1 w.heap.size _ _ _ rfl rfl rfl
    have l2 := HG3.out.cell 0 2 w.heap.size _ _ _ rfl rfl rfl
    have lr := HG3.out.lt 1 (w.heap.size + 1) (by simp) rfl
    have r0 := HG3.out.cell 1 0 (w.heap.size + 1) _ _ _ rfl rfl rfl
    have f0 := HG3.out.frozen 1 0 (w.heap.size + 1) _ _ rfl rfl
    have r1 := HG3.out.cell 1 1 (w.heap.size + 1) _ _ _ rfl rfl rfl
    have f1 := HG3.out.frozen 1 1 (w.heap.size + 1) _ _ rfl rfl
    have r2 := HG3.out.cell 1 2 (w.heap.size + 1) _ _ _ rfl rfl rfl
    have f2 := HG3.out.frozen 1 2 (w.heap.size + 1) _ _ rfl rfl
    have hsz3 := HG3.out.2.1
    simp only [List.length_append, List.length_cons, List.length_nil] at hsz3
    go_wp2_with fail
    refine (cloneK_any T o1 c1 _ (HTik.out.2.1.below HG3.out.2.2) (by have := HLn.out; omega)).mono ?_
    rintro e w4 ⟨⟨ct, rfl, hct, hcf⟩, hb⟩
    obtain ⟨ok, ck, rfl, hct1, hct2, hct3⟩ := hct
    have HK4 := hide (show TiksV w4 (.slice ok T.length ck) T from ⟨ok, ck, rfl, hct1, hct2, hct3⟩)
    have HKf := hide (hcf.monoB (C := w.heap.size + 2) (by omega))
    have HO4 := hide (HOa.out.below hb)
    have HOl4 := hide (fun A h1 h2 => Nat.lt_of_lt_of_le (HOl.out A h1 h2) hb.size)
    have HG4 := hide (HG3.out.on hb)
    clear hb hcf hct1 hct2 hct3 HOa HOl HG3 l0 l1 l2 lr r0 r1 r2 f0 f1 f2 hsz3 hsz2
    have lr := HG4.out.lt 1 (w.heap.size + 1) (by simp) rfl
    go_wp2_with fail
    have hal := (Below.refl w4.heap.size w4).alloc (Nat.le_refl _) (.cells #[.slice ok T.length ck, .slice none 0 0, .slice none 0 0, .slice none 0 0] 158)
    have hs5 : (w4.alloc (.cells #[.slice ok T.length ck, .slice none 0 0, .slice none 0 0, .slice none 0 0] 158)).heap.size = w4.heap.size + 1 := by simp
    have hB4 : Bld (w4.alloc (.cells #[.slice ok T.length ck, .slice none 0 0, .slice none 0 0, .slice none 0 0] 158)) w4.heap.size (w4.heap.size + 1) (w.heap.size + 2) T [] [] [] :=
      ⟨ok, ck, none, 0, none, 0, none, 0, heap_alloc_new _ _, LedV.of (HK4.out.below hal) (tapsV_nilO _) (intsV_nil _), World.ownsRow_nil _ _ _ _, by omega, by omega, fun g hg => by simp [Value.ownBlock] at hg, ⟨HKf.out, fresh_nilO _, fresh_nilO _⟩, by omega⟩
    have HP5 := hide (HEb.out _ _ _ hB4 oo co (HO4.out.below hal) HOl4.out)
    clear hB4
    refine HP5.out.mono ?_
    rintro e w5 ⟨⟨rfl, hbl⟩, hb⟩
    have HG5 := hide (HG4.out.on (hal.trans hb))
    have HBl := hide hbl
    have hz5 := hb.size
    rw [hs5] at hz5
    clear hb hbl hal hs5 HP5 HG4 HK4 HKf HO4 HOl4
    have lr5 := HG5.out.lt 1 (w.heap.size + 1) (by simp) rfl
    have r0 := HG5.out.cell 1 0 (w.heap.size + 1) _ _ _ rfl rfl rfl
    have f0 := HG5.out.frozen 1 0 (w.heap.size + 1) _ _ rfl rfl
    have r1 := HG5.out.cell 1 1 (w.heap.size + 1) _ _ _ rfl rfl rfl
    have f1 := HG5.out.frozen 1 1 (w.heap.size + 1) _ _ rfl rfl
    have r2 := HG5.out.cell 1 2 (w.heap.size + 1) _ _ _ rfl rfl rfl
    have f2 := HG5.out.frozen 1 2 (w.heap.size + 1) _ _ rfl rfl
    go_wp2_with fail
    refine bodyPost_ret (v := .tuple #[lg none none none 0 0 0 0 0 0, .slice none 0 0, .int .i64 E]) (by simp [results, Tryz.results69, go_sem, *]) rfl ⟨⟨_, _, _, _, rfl, ledN_none _ _, tapsV_nilO _, fresh_nilO _⟩, ?_⟩
    repeat (first | with_reducible refine Below.setCell ?_ (by simp; try omega) _ | exact HG5.out.2.2)
  · have e1 : intoT T P V M = T := by simp [intoT, h2]
    have e2 : intoP T P V M = (intoB T P M).2.1 := by simp [intoP, h2]
    have e3 : intoV T P V M = (intoB T P M).2.2.1 := by simp [intoV, h2]
    have e4 : intoD T P V M = (intoB T P M).2.2.2 := by simp [intoD, h2]
    rw [e1, e2, e3, e4, h2]
    clear e1 e2 e3 e4 h2
    have hlens := chkL_lens h1
    rw [h1] at HCk
    have h3' : ¬ (12 : Int) < (M.length : Int) := by omega
    have HOr := hide (fun W o c (h : TapsAt W o (P ++ M)) (hn : o = none → c = 0) => order_any o c (P ++ M) W h (by simp; omega) hn)
    have hsum : lenS [(o2, P, c2), (om, M, cm)] ≤ 100 := by simp [lenS]; omega
    have HCc := hide (fun (W : World) (h : PiecesP W ⟨W.heap.size - 1, 0, none⟩ [(o2, P, c2), (om, M, cm)]) => concatP_any _ _ 2 W h (by simp) hsum)
    have hfl : ([(o2, P, c2), (om, M, cm)] : List (Option Addr × List TP × Nat)).flatMap (fun x => x.2.1) = P ++ M := by simp
    rw [hfl] at HCc
    have HTap := hide HLed.out.parts3.2.1.eqs
    have HTik := hide HLed.out.parts3.1.eqs
    have HLn := hide hlens
    clear hled hM hl hlM h1 h3 hsum hfl hlens
    have hS : ordR (P ++ M) = srt (P ++ M) := by simp [ordR, h4]
    rw [h4, hS] at HOr
    have hSl : (srt (P ++ M)).length ≤ 72 := by rw [srt_len]; exact (ordE_right h4).1
    have HEb := hide (fun (W : World) (B base : Nat) (h : Bld W B base (w.heap.size + 2) T [] [] []) (o : Option Addr) (cap : Nat) (hL : TapsAt W o (srt (P ++ M))) (hlt : ∀ A, o = some A → srt (P ++ M) ≠ [] → A.block < B) => eachB_any B base (w.heap.size + 2) T o cap (srt (P ++ M)) W h (by have := HLn.out; omega) hL hlt hSl)
    clear h4 hS hSl
    unfold intoB at *
    generalize bldA T (srt (P ++ M)) [] [] [] = R at *
    obtain ⟨E, P', V', D'⟩ := R
    dsimp only at *
    generalize srt (P ++ M) = S at *
    generalize P ++ M = Q at *
    subst h5
    go_enter Tryz.func69, Tryz.ntmps69
    go_wp2_with fail
    refine (HCk.out _ (HLed.out.below HG.out.2.2)).mono ?_
    rintro e w1 ⟨rfl, hb⟩
    have HG1 := hide (HG.out.on hb)
    clear hb HG
    have l0 := HG1.out.cell 0 0 w.heap.size _ _ _ rfl rfl rfl
    have l1 := HG1.out.cell 0 1 w.heap.size _ _ _ rfl rfl rfl
    have l2 := HG1.out.cell 0 2 w.heap.size _ _ _ rfl rfl rfl
    have lr := HG1.out.lt 1 (w.heap.size + 1) (by simp) rfl
    have r0 := HG1.out.cell 1 0 (w.heap.size + 1) _ _ _ rfl rfl rfl
    have f0 := HG1.out.frozen 1 0 (w.heap.size + 1) _ _ rfl rfl
    have r1 := HG1.out.cell 1 1 (w.heap.size + 1) _ _ _ rfl rfl rfl
    have f1 := HG1.out.frozen 1 1 (w.heap.size + 1) _ _ rfl rfl
    have r2 := HG1.out.cell 1 2 (w.heap.size + 1) _ _ _ rfl rfl rfl
    have f2 := HG1.out.frozen 1 2 (w.heap.size + 1) _ _ rfl rfl
    go_wp2_with fail
    have HGp := hide ((Blks.nil w1).more (.cells #[.slice o2 P.length c2, .slice om M.length cm] 23) (by simp))
    have HG1p := hide (HG1.out.on HGp.out.2.2)
    have hpc : PiecesP (w1.alloc (.cells #[.slice o2 P.length c2, .slice om M.length cm] 23)) ⟨(w1.alloc (.cells #[.slice o2 P.length c2, .slice om M.length cm] 23)).heap.size - 1, 0, none⟩ [(o2, P, c2), (om, M, cm)] := by
      have hb := HG1p.out.2.2
      intro q o L cap hq
      match q, hq with
      | 0, hq =>
        simp at hq
        obtain ⟨rfl, rfl, rfl⟩ := hq
        exact ⟨by simp [Addr.add, go_sem], HTap.out.2.1.below hb, HTap.out.2.2.2⟩
      | 1, hq =>
        simp at hq
        obtain ⟨rfl, rfl, rfl⟩ := hq
        exact ⟨by simp [Addr.add, go_sem], HM.out.below hb, hnM⟩
    have HPc := hide (HCc.out _ hpc)
    have hz1 : (w1.alloc (.cells #[.slice o2 P.length c2, .slice om M.length cm] 23)).heap.size - 1 = w1.heap.size := by simp
    rw [hz1] at HPc
    clear hpc hz1 l0 l1 l2 lr r0 r1 r2 f0 f1 f2
    refine HPc.out.mono ?_
    rintro e w2 ⟨⟨cv, rfl, hcv, -⟩, hb⟩
    obtain ⟨oc, cc, rfl, hcv, -, hnc⟩ := hcv
    have HG2 := hide (HG1p.out.on hb)
    have HCv := hide hcv
    clear hb hcv HPc HGp HG1p HG1
    go_wp2_with fail
    refine (HOr.out _ oc cc HCv.out hnc).mono ?_
    rintro e w3 ⟨⟨oo, no, co, rfl, hov, hof⟩, hb⟩
    have HG3 := hide (HG2.out.on hb)
    obtain ⟨rfl, hoa, -, -⟩ := hov.eqs
    have HOa := hide hoa
    have HOl := hide (taps_lt hoa)
    have hsz2 := HG2.out.2.1
    simp only [List.length_append, List.length_cons, List.length_nil] at hsz2
    clear hb hov hof hoa HG2 HCv hnc
    have l0 := HG3.out.cell 0 0 w.heap.size _ _ _ rfl rfl rfl
    have l1 := HG3.out.cell 0 1 w.heap.size _ _ _ rfl rfl rfl
    have l2 := HG3.out.cell 0 2 w.heap.size _ _ _ rfl rfl rfl
    have lr := HG3.out.lt 1 (w.heap.size + 1) (by simp) rfl
    have r0 := HG3.out.cell 1 0 (w.heap.size + 1) _ _ _ rfl rfl rfl
    have f0 := HG3.out.frozen 1 0 (w.heap.size + 1) _ _ rfl rfl
    have r1 := HG3.out.cell 1 1 (w.heap.size + 1) _ _ _ rfl rfl rfl
    have f1 := HG3.out.frozen 1 1 (w.heap.size + 1) _ _ rfl rfl
    have r2 := HG3.out.cell 1 2 (w.heap.size + 1) _ _ _ rfl rfl rfl
    have f2 := HG3.out.frozen 1 2 (w.heap.size + 1) _ _ rfl rfl
    have hsz3 := HG3.out.2.1
    simp only [List.length_append, List.length_cons, List.length_nil] at hsz3
    go_wp2_with fail
    refine (cloneK_any T o1 c1 _ (HTik.out.2.1.below HG3.out.2.2) (by have := HLn.out; omega)).mono ?_
    rintro e w4 ⟨⟨ct, rfl, hct, hcf⟩, hb⟩
    obtain ⟨ok, ck, rfl, hct1, hct2, hct3⟩ := hct
    have HK4 := hide (show TiksV w4 (.slice ok T.length ck) T from ⟨ok, ck, rfl, hct1, hct2, hct3⟩)
    have HKf := hide (hcf.monoB (C := w.heap.size + 2) (by omega))
    have HO4 := hide (HOa.out.below hb)
    have HOl4 := hide (fun A h1 h2 => Nat.lt_of_lt_of_le (HOl.out A h1 h2) hb.size)
    have HG4 := hide (HG3.out.on hb)
    clear hb hcf hct1 hct2 hct3 HOa HOl HG3 l0 l1 l2 lr r0 r1 r2 f0 f1 f2 hsz3 hsz2
    have lr := HG4.out.lt 1 (w.heap.size + 1) (by simp) rfl
    go_wp2_with fail
    have hal := (Below.refl w4.heap.size w4).alloc (Nat.le_refl _) (.cells #[.slice ok T.length ck, .slice none 0 0, .slice none 0 0, .slice none 0 0] 158)
    have hs5 : (w4.alloc (.cells #[.slice ok T.length ck, .slice none 0 0, .slice none 0 0, .slice none 0 0] 158)).heap.size = w4.heap.size + 1 := by simp
    have hB4 : Bld (w4.alloc (.cells #[.slice ok T.length ck, .slice none 0 0, .slice none 0 0, .slice none 0 0] 158)) w4.heap.size (w4.heap.size + 1) (w.heap.size + 2) T [] [] [] :=
      ⟨ok, ck, none, 0, none, 0, none, 0, heap_alloc_new _ _, LedV.of (HK4.out.below hal) (tapsV_nilO _) (intsV_nil _), World.ownsRow_nil _ _ _ _, by omega, by omega, fun g hg => by simp [Value.ownBlock] at hg, ⟨HKf.out, fresh_nilO _, fresh_nilO _⟩, by omega⟩
    have HP5 := hide (HEb.out _ _ _ hB4 oo co (HO4.out.below hal) HOl4.out)
    clear hB4
    refine HP5.out.mono ?_
    rintro e w5 ⟨⟨rfl, hbl⟩, hb⟩
    have HG5 := hide (HG4.out.on (hal.trans hb))
    have HBl := hide hbl
    have hz5 := hb.size
    rw [hs5] at hz5
    clear hb hbl hal hs5 HP5 HG4 HK4 HKf HO4 HOl4
    have lr5 := HG5.out.lt 1 (w.heap.size + 1) (by simp) rfl
    have r0 := HG5.out.cell 1 0 (w.heap.size + 1) _ _ _ rfl rfl rfl
    have f0 := HG5.out.frozen 1 0 (w.heap.size + 1) _ _ rfl rfl
    have r1 := HG5.out.cell 1 1 (w.heap.size + 1) _ _ _ rfl rfl rfl
    have f1 := HG5.out.frozen 1 1 (w.heap.size + 1) _ _ rfl rfl
    have r2 := HG5.out.cell 1 2 (w.heap.size + 1) _ _ _ rfl rfl rfl
    have f2 := HG5.out.frozen 1 2 (w.heap.size + 1) _ _ rfl rfl
    obtain ⟨p1, q1, p2, q2, p3, q3, p4, q4, hrow, hled5, hown, -, -, -, ⟨fr1, fr2, fr3⟩, -⟩ := HBl.out
    have b0 := cell_of_row _ _ 0 _ _ _ hrow
    have b1 := cell_of_row _ _ 1 _ _ _ hrow
    have b2 := cell_of_row _ _ 2 _ _ _ hrow
    have b3 := cell_of_row _ _ 3 _ _ _ hrow
    have HLd := hide (hled5.parts3)
    have HTd := hide (tapsV_own hown)
    have HTf : Hid (Fresh (w.heap.size + 2) (.slice p4 D'.length q4)) := hide (fun g hg => Nat.le_trans (by omega) (ownsRow_block hown g hg).1)
    have HFr := hide (And.intro fr1 (And.intro fr2 fr3))
    clear hrow hled5 hown fr1 fr2 fr3
    have hne5 : ¬ w4.heap.size = w.heap.size + 1 := by omega
    have hne5' : ¬ w.heap.size + 1 = w4.heap.size := by omega
    go_wp2_with fail
    go_region
    all_goals go_wp2_with fail
    all_goals refine bodyPost_ret (v := .tuple #[lg p1 p2 p3 T.length q1 P'.length q2 V'.length q3, .slice p4 D'.length q4, .int .i64 0]) (by simp [results, Tryz.results69, go_sem, *]) rfl ⟨⟨_, _, _, _, rfl, ⟨_, _, _, rfl, ⟨?_, HFr.out.1.mono (by omega)⟩, ⟨?_, HFr.out.2.1.mono (by omega)⟩, ⟨?_, HFr.out.2.2.mono (by omega)⟩⟩, ?_, HTf.out.mono (by omega)⟩, ?_⟩
    · repeat (first | exact HLd.out.1 | with_reducible refine TiksV.below ?_ (Below.refl _ _).drew | with_reducible refine TiksV.set ?_ HFr.out.1 (by simp) _)
    · repeat (first | exact HLd.out.2.1 | with_reducible refine TapsV.below ?_ (Below.refl _ _).drew | with_reducible refine TapsV.set ?_ HFr.out.2.1 (by simp) _)
    · repeat (first | exact HLd.out.2.2 | with_reducible refine IntsV.below ?_ (Below.refl _ _).drew | with_reducible refine IntsV.set ?_ HFr.out.2.2 (by simp) _)
    · repeat (first | exact HTd.out | with_reducible refine TapsV.below ?_ (Below.refl _ _).drew | with_reducible refine TapsV.set ?_ HTf.out (by simp) _)
    · repeat (first | with_reducible refine Below.setCell ?_ (by simp; try omega) _ | with_reducible refine Below.drew ?_ | exact HG5.out.2.2)

end Go.Proofs.YtcjfmbeemdcklaaGreat

/-
  'sync' (package station).
-/
namespace Go.Proofs.YtcjfmbeemdcklaaGreat

open Go.RowKit

/-- a gate, and taps that it tells, whose lists lie from F on -/
def GT2 (F : Nat) (w : World) (x : GT) (o : Option Addr) (c : Nat) (M : List TP) : Prop := Gn F w x ∧ TapsV w (.slice o M.length c) M ∧ Fresh F (.slice o M.length c)

theorem GT2.below {F : Nat} {w w' : World} {x : GT} {o : Option Addr} {c : Nat} {M : List TP} (h : GT2 F w x o c M) (hb : Below w.heap.size w w') : GT2 F w' x o c M := ⟨h.1.below hb, h.2.1.below hb, h.2.2⟩

theorem GT2.mono {F E : Nat} {w : World} {x : GT} {o : Option Addr} {c : Nat} {M : List TP} (h : GT2 F w x o c M) (hE : E ≤ F) : GT2 E w x o c M := ⟨h.1.mono hE, h.2.1, h.2.2.mono hE⟩

theorem GT2.setO {F : Nat} {w : World} {x : GT} {o : Option Addr} {c : Nat} {M : List TP} (h : GT2 F w x o c M) {p : Addr} (ho : GOff x p.block ∧ Off o M p.block) (u : Value) : GT2 F (w.setCell p u) x o c M := ⟨h.1.setO ho.1 u, h.2.1.setO ho.2 u, h.2.2⟩

theorem GT2.offlt {F : Nat} {w : World} {x : GT} {o : Option Addr} {c : Nat} {M : List TP} (h : GT2 F w x o c M) : GOff x w.heap.size ∧ Off o M w.heap.size := ⟨h.1.offlt, off_ltP h.2.1⟩

theorem GT2.offnew {F : Nat} {w : World} {x : GT} {o : Option Addr} {c : Nat} {M : List TP} (h : GT2 F w x o c M) {b : Nat} (hb : b < F) : GOff x b ∧ Off o M b := ⟨h.1.offnew hb, off_fresh h.2.2 hb⟩

/-- Sync of a gate, in one sentence -/
theorem gateSync_one (g : GT) (v' : Int) (od' : Option Addr) (D' : List Int) (cd' : Nat) (m : Int) (w : World) (hP : TapsV w (.slice g.oa g.A.length g.ca) g.A) (hD : IntsV w (.slice g.od g.D.length g.cd) g.D) (hD' : IntsAt w od' D') (hlP : g.A.length ≤ 12) (hlD : g.D.length ≤ 9223372036854775807) (hlD' : D'.length ≤ 9223372036854775807) :
    Calls Tryz.prog 77 #[gtV g.i g.z g.s g.oa g.A.length g.ca g.v g.od g.D.length g.cd g.l g.u, dn v' od' D'.length cd', .int .i64 m] w fun e w' => (∃ (x : GT) (o : Option Addr) (c : Nat), e = .returned (.tuple #[gtV x.i x.z x.s x.oa x.A.length x.ca x.v x.od x.D.length x.cd x.l x.u, .slice o (if syncG g.i g.z g.s g.A g.v g.D g.l g.u v' D' m = 0 then g.A else []).length c, .int .i64 (syncG g.i g.z g.s g.A g.v g.D g.l g.u v' D' m)]) ∧
      GT2 w.heap.size w' x o c (if syncG g.i g.z g.s g.A g.v g.D g.l g.u v' D' m = 0 then g.A else []) ∧ (syncG g.i g.z g.s g.A g.v g.D g.l g.u v' D' m = 0 → x.p = ⟨g.i, g.z, g.s, [], if g.v < v' then v' else g.v, if g.v < v' then D' else g.D, 9, m + 100⟩)) ∧ Below w.heap.size w w' := by
  by_cases hE : syncG g.i g.z g.s g.A g.v g.D g.l g.u v' D' m = 0
  · refine (gateSync_ok g.i g.z g.s g.oa g.A g.ca g.v g.od g.D g.cd g.l g.u v' od' D' cd' m w hP.ats hD.ats hD' hlD hlD' hlP hE).mono ?_
    rintro e w' ⟨⟨on, cn, x, rfl, h1, h2, ⟨o, c, rfl, h3⟩, h4⟩, hb⟩
    rw [if_pos hE]
    exact ⟨⟨⟨g.i, g.z, g.s, none, [], 0, if g.v < v' then v' else g.v, on, if g.v < v' then D' else g.D, cn, 9, m + 100⟩, o, c, by rw [hE]; rfl, ⟨⟨⟨⟨none, 0, rfl, fun i p h => by simp at h, by simp, fun _ => rfl⟩, fun k hk => by simp [Value.ownBlock] at hk⟩, h1, h2⟩, ⟨o, c, rfl, h3⟩, h4⟩, fun _ => rfl⟩, hb⟩
  · refine (gateSync_err g.i g.z g.s g.oa g.A g.ca g.v g.od g.D g.cd g.l g.u v' od' D' cd' m w hP.ats hD.ats hD' hlD hlD' hE).mono ?_
    rintro e w' ⟨rfl, hb⟩
    rw [if_neg hE]
    exact ⟨⟨⟨0, 0, 0, none, [], 0, 0, none, [], 0, 0, 0⟩, none, 0, rfl, ⟨.zero _ _ _ _ _ _ _ _, ⟨none, 0, rfl, fun i p h => by simp at h, by simp, fun _ => rfl⟩, fun k hk => by simp [Value.ownBlock] at hk⟩, fun h => absurd h hE⟩, hb⟩

theorem TapsV.kq {S : Nat → Prop} {w w' : World} {o : Option Addr} {n c : Nat} {L : List TP} (h : TapsV w (.slice o n c) L) (hk : Kq S w w') (ho : ∀ b, S b → Off o L b) : TapsV w' (.slice o n c) L := by
  obtain ⟨rfl, h1, h2, h3⟩ := h.eqs
  exact ⟨o, c, rfl, h1.kq hk ho, h2, h3⟩

set_option maxHeartbeats 3200000 in
set_option maxRecDepth 100000 in
theorem keeperSync_range (K : Nat) (n m : Int) (w : World) (hn : wi n 0 2 = false) : Calls Tryz.prog 49 #[.pointer (some ⟨K, 0, none⟩), .int .i64 n, .int .i64 m] w fun e w' => e = .returned (.tuple #[.slice none 0 0, .int .i64 3]) ∧ w' = w := by
  go_enter Tryz.func49, Tryz.ntmps49
  go_wp2_with fail
  refine (isGate_any _ _).mono ?_
  rintro e w1 ⟨rfl, hw⟩
  obtain rfl := hw.symm
  rw [hn]
  go_wp2_with fail
  go_ret2
  exact ⟨rfl, rfl⟩

/-- what syncing says -/
def syncK (T : List TK) (P : List TP) (V : List Int) (dv : Int) (D : List Int) (W : List VW) (g : GP) (m : Int) : Int :=
  if nowB W = true then (if syncG g.i g.z g.s g.A g.v g.D g.l g.u dv D m = 0 then intoE T P V g.A else syncG g.i g.z g.s g.A g.v g.D g.l g.u dv D m) else 4

theorem bldA_lens (T : List TK) : ∀ (L P : List TP) (V : List Int) (D : List TP), (bldA T L P V D).2.2.2.length ≤ D.length + L.length
  | [], P, V, D => by simp [bldA]
  | p :: L, P, V, D => by
    rw [bldA]
    by_cases h : bldE T P V p = 0
    · rw [if_pos h]
      have := bldA_lens T L (bldP T P V p) (bldV T P V p) (bldD T P V D p)
      have h2 : (bldD T P V D p).length ≤ D.length + 1 := by
        unfold bldD
        split
        · omega
        · split
          · simp
          · omega
      simp only [List.length_cons]
      omega
    · rw [if_neg h]
      simp only [List.length_cons]
      omega

theorem intoD_len (T : List TK) (P : List TP) (V : List Int) (M : List TP) (hM : M.length ≤ 12) (hP : P.length ≤ 60) : (intoD T P V M).length ≤ 9223372036854775807 := by
  unfold intoD
  split
  · have := bldA_lens T (srt (P ++ M)) [] [] []
    unfold intoB
    have h2 : (srt (P ++ M)).length = P.length + M.length := by simp [srt]
    simp only [List.length_nil] at this
    omega
  · simp

set_option maxHeartbeats 12800000 in
set_option maxRecDepth 100000 in
theorem keeperSync_any (K Q B : Nat) (a : KA) (T : List TK) (P : List TP) (V : List Int) (dv : Int) (D : List Int) (G : List GT) (W : List VW) (q : Nat) (g : GT) (m : Int) (w : World) (hK : Ks w K Q B a T P V dv D G W) (hq : G[q]? = some g) (hq3 : q < 3) (hl : LensOk T P V) (hl2 : P.length ≤ 60) (hlA : g.A.length ≤ 12) (hlgD : g.D.length ≤ 9223372036854775807) (hlD : D.length ≤ 12) (hlW : W.length ≤ 9223372036854775807) :
    Calls Tryz.prog 49 #[.pointer (some ⟨K, 0, none⟩), .int .i64 (q : Int), .int .i64 m] w fun e w' => (∃ E M o c, E = syncK T P V dv D W g.p m ∧ M = (if E = 0 then intoD T P V g.A else []) ∧ e = .returned (.tuple #[.slice o M.length c, .int .i64 E]) ∧ (TapsV w' (.slice o M.length c) M ∧ Fresh w.heap.size (.slice o M.length c)) ∧ (E ≠ 0 → Ks w' K Q B a T P V dv D G W) ∧
      (E = 0 → ∃ a' x, x.p = ⟨g.i, g.z, g.s, [], (denA M dv D).1, (denA M dv D).2, 9, m + 100⟩ ∧ Ks w' K Q B a' (intoT T P V g.A) (intoP T P V g.A) (intoV T P V g.A) (denA M dv D).1 (denA M dv D).2 (G.set q x) W)) ∧ Kq (KQ K Q) w w' := by
  have HK := hide hK
  have HK0 := hide hK
  have hKlt := hK.lt
  have hQlt := hK.qlt
  have hbk := hK.bk
  have hne := hK.ne
  have hql := (List.getElem?_eq_some_iff.1 hq).1
  have hi1 : (0 : Int) ≤ (q : Int) := by omega
  have hi2 : (q : Int) < (G.length : Int) := by omega
  have hgate : wi (q : Int) 0 2 = true := by simp [wi]; omega
  have hadd := own_addrZ Q (q * 8)
  have HN := hide (fun X (h : Ks X K Q B a T P V dv D G W) => led_any a.o1 a.o2 a.o3 T.length a.c1 P.length a.c2 V.length a.c3 dv a.od D.length a.cd (some ⟨Q, 0, none⟩) G.length a.cg a.ov a.cv W X h.kl.vws.1.ats hlW)
  have HSy := hide (fun X (h : Ks X K Q B a T P V dv D G W) => gateSync_one g dv a.od D a.cd m X (h.kl.gts g (List.mem_of_getElem? hq)).1.1 (h.kl.gts g (List.mem_of_getElem? hq)).2.1 h.kl.den.1.ats hlA hlgD (by omega))
  have HIn := hide (fun X (h : Ks X K Q B a T P V dv D G W) (ot : Option Addr) (ct : Nat) (h' : TapsV X (.slice ot g.A.length ct) g.A) => into_any T P V g.A a.o1 a.o2 a.o3 ot a.c1 a.c2 a.c3 ct X h.led hl h'.ats (by omega) h'.eqs.2.2.2)
  have Hq := hide hq
  clear hK hq
  have k0 := HK.out.c0
  have k1 := HK.out.c1
  have k2 := HK.out.c2
  have k3 := HK.out.c3
  have k4 := HK.out.c4
  have k5 := HK.out.c5
  have k6 := HK.out.c6
  unfold syncK
  have hgp : g.p = ⟨g.i, g.z, g.s, g.A, g.v, g.D, g.l, g.u⟩ := rfl
  rw [hgp]
  simp only []
  clear hgp
  generalize nowB W = nw at *
  cases nw
  · rw [if_neg (show ¬ false = true by decide)]
    go_enter Tryz.func49, Tryz.ntmps49
    go_wp2_with fail
    refine (isGate_any _ _).mono ?_
    rintro e w1 ⟨rfl, hw⟩
    obtain rfl := hw.symm
    rw [hgate]
    go_wp2_with fail
    refine (HN.out _ HK.out).mono ?_
    rintro e w1 ⟨rfl, hb⟩
    have HK1 := hide (HK.out.below hb)
    have HA1 := hide hb
    clear hb HK HN k0 k1 k2 k3 k4 k5 k6
    go_wp2_with fail
    go_ret2
    exact ⟨⟨4, [], none, 0, rfl, rfl, rfl, ⟨⟨none, 0, rfl, fun i p h => by simp at h, by simp, fun _ => rfl⟩, fun k hk => by simp [Value.ownBlock] at hk⟩, fun _ => HK1.out, fun h => absurd h (by decide)⟩, .ofBelow HA1.out⟩
  · rw [if_pos rfl]
    obtain ⟨GX, hGX⟩ : ∃ GX : GP, GX = ⟨g.i, g.z, g.s, [], if g.v < dv then dv else g.v, if g.v < dv then D else g.D, 9, m + 100⟩ := ⟨_, rfl⟩
    rw [← hGX] at HSy
    have HGX := hide hGX
    clear hGX
    generalize syncG g.i g.z g.s g.A g.v g.D g.l g.u dv D m = E1 at *
    obtain ⟨ML, hML⟩ : ∃ ML, ML = if E1 = 0 then g.A else [] := ⟨_, rfl⟩
    rw [← hML] at HSy
    have HML := hide hML
    clear hML
    generalize intoE T P V g.A = E2 at *
    generalize intoT T P V g.A = IT at *
    generalize intoP T P V g.A = IP at *
    generalize intoV T P V g.A = IV at *
    have hil : (intoD T P V g.A).length ≤ 9223372036854775807 := intoD_len T P V g.A hlA hl2
    generalize intoD T P V g.A = ID at *
    have HIl := hide hil
    clear hil
    obtain ⟨RE, hRE⟩ : ∃ RE, RE = if E1 = 0 then E2 else E1 := ⟨_, rfl⟩
    rw [← hRE]
    have HRE := hide hRE
    clear hRE
    go_enter Tryz.func49, Tryz.ntmps49
    go_wp2_with fail
    refine (isGate_any _ _).mono ?_
    rintro e w1 ⟨rfl, hw⟩
    obtain rfl := hw.symm
    rw [hgate]
    go_wp2_with fail
    refine (HN.out _ HK.out).mono ?_
    rintro e w1 ⟨rfl, hb⟩
    have HK1 := hide (HK.out.below hb)
    have HA1 := hide hb
    clear hb HK HN k0 k1 k2 k3 k4 k5 k6
    go_upto_region 5 with fail
    go_cut [8, 9, 10] from 21 to 40 (fun s8 s9 s10 wx => ∃ (b : Nat) (x : GT) (ot : Option Addr) (ct : Nat), s8 = .pointer (some ⟨b, 0, none⟩) ∧ s9 = .slice ot ML.length ct ∧ s10 = .int .i64 E1 ∧ Hid (w1.heap.size ≤ b ∧ wx.heap[b]? = some (.cells #[.int .i64 x.i, .int .i64 x.z, .int .i64 x.s, .slice x.oa x.A.length x.ca, .int .i64 x.v, .slice x.od x.D.length x.cd, .int .i64 x.l, .int .i64 x.u] 49)) ∧ Hid (GT2 w1.heap.size wx x ot ct ML) ∧ Hid (E1 = 0 → x.p = GX) ∧ Hid (Below w1.heap.size w1 wx))
    case first =>
      refine wp_region_reads (fun w' => Ks w' K Q B a T P V dv D G W) [0, 1, 2, 3, 4, 5, 6, 7, 8, 9, 10, 11, 12, 13] 9 (by rfl) (by kernel_rfl) (by kernel_rfl) (by kernel_rfl) (fun c d v a w h => by cases d <;> exact h) ?_ ?_
      · exact HK1.out.below (Below.refl _ _).drew
      refine wpPureH_step (.pointer (some ⟨K, 0, none⟩)) rfl rfl (fun w' hS => ?_) ?_
      · go_simp
      refine wpPureH_step (.pointer (some ⟨K, 0, none⟩)) rfl rfl (fun w' hS => ?_) ?_
      · go_simp
      refine wpPureH_step (.pointer (some ⟨K, 0, none⟩)) rfl rfl (fun w' hS => ?_) ?_
      · go_simp
      refine wpPureH_step (.pointer (some ⟨K, 5, none⟩)) rfl rfl (fun w' hS => ?_) ?_
      · go_simp
      refine wpPureH_step (.slice (some ⟨Q, 0, none⟩) G.length a.cg) rfl rfl (fun w' hS => ?_) ?_
      · have k5 := hS.c5
        go_simp
      refine wpPureH_step (.int .i64 (q : Int)) rfl rfl (fun w' hS => ?_) ?_
      · go_simp
      refine wpPureH_step (.pointer (some ⟨Q, q * 8, none⟩)) rfl rfl (fun w' hS => ?_) ?_
      · go_simp
      refine wpPureH_step (gtV g.i g.z g.s g.oa g.A.length g.ca g.v g.od g.D.length g.cd g.l g.u) rfl rfl (fun w' hS => ?_) ?_
      · have g0 := hS.g0 Hq.out
        have g1 := hS.g1 Hq.out
        have g2 := hS.g2 Hq.out
        have g3 := hS.g3 Hq.out
        have g4 := hS.g4 Hq.out
        have g5 := hS.g5 Hq.out
        have g6 := hS.g6 Hq.out
        have g7 := hS.g7 Hq.out
        go_simp
      refine wpPureH_step (.pointer (some ⟨K, 0, none⟩)) rfl rfl (fun w' hS => ?_) ?_
      · go_simp
      refine wpPureH_step (.pointer (some ⟨K, 0, none⟩)) rfl rfl (fun w' hS => ?_) ?_
      · go_simp
      refine wpPureH_step (.pointer (some ⟨K, 0, none⟩)) rfl rfl (fun w' hS => ?_) ?_
      · go_simp
      refine wpPureH_step (.pointer (some ⟨K, 3, none⟩)) rfl rfl (fun w' hS => ?_) ?_
      · go_simp
      refine wpPureH_step (dn dv a.od D.length a.cd) rfl rfl (fun w' hS => ?_) ?_
      · have k3 := hS.c3
        have k4 := hS.c4
        go_simp
      refine wpPureH_step (.int .i64 m) rfl rfl (fun w' hS => ?_) ?_
      · go_simp
      refine wpPureH_nil ?_
      have HKd := hide (HK1.out.below (Below.refl _ _).drew)
      have HAd := hide ((Below.refl w1.heap.size w1).drew)
      have hsd : w1.heap.size ≤ w1.drew.heap.size := Nat.le_refl _
      clear HK1
      generalize (World.drew _) = w0 at *
      refine two_readyH (i := 14) (j := 19) (by kernel_rfl) rfl rfl rfl rfl (fun J hJ => ?_) (fun J hJ => ?_)
      · go_simp
        refine (HSy.out w0 HKd.out).mono ?_
        rintro e v1 ⟨⟨x, ot, ct, rfl, hN, hX⟩, hb⟩
        have HN := hide hN
        have HX := hide hX
        clear hN hX
        have HB1 := hide (hb)
        have u1 : w0.heap.size ≤ v1.heap.size := HB1.out.size
        refine hJ _ _ (HKd.out.below HB1.out) ?_
        clear hJ J hb  
        refine takesH (fuel := 4) (by kernel_rfl) (fun c d v a w h => by cases d <;> exact h) (HKd.out.below HB1.out) [15, 16, 17, 18] _ _ (by kernel_rfl) ?_
        refine wpPureH_step (.tuple #[gtV x.i x.z x.s x.oa x.A.length x.ca x.v x.od x.D.length x.cd x.l x.u, .slice ot ML.length ct, .int .i64 E1]) rfl rfl (fun w' _ => by go_simp) ?_
        refine wpPureH_step (gtV x.i x.z x.s x.oa x.A.length x.ca x.v x.od x.D.length x.cd x.l x.u) rfl rfl (fun w' _ => by go_simp) ?_
        refine wpPureH_step (.slice ot ML.length ct) rfl rfl (fun w' _ => by go_simp) ?_
        refine wpPureH_step (.int .i64 E1) rfl rfl (fun w' _ => by go_simp) ?_
        refine wpPureH_nil ?_
        refine one_readyH (i := 19) (by kernel_rfl) rfl rfl (fun J hJ => ?_)
        go_simp
        have hba := (Below.refl v1.heap.size v1).alloc (Nat.le_refl _) (.cells #[.int .i64 0, .int .i64 0, .int .i64 0, .slice none 0 0, .int .i64 0, .slice none 0 0, .int .i64 0, .int .i64 0] 49)
        have HB2 := hide (HB1.out.trans (hba.mono HB1.out.size))
        have Z2_19 : Hid ((v1.alloc (.cells #[.int .i64 0, .int .i64 0, .int .i64 0, .slice none 0 0, .int .i64 0, .slice none 0 0, .int .i64 0, .int .i64 0] 49)).heap[v1.heap.size]? = some (.cells #[.int .i64 0, .int .i64 0, .int .i64 0, .slice none 0 0, .int .i64 0, .slice none 0 0, .int .i64 0, .int .i64 0] 49)) := hide (heap_alloc_new v1 _)
        have q2 : v1.heap.size < (v1.alloc (.cells #[.int .i64 0, .int .i64 0, .int .i64 0, .slice none 0 0, .int .i64 0, .slice none 0 0, .int .i64 0, .int .i64 0] 49)).heap.size := by simp
        have O2_19 := hide (HN.out.offlt)
        have N2 := hide (HN.out.below hba)
        refine hJ _ _ (HKd.out.below HB2.out) ?_
        clear hJ J hba HB1  HN
        generalize v1.alloc (.cells #[.int .i64 0, .int .i64 0, .int .i64 0, .slice none 0 0, .int .i64 0, .slice none 0 0, .int .i64 0, .int .i64 0] 49) = v2 at *
        have hZ := Z2_19.out
        have r0 := cell_of_row _ _ 0 _ _ _ hZ
        have s0 := frozen_of_row _ _ 0 _ _ hZ
        have r1 := cell_of_row _ _ 1 _ _ _ hZ
        have s1 := frozen_of_row _ _ 1 _ _ hZ
        have r2 := cell_of_row _ _ 2 _ _ _ hZ
        have s2 := frozen_of_row _ _ 2 _ _ hZ
        have r3 := cell_of_row _ _ 3 _ _ _ hZ
        have s3 := frozen_of_row _ _ 3 _ _ hZ
        have r4 := cell_of_row _ _ 4 _ _ _ hZ
        have s4 := frozen_of_row _ _ 4 _ _ hZ
        have r5 := cell_of_row _ _ 5 _ _ _ hZ
        have s5 := frozen_of_row _ _ 5 _ _ hZ
        have r6 := cell_of_row _ _ 6 _ _ _ hZ
        have s6 := frozen_of_row _ _ 6 _ _ hZ
        have r7 := cell_of_row _ _ 7 _ _ _ hZ
        have s7 := frozen_of_row _ _ 7 _ _ hZ
        simp at r0 r1 r2 r3 r4 r5 r6 r7
        have Y3_19 : Hid (((((((((v2.setCell ⟨v1.heap.size, 0, none⟩ (.int .i64 x.i)).setCell ⟨v1.heap.size, 1, none⟩ (.int .i64 x.z)).setCell ⟨v1.heap.size, 2, none⟩ (.int .i64 x.s)).setCell ⟨v1.heap.size, 3, none⟩ (.slice x.oa x.A.length x.ca)).setCell ⟨v1.heap.size, 4, none⟩ (.int .i64 x.v)).setCell ⟨v1.heap.size, 5, none⟩ (.slice x.od x.D.length x.cd)).setCell ⟨v1.heap.size, 6, none⟩ (.int .i64 x.l)).setCell ⟨v1.heap.size, 7, none⟩ (.int .i64 x.u)).heap[v1.heap.size]? = some (.cells #[.int .i64 x.i, .int .i64 x.z, .int .i64 x.s, .slice x.oa x.A.length x.ca, .int .i64 x.v, .slice x.od x.D.length x.cd, .int .i64 x.l, .int .i64 x.u] 49)) := hide (heap_setCell_same _ (v1.heap.size) 7 _ _ (.int .i64 x.u) (heap_setCell_same _ (v1.heap.size) 6 _ _ (.int .i64 x.l) (heap_setCell_same _ (v1.heap.size) 5 _ _ (.slice x.od x.D.length x.cd) (heap_setCell_same _ (v1.heap.size) 4 _ _ (.int .i64 x.v) (heap_setCell_same _ (v1.heap.size) 3 _ _ (.slice x.oa x.A.length x.ca) (heap_setCell_same _ (v1.heap.size) 2 _ _ (.int .i64 x.s) (heap_setCell_same _ (v1.heap.size) 1 _ _ (.int .i64 x.z) (heap_setCell_same _ (v1.heap.size) 0 _ _ (.int .i64 x.i) hZ))))))))
        have HB3 := hide ((((((((HB2.out.setCell (p := ⟨v1.heap.size, 0, none⟩) (by simp; try omega) (.int .i64 x.i)).setCell (p := ⟨v1.heap.size, 1, none⟩) (by simp; try omega) (.int .i64 x.z)).setCell (p := ⟨v1.heap.size, 2, none⟩) (by simp; try omega) (.int .i64 x.s)).setCell (p := ⟨v1.heap.size, 3, none⟩) (by simp; try omega) (.slice x.oa x.A.length x.ca)).setCell (p := ⟨v1.heap.size, 4, none⟩) (by simp; try omega) (.int .i64 x.v)).setCell (p := ⟨v1.heap.size, 5, none⟩) (by simp; try omega) (.slice x.od x.D.length x.cd)).setCell (p := ⟨v1.heap.size, 6, none⟩) (by simp; try omega) (.int .i64 x.l)).setCell (p := ⟨v1.heap.size, 7, none⟩) (by simp; try omega) (.int .i64 x.u))
        have N3 := hide ((((((((N2.out.setO (p := ⟨v1.heap.size, 0, none⟩) O2_19.out (.int .i64 x.i)).setO (p := ⟨v1.heap.size, 1, none⟩) O2_19.out (.int .i64 x.z)).setO (p := ⟨v1.heap.size, 2, none⟩) O2_19.out (.int .i64 x.s)).setO (p := ⟨v1.heap.size, 3, none⟩) O2_19.out (.slice x.oa x.A.length x.ca)).setO (p := ⟨v1.heap.size, 4, none⟩) O2_19.out (.int .i64 x.v)).setO (p := ⟨v1.heap.size, 5, none⟩) O2_19.out (.slice x.od x.D.length x.cd)).setO (p := ⟨v1.heap.size, 6, none⟩) O2_19.out (.int .i64 x.l)).setO (p := ⟨v1.heap.size, 7, none⟩) O2_19.out (.int .i64 x.u))
        refine one_readyH (i := 20) (by kernel_rfl) rfl rfl (fun J hJ => ?_)
        go_simp
        refine hJ _ _ (HKd.out.below HB3.out) ?_
        clear hJ J hZ r0 s0 r1 s1 r2 s2 r3 s3 r4 s4 r5 s5 r6 s6 r7 s7 HB2 N2 Z2_19
        generalize ((((((((v2.setCell ⟨v1.heap.size, 0, none⟩ (.int .i64 x.i)).setCell ⟨v1.heap.size, 1, none⟩ (.int .i64 x.z)).setCell ⟨v1.heap.size, 2, none⟩ (.int .i64 x.s)).setCell ⟨v1.heap.size, 3, none⟩ (.slice x.oa x.A.length x.ca)).setCell ⟨v1.heap.size, 4, none⟩ (.int .i64 x.v)).setCell ⟨v1.heap.size, 5, none⟩ (.slice x.od x.D.length x.cd)).setCell ⟨v1.heap.size, 6, none⟩ (.int .i64 x.l)).setCell ⟨v1.heap.size, 7, none⟩ (.int .i64 x.u)) = z3 at *
        refine one_readyH (i := 21) (by kernel_rfl) rfl rfl (fun J hJ => ?_)
        go_simp
        refine hJ _ _ (HKd.out.below HB3.out) ?_
        clear hJ J
        refine one_readyH (i := 22) (by kernel_rfl) rfl rfl (fun J hJ => ?_)
        go_simp
        refine hJ _ _ (HKd.out.below HB3.out) ?_
        clear hJ J
        refine wpAnyH_done (by kernel_rfl) ?_ _
        go_wp2_with fail
        go_meet
        case rel => exact ⟨v1.heap.size, x, ot, ct, rfl, rfl, rfl, hide ⟨by omega, Y3_19.out⟩, hide (N3.out.mono (by omega)), HX, hide (HAd.out.trans (HB3.out.mono (by omega)))⟩
      · go_simp
        have hba := (Below.refl w0.heap.size w0).alloc (Nat.le_refl _) (.cells #[.int .i64 0, .int .i64 0, .int .i64 0, .slice none 0 0, .int .i64 0, .slice none 0 0, .int .i64 0, .int .i64 0] 49)
        have HB4 := hide (hba)
        have Z4_19 : Hid ((w0.alloc (.cells #[.int .i64 0, .int .i64 0, .int .i64 0, .slice none 0 0, .int .i64 0, .slice none 0 0, .int .i64 0, .int .i64 0] 49)).heap[w0.heap.size]? = some (.cells #[.int .i64 0, .int .i64 0, .int .i64 0, .slice none 0 0, .int .i64 0, .slice none 0 0, .int .i64 0, .int .i64 0] 49)) := hide (heap_alloc_new w0 _)
        have q4 : w0.heap.size < (w0.alloc (.cells #[.int .i64 0, .int .i64 0, .int .i64 0, .slice none 0 0, .int .i64 0, .slice none 0 0, .int .i64 0, .int .i64 0] 49)).heap.size := by simp
        refine hJ _ _ (HKd.out.below HB4.out) ?_
        clear hJ J hba   
        generalize w0.alloc (.cells #[.int .i64 0, .int .i64 0, .int .i64 0, .slice none 0 0, .int .i64 0, .slice none 0 0, .int .i64 0, .int .i64 0] 49) = v4 at *
        refine one_readyH (i := 14) (by kernel_rfl) rfl rfl (fun J hJ => ?_)
        go_simp
        refine (HSy.out _ (HKd.out.below HB4.out)).mono ?_
        rintro e v5 ⟨⟨x, ot, ct, rfl, hN, hX⟩, hb⟩
        have HN := hide hN
        have HX := hide hX
        clear hN hX
        have HB5 := hide (HB4.out.trans (hb.mono HB4.out.size))
        have Z5_19 := hide (at_below Z4_19.out hb)
        have O5_19 := hide (HN.out.offnew (show w0.heap.size < v4.heap.size by omega))
        have q5_19 : w0.heap.size < v5.heap.size := Nat.lt_of_lt_of_le (by omega) hb.size
        have u5 : w0.heap.size ≤ v5.heap.size := HB5.out.size
        refine hJ _ _ (HKd.out.below HB5.out) ?_
        clear hJ J hb HB4 Z4_19
        refine takesH (fuel := 3) (by kernel_rfl) (fun c d v a w h => by cases d <;> exact h) (HKd.out.below HB5.out) [15, 16, 17, 18] _ _ (by kernel_rfl) ?_
        refine wpPureH_step (.tuple #[gtV x.i x.z x.s x.oa x.A.length x.ca x.v x.od x.D.length x.cd x.l x.u, .slice ot ML.length ct, .int .i64 E1]) rfl rfl (fun w' _ => by go_simp) ?_
        refine wpPureH_step (gtV x.i x.z x.s x.oa x.A.length x.ca x.v x.od x.D.length x.cd x.l x.u) rfl rfl (fun w' _ => by go_simp) ?_
        refine wpPureH_step (.slice ot ML.length ct) rfl rfl (fun w' _ => by go_simp) ?_
        refine wpPureH_step (.int .i64 E1) rfl rfl (fun w' _ => by go_simp) ?_
        refine wpPureH_nil ?_
        have hZ := Z5_19.out
        have r0 := cell_of_row _ _ 0 _ _ _ hZ
        have s0 := frozen_of_row _ _ 0 _ _ hZ
        have r1 := cell_of_row _ _ 1 _ _ _ hZ
        have s1 := frozen_of_row _ _ 1 _ _ hZ
        have r2 := cell_of_row _ _ 2 _ _ _ hZ
        have s2 := frozen_of_row _ _ 2 _ _ hZ
        have r3 := cell_of_row _ _ 3 _ _ _ hZ
        have s3 := frozen_of_row _ _ 3 _ _ hZ
        have r4 := cell_of_row _ _ 4 _ _ _ hZ
        have s4 := frozen_of_row _ _ 4 _ _ hZ
        have r5 := cell_of_row _ _ 5 _ _ _ hZ
        have s5 := frozen_of_row _ _ 5 _ _ hZ
        have r6 := cell_of_row _ _ 6 _ _ _ hZ
        have s6 := frozen_of_row _ _ 6 _ _ hZ
        have r7 := cell_of_row _ _ 7 _ _ _ hZ
        have s7 := frozen_of_row _ _ 7 _ _ hZ
        simp at r0 r1 r2 r3 r4 r5 r6 r7
        have Y6_19 : Hid (((((((((v5.setCell ⟨w0.heap.size, 0, none⟩ (.int .i64 x.i)).setCell ⟨w0.heap.size, 1, none⟩ (.int .i64 x.z)).setCell ⟨w0.heap.size, 2, none⟩ (.int .i64 x.s)).setCell ⟨w0.heap.size, 3, none⟩ (.slice x.oa x.A.length x.ca)).setCell ⟨w0.heap.size, 4, none⟩ (.int .i64 x.v)).setCell ⟨w0.heap.size, 5, none⟩ (.slice x.od x.D.length x.cd)).setCell ⟨w0.heap.size, 6, none⟩ (.int .i64 x.l)).setCell ⟨w0.heap.size, 7, none⟩ (.int .i64 x.u)).heap[w0.heap.size]? = some (.cells #[.int .i64 x.i, .int .i64 x.z, .int .i64 x.s, .slice x.oa x.A.length x.ca, .int .i64 x.v, .slice x.od x.D.length x.cd, .int .i64 x.l, .int .i64 x.u] 49)) := hide (heap_setCell_same _ (w0.heap.size) 7 _ _ (.int .i64 x.u) (heap_setCell_same _ (w0.heap.size) 6 _ _ (.int .i64 x.l) (heap_setCell_same _ (w0.heap.size) 5 _ _ (.slice x.od x.D.length x.cd) (heap_setCell_same _ (w0.heap.size) 4 _ _ (.int .i64 x.v) (heap_setCell_same _ (w0.heap.size) 3 _ _ (.slice x.oa x.A.length x.ca) (heap_setCell_same _ (w0.heap.size) 2 _ _ (.int .i64 x.s) (heap_setCell_same _ (w0.heap.size) 1 _ _ (.int .i64 x.z) (heap_setCell_same _ (w0.heap.size) 0 _ _ (.int .i64 x.i) hZ))))))))
        have HB6 := hide ((((((((HB5.out.setCell (p := ⟨w0.heap.size, 0, none⟩) (by simp; try omega) (.int .i64 x.i)).setCell (p := ⟨w0.heap.size, 1, none⟩) (by simp; try omega) (.int .i64 x.z)).setCell (p := ⟨w0.heap.size, 2, none⟩) (by simp; try omega) (.int .i64 x.s)).setCell (p := ⟨w0.heap.size, 3, none⟩) (by simp; try omega) (.slice x.oa x.A.length x.ca)).setCell (p := ⟨w0.heap.size, 4, none⟩) (by simp; try omega) (.int .i64 x.v)).setCell (p := ⟨w0.heap.size, 5, none⟩) (by simp; try omega) (.slice x.od x.D.length x.cd)).setCell (p := ⟨w0.heap.size, 6, none⟩) (by simp; try omega) (.int .i64 x.l)).setCell (p := ⟨w0.heap.size, 7, none⟩) (by simp; try omega) (.int .i64 x.u))
        have N6 := hide ((((((((HN.out.setO (p := ⟨w0.heap.size, 0, none⟩) O5_19.out (.int .i64 x.i)).setO (p := ⟨w0.heap.size, 1, none⟩) O5_19.out (.int .i64 x.z)).setO (p := ⟨w0.heap.size, 2, none⟩) O5_19.out (.int .i64 x.s)).setO (p := ⟨w0.heap.size, 3, none⟩) O5_19.out (.slice x.oa x.A.length x.ca)).setO (p := ⟨w0.heap.size, 4, none⟩) O5_19.out (.int .i64 x.v)).setO (p := ⟨w0.heap.size, 5, none⟩) O5_19.out (.slice x.od x.D.length x.cd)).setO (p := ⟨w0.heap.size, 6, none⟩) O5_19.out (.int .i64 x.l)).setO (p := ⟨w0.heap.size, 7, none⟩) O5_19.out (.int .i64 x.u))
        refine one_readyH (i := 20) (by kernel_rfl) rfl rfl (fun J hJ => ?_)
        go_simp
        refine hJ _ _ (HKd.out.below HB6.out) ?_
        clear hJ J hZ r0 s0 r1 s1 r2 s2 r3 s3 r4 s4 r5 s5 r6 s6 r7 s7 HB5 HN Z5_19
        generalize ((((((((v5.setCell ⟨w0.heap.size, 0, none⟩ (.int .i64 x.i)).setCell ⟨w0.heap.size, 1, none⟩ (.int .i64 x.z)).setCell ⟨w0.heap.size, 2, none⟩ (.int .i64 x.s)).setCell ⟨w0.heap.size, 3, none⟩ (.slice x.oa x.A.length x.ca)).setCell ⟨w0.heap.size, 4, none⟩ (.int .i64 x.v)).setCell ⟨w0.heap.size, 5, none⟩ (.slice x.od x.D.length x.cd)).setCell ⟨w0.heap.size, 6, none⟩ (.int .i64 x.l)).setCell ⟨w0.heap.size, 7, none⟩ (.int .i64 x.u)) = z6 at *
        refine one_readyH (i := 21) (by kernel_rfl) rfl rfl (fun J hJ => ?_)
        go_simp
        refine hJ _ _ (HKd.out.below HB6.out) ?_
        clear hJ J
        refine one_readyH (i := 22) (by kernel_rfl) rfl rfl (fun J hJ => ?_)
        go_simp
        refine hJ _ _ (HKd.out.below HB6.out) ?_
        clear hJ J
        refine wpAnyH_done (by kernel_rfl) ?_ _
        go_wp2_with fail
        go_meet
        case rel => exact ⟨w0.heap.size, x, ot, ct, rfl, rfl, rfl, hide ⟨by omega, Y6_19.out⟩, hide (N6.out.mono (by omega)), HX, hide (HAd.out.trans (HB6.out.mono (by omega)))⟩
    case rest =>
      obtain ⟨b, x, ot, ct, rfl, rfl, rfl, HZ, HT, HX, HB⟩ := hcut
      have HK2 := hide (HK1.out.below HB.out)
      have HA2 := hide (HA1.out.trans (HB.out.mono HA1.out.size))
      have hs1 := HA1.out.size
      clear HK1 HA1 HSy
      rcases hE : (E1 != 0) with _ | _
      · obtain rfl : E1 = 0 := by simpa using hE
        have hml := HML.out
        rw [if_pos rfl] at hml
        subst hml
        have hre := HRE.out
        rw [if_pos rfl] at hre
        have HRE2 := hide hre
        have HX0 := hide (HX.out rfl)
        clear HML HRE hre HX
        have k0 := HK2.out.c0
        have k1 := HK2.out.c1
        have k2 := HK2.out.c2
        go_wp2_with fail
        refine (HIn.out _ HK2.out ot ct HT.out.2.1).mono ?_
        rintro e w2 ⟨⟨lv, od, nd, cd, rfl, hN, hM, hMf⟩, hb⟩
        obtain ⟨x1, y1, x2, y2, x3, y3, rfl, hN6⟩ := hN.led6
        obtain ⟨od', cd', hM1, hM2⟩ := hM
        simp only [Value.slice.injEq] at hM1
        obtain ⟨rfl, rfl, rfl⟩ := hM1
        have HL := hide hN6
        have HM := hide (And.intro (show TapsV w2 (.slice od ID.length cd) ID from ⟨_, _, rfl, hM2⟩) hMf)
        have HK3 := hide (HK2.out.below hb)
        have HA3 := hide (HA2.out.trans (hb.mono HA2.out.size))
        have HT3 := hide (HT.out.1.below hb)
        have HZ3 := hide (at_below HZ.out.2 hb)
        have hbb : w1.heap.size ≤ b := HZ.out.1
        have hbc : b < wc.heap.size := (Array.getElem?_eq_some_iff.1 HZ.out.2).1
        have hs2 : wc.heap.size ≤ w2.heap.size := hb.size
        clear hb hN hN6 hM2 hMf HK2 HA2 HT HZ HB k0 k1 k2 HIn
        rcases hE2 : (E2 != 0) with _ | _
        · obtain rfl : E2 = 0 := by simpa using hE2
          have HB0 := hide ((Below.refl w2.heap.size w2).alloc (Nat.le_refl _) (.cells #[.slice x1 IT.length y1, .slice x2 IP.length y2, .slice x3 IV.length y3] 26))
          have k0 := HK3.out.c0
          have k1 := HK3.out.c1
          have k2 := HK3.out.c2
          have z0 := HK3.out.fz 0
          have z1 := HK3.out.fz 1
          have z2 := HK3.out.fz 2
          go_upto_region 11 with fail
          have HZl := hide (heap_alloc_new w2 (.cells #[.slice x1 IT.length y1, .slice x2 IP.length y2, .slice x3 IV.length y3] 26))
          have HK4 := hide (HK3.out.below HB0.out)
          have HL4 := hide (HL.out.below HB0.out)
          have HM4 := hide (And.intro (HM.out.1.below HB0.out) HM.out.2)
          have HT4 := hide (HT3.out.below HB0.out)
          have HZ4 := hide (at_below HZ3.out HB0.out)
          have HA4 := hide (HA3.out.trans (HB0.out.mono HA3.out.size))
          have hs3 : w2.heap.size < (w2.alloc (.cells #[.slice x1 IT.length y1, .slice x2 IP.length y2, .slice x3 IV.length y3] 26)).heap.size := by simp
          clear HK3 HL HM HT3 HZ3 HA3 k0 k1 k2 z0 z1 z2
          generalize w2.alloc (.cells #[.slice x1 IT.length y1, .slice x2 IP.length y2, .slice x3 IV.length y3] 26) = w3 at *
          have r0 := cell_of_row _ _ 0 _ _ _ HZl.out
          have r1 := cell_of_row _ _ 1 _ _ _ HZl.out
          have r2 := cell_of_row _ _ 2 _ _ _ HZl.out
          simp at r0 r1 r2
          have k0 := HK4.out.c0
          have k1 := HK4.out.c1
          have k2 := HK4.out.c2
          have z0 := HK4.out.fz 0
          have z1 := HK4.out.fz 1
          have z2 := HK4.out.fz 2
          go_upto_region 12 with fail
          have HK5 := hide (HK4.out.setLed ⟨HL4.out.1.1, .new HL4.out.1.2 (by omega) (by omega) (by omega)⟩ ⟨HL4.out.2.1.1, .new HL4.out.2.1.2 (by omega) (by omega) (by omega)⟩ ⟨HL4.out.2.2.1, .new HL4.out.2.2.2 (by omega) (by omega) (by omega)⟩)
          have HLf := hide (And.intro HL4.out.1.2 (And.intro HL4.out.2.1.2 HL4.out.2.2.2))
          have HF5 := hide ((((Kq.ofBelow HA4.out (S := KQ K Q)).setCell (p := ⟨K, 0, none⟩) (.inl rfl) (.slice x1 IT.length y1)).setCell (p := ⟨K, 1, none⟩) (.inl rfl) (.slice x2 IP.length y2)).setCell (p := ⟨K, 2, none⟩) (.inl rfl) (.slice x3 IV.length y3))
          have oK : Off od ID K := off_fresh HM4.out.2 (by omega)
          have oQ : Off od ID Q := off_fresh HM4.out.2 (by omega)
          have ob : Off od ID b := off_fresh HM4.out.2 (by omega)
          have HM5 := hide (((HM4.out.1.setO (p := ⟨K, 0, none⟩) oK (.slice x1 IT.length y1)).setO (p := ⟨K, 1, none⟩) oK (.slice x2 IP.length y2)).setO (p := ⟨K, 2, none⟩) oK (.slice x3 IV.length y3))
          have HO := hide (And.intro oK (And.intro oQ ob))
          have HMf := hide HM4.out.2
          have HT5 := hide (((HT4.out.setO (p := ⟨K, 0, none⟩) (HT4.out.offnew (by simp; omega)) (.slice x1 IT.length y1)).setO (p := ⟨K, 1, none⟩) (HT4.out.offnew (by simp; omega)) (.slice x2 IP.length y2)).setO (p := ⟨K, 2, none⟩) (HT4.out.offnew (by simp; omega)) (.slice x3 IV.length y3))
          have HZ5 := hide (heap_setO (heap_setO (heap_setO HZ4.out (p := ⟨K, 0, none⟩) (by simp; omega) (.slice x1 IT.length y1)) (p := ⟨K, 1, none⟩) (by simp; omega) (.slice x2 IP.length y2)) (p := ⟨K, 2, none⟩) (by simp; omega) (.slice x3 IV.length y3))
          have hs5 : w3.heap.size ≤ (((w3.setCell ⟨K, 0, none⟩ (.slice x1 IT.length y1)).setCell ⟨K, 1, none⟩ (.slice x2 IP.length y2)).setCell ⟨K, 2, none⟩ (.slice x3 IV.length y3)).heap.size := by simp only [World.size_setCell]; exact Nat.le_refl _
          clear HK4 HL4 HM4 HT4 HZ4 HA4 HZl r0 r1 r2 k0 k1 k2 z0 z1 z2 oK oQ ob HB0
          generalize (((w3.setCell ⟨K, 0, none⟩ (.slice x1 IT.length y1)).setCell ⟨K, 1, none⟩ (.slice x2 IP.length y2)).setCell ⟨K, 2, none⟩ (.slice x3 IV.length y3)) = w4 at *
          go_wp2_with fail
          refine (keeperDeny_any K Q B _ IT IP IV dv D G W od cd ID w4 HK5.out HM5.out.ats HO.out.1 HO.out.2.1 (by have := HIl.out; omega) (by omega)).mono ?_
          rintro e w5 ⟨⟨rfl, a5, hk5, hl5, ha5, ho5⟩, hf5⟩
          obtain ⟨DV, hDV⟩ : ∃ DV, DV = (denA ID dv D).1 := ⟨_, rfl⟩
          obtain ⟨DD, hDD⟩ : ∃ DD, DD = (denA ID dv D).2 := ⟨_, rfl⟩
          rw [← hDV, ← hDD] at hk5
          rw [← hDD] at hl5 ho5
          have HDE := hide (And.intro hDV hDD)
          clear hDV hDD
          have HF6 := hide (HF5.out.trans hf5)
          have HM6 := hide (HM5.out.kq hf5 (fun x hx => by rcases hx with rfl | rfl <;> first | exact HO.out.1 | exact HO.out.2.1))
          have HZ6 := hide (hf5.obj HZ5.out (fun hx => by rcases hx with h | h <;> omega))
          have HT6 := hide (And.intro HT5.out.1.1.eqs.2.2 (show x.A = [] from by have := congrArg GP.A HX0.out; rw [HGX.out] at this; exact this))
          have HTf := hide (HT5.out.1.2.mono (show B ≤ w1.heap.size by omega))
          have HK6 := hide hk5
          have HA6 := hide (And.intro ha5 ho5)
          have hs6 : w4.heap.size ≤ w5.heap.size := hf5.size
          clear hf5 hk5 ha5 ho5 HM5 HZ5 HT5 HF5 HK5
          have k3 := HK6.out.c3
          have k4 := HK6.out.c4
          go_wp2_with fail
          refine (freshList_any DV DD a5.od a5.cd w5 HK6.out.kl.den.1.ats (by omega)).mono ?_
          rintro e w6 ⟨⟨o6, c6, rfl, hi, hf⟩, hb⟩
          have HK7 := hide (HK6.out.below hb)
          have HF7 := hide (HF6.out.on hb)
          have HM7 := hide (HM6.out.below hb)
          have HZ7 := hide (at_below HZ6.out hb)
          have HD7 := hide (And.intro hi hf)
          have hs7 : w5.heap.size ≤ w6.heap.size := hb.size
          clear hi hf hb HK6 HF6 HM6 HZ6 k3 k4
          have r4 := cell_of_row _ _ 4 _ _ _ HZ7.out
          have r5 := cell_of_row _ _ 5 _ _ _ HZ7.out
          have t4 := frozen_of_row _ _ 4 _ _ HZ7.out
          have t5 := frozen_of_row _ _ 5 _ _ HZ7.out
          simp at r4 r5
          go_upto_region 14 with fail
          have HZ8 := hide (heap_setCell_same _ b 5 _ _ (.slice o6 DD.length c6) (heap_setCell_same w6 b 4 _ _ (.int .i64 DV) HZ7.out))
          have hoff : KOff a5 IT IP IV DD G W b := by
            have h0 := HK0.out.offge (X := b) (by omega)
            have hd := HA6.out.2 b (by omega) h0.2.2.2.1
            have e5 := HA6.out.1
            refine ⟨?_, ?_, ?_, hd, ?_, h0.2.2.2.2.2⟩
            · rw [e5]; exact off_fresh HLf.out.1 (by omega)
            · rw [e5]; exact off_fresh HLf.out.2.1 (by omega)
            · rw [e5]; exact off_fresh HLf.out.2.2 (by omega)
            · rw [e5]; exact h0.2.2.2.2.1
          have HK8 := hide ((HK7.out.setX (p := ⟨b, 4, none⟩) hoff (by simp; omega) (by simp; omega) (.int .i64 DV)).setX (p := ⟨b, 5, none⟩) hoff (by simp; omega) (by simp; omega) (.slice o6 DD.length c6))
          have HF8 := hide ((HF7.out.setNew (p := ⟨b, 4, none⟩) (by simp; omega) (.int .i64 DV)).setNew (p := ⟨b, 5, none⟩) (by simp; omega) (.slice o6 DD.length c6))
          have HM8 := hide ((HM7.out.setO (p := ⟨b, 4, none⟩) HO.out.2.2 (.int .i64 DV)).setO (p := ⟨b, 5, none⟩) HO.out.2.2 (.slice o6 DD.length c6))
          have od6 : Off o6 DD b := off_fresh HD7.out.2 (by omega)
          have HD8 := hide (And.intro ((HD7.out.1.setO (p := ⟨b, 4, none⟩) od6 (.int .i64 DV)).setO (p := ⟨b, 5, none⟩) od6 (.slice o6 DD.length c6)) HD7.out.2)
          have hs8 : w6.heap.size ≤ ((w6.setCell ⟨b, 4, none⟩ (.int .i64 DV)).setCell ⟨b, 5, none⟩ (.slice o6 DD.length c6)).heap.size := by simp only [World.size_setCell]; exact Nat.le_refl _
          clear HK7 HF7 HM7 HZ7 HD7 r4 r5 t4 t5 od6 hoff
          generalize (w6.setCell ⟨b, 4, none⟩ (.int .i64 DV)).setCell ⟨b, 5, none⟩ (.slice o6 DD.length c6) = w7 at *
          refine wp_region_reads (fun w' => w'.heap[K]? = some (boxK a5 Q IT IP IV DV DD G W 79) ∧ w'.heap[b]? = some (.cells #[.int .i64 x.i, .int .i64 x.z, .int .i64 x.s, .slice x.oa x.A.length x.ca, .int .i64 DV, .slice o6 DD.length c6, .int .i64 x.l, .int .i64 x.u] 49)) [0, 1, 2, 3, 4, 5, 6, 7] 1 (by rfl) (by kernel_rfl) (by kernel_rfl) (by kernel_rfl) (fun c d v a w h => by cases d <;> exact h) ?_ ?_
          · exact ⟨at_below HK8.out.box (Below.refl _ _).drew, at_below HZ8.out (Below.refl _ _).drew⟩
          refine wpPureH_step (.pointer (some ⟨K, 0, none⟩)) rfl rfl (fun w' hS => ?_) ?_
          · go_simp
          refine wpPureH_step (.pointer (some ⟨K, 0, none⟩)) rfl rfl (fun w' hS => ?_) ?_
          · go_simp
          refine wpPureH_step (.pointer (some ⟨K, 0, none⟩)) rfl rfl (fun w' hS => ?_) ?_
          · go_simp
          refine wpPureH_step (.pointer (some ⟨K, 5, none⟩)) rfl rfl (fun w' hS => ?_) ?_
          · go_simp
          refine wpPureH_step (.slice (some ⟨Q, 0, none⟩) G.length a5.cg) rfl rfl (fun w' hS => ?_) ?_
          · have k5 : w'.cell? ⟨K, 5, none⟩ = some (.slice (some ⟨Q, 0, none⟩) G.length a5.cg) := by rw [cell_of_row _ _ 5 _ _ _ hS.1]; rfl
            go_simp
          refine wpPureH_step (.int .i64 (q : Int)) rfl rfl (fun w' hS => ?_) ?_
          · go_simp
          refine wpPureH_step (gtV x.i x.z x.s x.oa x.A.length x.ca DV o6 DD.length c6 x.l x.u) rfl rfl (fun w' hS => ?_) ?_
          · have x0 : w'.cell? ⟨b, 0, none⟩ = some (.int .i64 x.i) := by rw [cell_of_row _ _ 0 _ _ _ hS.2]; rfl
            have x1 : w'.cell? ⟨b, 1, none⟩ = some (.int .i64 x.z) := by rw [cell_of_row _ _ 1 _ _ _ hS.2]; rfl
            have x2 : w'.cell? ⟨b, 2, none⟩ = some (.int .i64 x.s) := by rw [cell_of_row _ _ 2 _ _ _ hS.2]; rfl
            have x3 : w'.cell? ⟨b, 3, none⟩ = some (.slice x.oa x.A.length x.ca) := by rw [cell_of_row _ _ 3 _ _ _ hS.2]; rfl
            have x4 : w'.cell? ⟨b, 4, none⟩ = some (.int .i64 DV) := by rw [cell_of_row _ _ 4 _ _ _ hS.2]; rfl
            have x5 : w'.cell? ⟨b, 5, none⟩ = some (.slice o6 DD.length c6) := by rw [cell_of_row _ _ 5 _ _ _ hS.2]; rfl
            have x6 : w'.cell? ⟨b, 6, none⟩ = some (.int .i64 x.l) := by rw [cell_of_row _ _ 6 _ _ _ hS.2]; rfl
            have x7 : w'.cell? ⟨b, 7, none⟩ = some (.int .i64 x.u) := by rw [cell_of_row _ _ 7 _ _ _ hS.2]; rfl
            go_simp
          refine wpPureH_step (.pointer (some ⟨Q, q * 8, none⟩)) rfl rfl (fun w' hS => ?_) ?_
          · go_simp
          refine wpPureH_nil ?_
          have HKd := hide (HK8.out.below (Below.refl _ _).drew)
          have HZd := hide (at_below HZ8.out (Below.refl _ _).drew)
          have HFd := hide (HF8.out.on (Below.refl _ _).drew)
          have HMd := hide (HM8.out.below (Below.refl _ _).drew)
          have HDd := hide (And.intro (HD8.out.1.below (Below.refl _ _).drew) HD8.out.2)
          clear HK8 HZ8 HF8 HM8 HD8
          generalize (World.drew _) = w8 at *
          have g0 := HKd.out.g0 Hq.out
          have g1 := HKd.out.g1 Hq.out
          have g2 := HKd.out.g2 Hq.out
          have g3 := HKd.out.g3 Hq.out
          have g4 := HKd.out.g4 Hq.out
          have g5 := HKd.out.g5 Hq.out
          have g6 := HKd.out.g6 Hq.out
          have g7 := HKd.out.g7 Hq.out
          have f0 := HKd.out.row.frozenAt (q * 8)
          have f1 := HKd.out.row.frozenAt (q * 8 + 1)
          have f2 := HKd.out.row.frozenAt (q * 8 + 2)
          have f3 := HKd.out.row.frozenAt (q * 8 + 3)
          have f4 := HKd.out.row.frozenAt (q * 8 + 4)
          have f5 := HKd.out.row.frozenAt (q * 8 + 5)
          have f6 := HKd.out.row.frozenAt (q * 8 + 6)
          have f7 := HKd.out.row.frozenAt (q * 8 + 7)
          refine one_readyH (i := 8) (by kernel_rfl) rfl rfl (fun J hJ => ?_)
          go_simp
          have HTA : Hid (TapsV w8 (.slice x.oa x.A.length x.ca) x.A ∧ LK B K Q x.oa x.ca x.A) := by
            obtain ⟨⟨t1, t2⟩, t3⟩ := HT6.out
            refine hide ⟨⟨x.oa, x.ca, rfl, fun i p hi => by rw [t3] at hi; simp at hi, t1, t2⟩, ?_, ?_, ?_⟩
            · exact fun k hk => HTf.out k hk
            · exact fun A _ hne => absurd t3 hne
            · exact fun A _ hne => absurd t3 hne
          have HKz := hide (HKd.out.setGate q g { x with v := DV, od := o6, D := DD, cd := c6 } Hq.out HTA.out ⟨HDd.out.1, .new HDd.out.2 (by omega) (by omega) (by omega)⟩)
          have HFz := hide ((((((((HFd.out.setCell (p := ⟨Q, q * 8, none⟩) (.inr rfl) (.int .i64 x.i)).setCell (p := ⟨Q, q * 8 + 1, none⟩) (.inr rfl) (.int .i64 x.z)).setCell (p := ⟨Q, q * 8 + 2, none⟩) (.inr rfl) (.int .i64 x.s)).setCell (p := ⟨Q, q * 8 + 3, none⟩) (.inr rfl) (.slice x.oa x.A.length x.ca)).setCell (p := ⟨Q, q * 8 + 4, none⟩) (.inr rfl) (.int .i64 DV)).setCell (p := ⟨Q, q * 8 + 5, none⟩) (.inr rfl) (.slice o6 DD.length c6)).setCell (p := ⟨Q, q * 8 + 6, none⟩) (.inr rfl) (.int .i64 x.l)).setCell (p := ⟨Q, q * 8 + 7, none⟩) (.inr rfl) (.int .i64 x.u))
          have HMz := hide ((((((((HMd.out.setO (p := ⟨Q, q * 8, none⟩) HO.out.2.1 (.int .i64 x.i)).setO (p := ⟨Q, q * 8 + 1, none⟩) HO.out.2.1 (.int .i64 x.z)).setO (p := ⟨Q, q * 8 + 2, none⟩) HO.out.2.1 (.int .i64 x.s)).setO (p := ⟨Q, q * 8 + 3, none⟩) HO.out.2.1 (.slice x.oa x.A.length x.ca)).setO (p := ⟨Q, q * 8 + 4, none⟩) HO.out.2.1 (.int .i64 DV)).setO (p := ⟨Q, q * 8 + 5, none⟩) HO.out.2.1 (.slice o6 DD.length c6)).setO (p := ⟨Q, q * 8 + 6, none⟩) HO.out.2.1 (.int .i64 x.l)).setO (p := ⟨Q, q * 8 + 7, none⟩) HO.out.2.1 (.int .i64 x.u))
          refine hJ _ _ ?_ ?_
          · have hne' : Q ≠ K := fun e => HKd.out.ne e.symm
            have hnb : Q ≠ b := by omega
            exact ⟨(heap_setO (heap_setO (heap_setO (heap_setO (heap_setO (heap_setO (heap_setO (heap_setO HKd.out.box (p := ⟨Q, q * 8, none⟩) hne' (.int .i64 x.i)) (p := ⟨Q, q * 8 + 1, none⟩) hne' (.int .i64 x.z)) (p := ⟨Q, q * 8 + 2, none⟩) hne' (.int .i64 x.s)) (p := ⟨Q, q * 8 + 3, none⟩) hne' (.slice x.oa x.A.length x.ca)) (p := ⟨Q, q * 8 + 4, none⟩) hne' (.int .i64 DV)) (p := ⟨Q, q * 8 + 5, none⟩) hne' (.slice o6 DD.length c6)) (p := ⟨Q, q * 8 + 6, none⟩) hne' (.int .i64 x.l)) (p := ⟨Q, q * 8 + 7, none⟩) hne' (.int .i64 x.u)), (heap_setO (heap_setO (heap_setO (heap_setO (heap_setO (heap_setO (heap_setO (heap_setO HZd.out (p := ⟨Q, q * 8, none⟩) hnb (.int .i64 x.i)) (p := ⟨Q, q * 8 + 1, none⟩) hnb (.int .i64 x.z)) (p := ⟨Q, q * 8 + 2, none⟩) hnb (.int .i64 x.s)) (p := ⟨Q, q * 8 + 3, none⟩) hnb (.slice x.oa x.A.length x.ca)) (p := ⟨Q, q * 8 + 4, none⟩) hnb (.int .i64 DV)) (p := ⟨Q, q * 8 + 5, none⟩) hnb (.slice o6 DD.length c6)) (p := ⟨Q, q * 8 + 6, none⟩) hnb (.int .i64 x.l)) (p := ⟨Q, q * 8 + 7, none⟩) hnb (.int .i64 x.u))⟩
          have hxx : ({ x with v := DV, od := o6, D := DD, cd := c6 } : GT).p = ⟨g.i, g.z, g.s, [], DV, DD, 9, m + 100⟩ := by
            have hx := HX0.out
            rw [HGX.out] at hx
            simp only [GT.p, GP.mk.injEq] at hx ⊢
            exact ⟨hx.1, hx.2.1, hx.2.2.1, hx.2.2.2.1, trivial, trivial, hx.2.2.2.2.2.2.1, hx.2.2.2.2.2.2.2⟩
          have HXX := hide hxx
          clear hJ J g0 g1 g2 g3 g4 g5 g6 g7 f0 f1 f2 f3 f4 f5 f6 f7 HKd HFd HMd HDd HZd hxx
          generalize ((((((((w8.setCell ⟨Q, q * 8, none⟩ (.int .i64 x.i)).setCell ⟨Q, q * 8 + 1, none⟩ (.int .i64 x.z)).setCell ⟨Q, q * 8 + 2, none⟩ (.int .i64 x.s)).setCell ⟨Q, q * 8 + 3, none⟩ (.slice x.oa x.A.length x.ca)).setCell ⟨Q, q * 8 + 4, none⟩ (.int .i64 DV)).setCell ⟨Q, q * 8 + 5, none⟩ (.slice o6 DD.length c6)).setCell ⟨Q, q * 8 + 6, none⟩ (.int .i64 x.l)).setCell ⟨Q, q * 8 + 7, none⟩ (.int .i64 x.u)) = wz at *
          refine wpAnyH_done (by kernel_rfl) ?_ _
          go_wp2_with fail
          go_ret2
          have hr0 : RE = 0 := HRE2.out
          exact ⟨⟨RE, ID, od, cd, rfl, by rw [if_pos hr0], by rw [hr0]; rfl, ⟨HMz.out, HMf.out.mono (by omega)⟩, fun h => absurd hr0 h, fun _ => ⟨_, _, by rw [← HDE.out.1, ← HDE.out.2]; exact HXX.out, by rw [← HDE.out.1, ← HDE.out.2]; exact HKz.out⟩⟩, HFz.out⟩
        · have hE2' : ¬ E2 = 0 := by simpa using hE2
          go_wp2_with fail
          go_ret2
          have hr : ¬ RE = 0 := by rw [HRE2.out]; exact hE2'
          exact ⟨⟨RE, [], none, 0, rfl, by rw [if_neg hr], by rw [HRE2.out]; rfl, ⟨⟨none, 0, rfl, fun i p h => by simp at h, by simp, fun _ => rfl⟩, fun k hk => by simp [Value.ownBlock] at hk⟩, fun _ => HK3.out.below ((Below.refl w2.heap.size w2).alloc (Nat.le_refl _) _), fun h => absurd h hr⟩, .ofBelow (HA3.out.trans (((Below.refl w2.heap.size w2).alloc (Nat.le_refl _) _).mono HA3.out.size))⟩
      · have hE' : ¬ E1 = 0 := by simpa using hE
        have hre := HRE.out
        rw [if_neg hE'] at hre
        have hr : ¬ RE = 0 := by rw [hre]; exact hE'
        have HRE2 := hide hre
        clear hre HRE
        go_wp2_with fail
        go_ret2
        exact ⟨⟨RE, [], none, 0, rfl, by rw [if_neg hr], by rw [HRE2.out]; rfl, ⟨⟨none, 0, rfl, fun i p h => by simp at h, by simp, fun _ => rfl⟩, fun k hk => by simp [Value.ownBlock] at hk⟩, fun _ => HK2.out, fun h => absurd h hr⟩, .ofBelow HA2.out⟩

end Go.Proofs.YtcjfmbeemdcklaaGreat

/-
  'Sync' (package station).
-/
namespace Go.Proofs.YtcjfmbeemdcklaaGreat

open Go.RowKit

def gSync (g : GP) (v : Int) (D : List Int) (m : Int) : GP := ⟨g.i, g.z, g.s, [], v, D, 9, m + 100⟩

/-- what syncing says, of a station that is right -/
def syncR (T : List TK) (P : List TP) (V : List Int) (dv : Int) (D : List Int) (L : List GP) (W : List VW) (n m : Int) : Int := if wi n 0 2 = false then 3 else syncK T P V dv D W (gAt L n) m

def syncS (T : List TK) (P : List TP) (V : List Int) (dv : Int) (D : List Int) (G : List GT) (W : List VW) (n m : Int) : Int := if chkS T P V dv D G W = 0 then syncR T P V dv D (G.map GT.p) W n m else chkS T P V dv D G W

/-- what is told -/
def toldR (T : List TK) (P : List TP) (V : List Int) (L : List GP) (n E : Int) : List TP := if E = 0 then intoD T P V (gAt L n).A else []

theorem denA_len : ∀ (M : List TP) (v : Int) (D : List Int), D.length ≤ 60 → (denA M v D).2.length ≤ 60
  | [], v, D, h => h
  | p :: M, v, D, h => by
    rw [denA]
    by_cases hE : addE v D p.a = 0
    · rw [if_pos hE]
      exact denA_len M _ _ (by rw [addI_len]; have := add_room hE; omega)
    · rw [if_neg hE]
      exact denA_len M v D h

theorem bldA_lensP (T : List TK) : ∀ (L P : List TP) (V : List Int) (D : List TP), (bldA T L P V D).2.1.length ≤ P.length + L.length ∧ (bldA T L P V D).2.2.1.length ≤ V.length + L.length
  | [], P, V, D => by simp [bldA]
  | p :: L, P, V, D => by
    rw [bldA]
    by_cases h : bldE T P V p = 0
    · rw [if_pos h]
      have h1 := bldA_lensP T L (bldP T P V p) (bldV T P V p) (bldD T P V D p)
      have h2 : (bldP T P V p).length ≤ P.length + 1 := by
        unfold bldP
        split
        · simp
        · omega
      have h3 : (bldV T P V p).length ≤ V.length + 1 := by
        unfold bldV
        split
        · simp
        · omega
      simp only [List.length_cons]
      omega
    · rw [if_neg h]
      simp only [List.length_cons]
      omega

theorem into_lnS (T : List TK) (P : List TP) (V : List Int) (M : List TP) (hT : T.length ≤ 12) (hP : P.length ≤ 60) (hM : M.length ≤ 12) : LensOk (intoT T P V M) (intoP T P V M) (intoV T P V M) := by
  have h := bldA_lensP T (srt (P ++ M)) [] [] []
  have h2 : (srt (P ++ M)).length = P.length + M.length := by simp [srt]
  simp only [List.length_nil] at h
  refine ⟨?_, ?_, ?_⟩
  · unfold intoT
    split
    · omega
    · simp
  · unfold intoP intoB
    split
    · omega
    · simp
  · unfold intoV intoB
    split
    · omega
    · simp

set_option maxHeartbeats 6400000 in
set_option maxRecDepth 100000 in
theorem sync1_any (K Q B : Nat) (a : KA) (T : List TK) (P : List TP) (V : List Int) (dv : Int) (D : List Int) (G : List GT) (W : List VW) (b2 b3 vb : Nat) (n m : Int) (v0 : Value) (w : World) (hK : Ks w K Q B a T P V dv D G W) (hG : G.length = 3) (hg : ∀ (q : Nat) g, G[q]? = some g → g.A.length ≤ 12 ∧ g.D.length ≤ 12 ∧ 0 ≤ g.s ∧ g.s ≤ 99) (hl : LensOk T P V) (hlP : P.length ≤ 60) (hlD : D.length ≤ 12) (hlW : W.length ≤ 9223372036854775807)
    (h2 : w.heap[b2]? = some (.cells #[.int .i64 n] 3)) (h3 : w.heap[b3]? = some (.cells #[.int .i64 m] 3)) (hv : w.heap[vb]? = some (.cells #[v0] 23)) (hvb : vb < B) :
    Calls Tryz.prog 48 #[.pointer (some ⟨K, 0, none⟩), .pointer (some ⟨b2, 0, none⟩), .pointer (some ⟨b3, 0, none⟩), .pointer (some ⟨vb, 0, none⟩)] w fun e w' => ∃ E o c, E = syncR T P V dv D (G.map GT.p) W n m ∧ e = .returned (.int .i64 E) ∧ w'.heap[vb]? = some (.cells #[.slice o (toldR T P V (G.map GT.p) n E).length c] 23) ∧ (TapsV w' (.slice o (toldR T P V (G.map GT.p) n E).length c) (toldR T P V (G.map GT.p) n E) ∧ Fresh w.heap.size (.slice o (toldR T P V (G.map GT.p) n E).length c)) ∧ Kq (fun k => k = K ∨ k = Q ∨ k = vb) w w' ∧ (E ≠ 0 → Ks w' K Q B a T P V dv D G W) ∧
      (E = 0 → ∃ a' G', Ks w' K Q B a' (intoT T P V (gAt (G.map GT.p) n).A) (intoP T P V (gAt (G.map GT.p) n).A) (intoV T P V (gAt (G.map GT.p) n).A) (denA (toldR T P V (G.map GT.p) n 0) dv D).1 (denA (toldR T P V (G.map GT.p) n 0) dv D).2 G' W ∧ G'.map GT.p = (G.map GT.p).set n.toNat (gSync (gAt (G.map GT.p) n) (denA (toldR T P V (G.map GT.p) n 0) dv D).1 (denA (toldR T P V (G.map GT.p) n 0) dv D).2 m) ∧ ∀ (q : Nat) g, G'[q]? = some g → g.A.length ≤ 13 ∧ g.D.length ≤ 60) := by
  have hbk := hK.bk
  have hbq := hK.qlt
  have hvl := (Array.getElem?_eq_some_iff.1 hv).1
  have r2 := cell_of_row _ _ 0 _ _ _ h2
  have r3 := cell_of_row _ _ 0 _ _ _ h3
  simp at r2 r3
  have HV := hide hv
  cases hn : wi n 0 2
  · have HC := hide (keeperSync_range K n m w hn)
    have HR : Hid ((3 : Int) = syncR T P V dv D (G.map GT.p) W n m) := hide (by rw [syncR, if_pos hn])
    have HK := hide hK
    have rv := cell_of_row _ _ 0 _ _ _ hv
    have sv := frozen_of_row _ _ 0 _ _ hv
    simp at rv
    clear hK hv h2 h3 hg hG
    go_enter Tryz.func48, Tryz.ntmps48
    go_wp2_with fail
    refine HC.out.mono ?_
    rintro e w1 ⟨rfl, hw⟩
    obtain rfl := hw.symm
    go_wp2_with fail
    go_ret
    have ht : toldR T P V (G.map GT.p) n 3 = [] := by rw [toldR, if_neg (by decide)]
    exact ⟨3, none, 0, HR.out, rfl, by rw [ht]; exact heap_setCell_same _ vb 0 _ _ _ HV.out, by rw [ht]; exact ⟨⟨none, 0, rfl, fun i p h => by simp at h, by simp, fun _ => rfl⟩, fun k hk => by simp [Value.ownBlock] at hk⟩, (Kq.refl _ _).setCell (p := ⟨vb, 0, none⟩) (.inr (.inr rfl)) _, fun _ => HK.out.setB (p := ⟨vb, 0, none⟩) hvb _, fun h => absurd h (by decide)⟩
  · have hnn : 0 ≤ n ∧ n ≤ 2 := (wi_iff n 0 2).1 hn
    obtain ⟨q, rfl⟩ : ∃ q : Nat, n = (q : Int) := ⟨n.toNat, by omega⟩
    have hq3 : q < 3 := by omega
    obtain ⟨g, hgq⟩ : ∃ g, G[q]? = some g := ⟨G[q]'(by omega), by simp⟩
    obtain ⟨hA, hgD, -, -⟩ := hg q g hgq
    have HC := hide (keeperSync_any K Q B a T P V dv D G W q g m w hK hgq hq3 hl hlP hA (by omega) hlD hlW)
    have hgp := gAt_map hgq
    have HGP := hide hgp
    have HGL := hide (fun (x : GT) (hx : x.A.length ≤ 13 ∧ x.D.length ≤ 60) (k : Nat) (y : GT) (hy : (G.set q x)[k]? = some y) => show y.A.length ≤ 13 ∧ y.D.length ≤ 60 from by
      rw [List.getElem?_set] at hy
      split at hy
      · split at hy
        · cases hy; exact hx
        · cases hy
      · have := hg k y hy
        omega)
    clear hK hv h2 h3 hg hgp hgq hG hnn
    go_enter Tryz.func48, Tryz.ntmps48
    go_wp2_with fail
    refine HC.out.mono ?_
    rintro e w1 ⟨⟨E, M, o, c, hE, hM, rfl, hT, hk1, hk2⟩, hkq⟩
    have HKQ := hide hkq
    have HE := hide (And.intro hE hM)
    have HT := hide hT
    have H12 := hide (And.intro hk1 hk2)
    have hv1 := hkq.obj HV.out (fun h => by rcases h with h | h <;> omega)
    have HV1 := hide hv1
    have rv := cell_of_row _ _ 0 _ _ _ hv1
    have sv := frozen_of_row _ _ 0 _ _ hv1
    simp at rv
    clear hkq hE hM hT hk1 hk2 hv1 HC r2 r3
    go_wp2_with fail
    go_ret
    have hM : M = toldR T P V (G.map GT.p) q E := by rw [toldR, HGP.out]; exact HE.out.2
    have hE : E = syncR T P V dv D (G.map GT.p) W q m := by rw [syncR, if_neg (by rw [hn]; decide), HGP.out]; exact HE.out.1
    refine ⟨E, o, c, hE, rfl, by rw [← hM]; exact heap_setCell_same _ vb 0 _ _ _ HV1.out, by rw [← hM]; exact ⟨HT.out.1.set HT.out.2 (p := ⟨vb, 0, none⟩) hvl _, HT.out.2⟩, (HKQ.out.mono (fun k _ h => h.elim .inl (fun h => .inr (.inl h)))).setCell (p := ⟨vb, 0, none⟩) (.inr (.inr rfl)) _, fun h => (H12.out.1 h).setB (p := ⟨vb, 0, none⟩) hvb _, fun h => ?_⟩
    obtain ⟨a', x, hx, hk⟩ := H12.out.2 h
    have hM0 : toldR T P V (G.map GT.p) q 0 = M := by rw [hM, h]
    rw [HGP.out, hM0]
    have hgA : g.p.A = g.A := rfl
    have hxA : x.A = [] := congrArg GP.A hx
    have hxD : x.D = (denA M dv D).2 := congrArg GP.D hx
    have hset : ∀ x : GT, (G.set q x).map GT.p = (G.map GT.p).set q x.p := fun x => List.map_set
    refine ⟨a', _, hk.setB (p := ⟨vb, 0, none⟩) hvb _, ?_, HGL.out x ⟨by rw [hxA]; simp, by rw [hxD]; exact denA_len M dv D (by omega)⟩⟩
    rw [hset, hx]
    rfl

set_option maxRecDepth 100000 in
theorem enterY1 (args : Array Value) (W : World) : (callFunc 48 args).run Tryz.prog W = .ok (.enter 48 args) W := by
  simp [go_sem]

set_option maxHeartbeats 12800000 in
set_option maxRecDepth 100000 in
theorem stationSync_any (T : List TK) (P : List TP) (V : List Int) (dv : Int) (D : List Int) (G : List GT) (W : List VW) (o1 o2 o3 od og ov : Option Addr) (c1 c2 c3 cd cg cv : Nat) (n m : Int) (w : World) (hs : StW w o1 o2 o3 c1 c2 c3 T P V od cd D og cg G ov cv W) :
    Calls Tryz.prog 12 #[stV o1 o2 o3 T.length c1 P.length c2 V.length c3 dv od D.length cd og G.length cg ov W.length cv, .int .i64 n, .int .i64 m] w fun e w' => (∃ v E M o c, E = syncS T P V dv D G W n m ∧ M = (if chkS T P V dv D G W = 0 then (toldR T P V (G.map GT.p) n E) else []) ∧ e = .returned (.tuple #[v, .slice o M.length c, .int .i64 E]) ∧ (TapsV w' (.slice o M.length c) M ∧ Fresh w.heap.size (.slice o M.length c)) ∧ (E ≠ 0 → v = stV none none none 0 0 0 0 0 0 0 none 0 0 none 0 0 none 0 0) ∧
      (E = 0 → ∃ G', G'.map GT.p = (G.map GT.p).set n.toNat (gSync (gAt (G.map GT.p) n) (denA (toldR T P V (G.map GT.p) n 0) dv D).1 (denA (toldR T P V (G.map GT.p) n 0) dv D).2 m) ∧ StR w' w.heap.size v (intoT T P V (gAt (G.map GT.p) n).A) (intoP T P V (gAt (G.map GT.p) n).A) (intoV T P V (gAt (G.map GT.p) n).A) (denA (toldR T P V (G.map GT.p) n 0) dv D).1 (denA (toldR T P V (G.map GT.p) n 0) dv D).2 G' W)) ∧ Below w.heap.size w w' := by
  have HB := hide ((((((Blks.nil w).more (.cells #[.slice o1 T.length c1, .slice o2 P.length c2, .slice o3 V.length c3, .int .i64 dv, .slice od D.length cd, .slice og G.length cg, .slice ov W.length cv] 32) (by simp)).more (.cells #[.int .i64 n] 3) (by simp)).more (.cells #[.int .i64 m] 3) (by simp)).more (.cells #[.slice none 0 0, .slice none 0 0, .slice none 0 0, .int .i64 0, .slice none 0 0, .slice none 0 0, .slice none 0 0] 32) (by simp)).more (.cells #[.slice none 0 0] 23) (by simp))
  have HS := hide (hs.below HB.out.2.2)
  have hz : (((((w.alloc (.cells #[.slice o1 T.length c1, .slice o2 P.length c2, .slice o3 V.length c3, .int .i64 dv, .slice od D.length cd, .slice og G.length cg, .slice ov W.length cv] 32)).alloc (.cells #[.int .i64 n] 3)).alloc (.cells #[.int .i64 m] 3)).alloc (.cells #[.slice none 0 0, .slice none 0 0, .slice none 0 0, .int .i64 0, .slice none 0 0, .slice none 0 0, .slice none 0 0] 32)).alloc (.cells #[.slice none 0 0] 23)).heap.size = w.heap.size + 1 + 1 + 1 + 1 + 1 := by simp
  obtain ⟨E, hE⟩ : ∃ E, E = syncS T P V dv D G W n m := ⟨_, rfl⟩
  have hE0 : chkS T P V dv D G W = 0 → E = syncR T P V dv D (G.map GT.p) W n m := fun h => by rw [hE, syncS, if_pos h]
  have hEE : chkS T P V dv D G W ≠ 0 → E = chkS T P V dv D G W := fun h => by rw [hE, syncS, if_neg h]
  have HC := hide (changed_any 48 #[.pointer (some ⟨w.heap.size + 1, 0, none⟩), .pointer (some ⟨w.heap.size + 1 + 1, 0, none⟩), .pointer (some ⟨w.heap.size + 1 + 1 + 1 + 1, 0, none⟩)] enterY1 (fun k => k = w.heap.size + 1 + 1 + 1 + 1) T P V dv D G W o1 o2 o3 od og ov c1 c2 c3 cd cg cv _ HS.out (fun k h => by rw [h]; simp)
    (fun E' X => E' = E ∧ (∃ o c, X.heap[w.heap.size + 1 + 1 + 1 + 1]? = some (.cells #[.slice o (toldR T P V (G.map GT.p) n E).length c] 23) ∧ TapsV X (.slice o (toldR T P V (G.map GT.p) n E).length c) (toldR T P V (G.map GT.p) n E) ∧ Fresh (w.heap.size + 1 + 1 + 1 + 1 + 1 + 1 + 1) (.slice o (toldR T P V (G.map GT.p) n E).length c))) (fun _ T' P' V' dv' D' G' W' X => E = 0 ∧ (∃ o c, X.heap[w.heap.size + 1 + 1 + 1 + 1]? = some (.cells #[.slice o (toldR T P V (G.map GT.p) n E).length c] 23) ∧ TapsV X (.slice o (toldR T P V (G.map GT.p) n E).length c) (toldR T P V (G.map GT.p) n E) ∧ Fresh (w.heap.size + 1 + 1 + 1 + 1 + 1 + 1 + 1) (.slice o (toldR T P V (G.map GT.p) n E).length c)) ∧ T' = intoT T P V (gAt (G.map GT.p) n).A ∧ P' = intoP T P V (gAt (G.map GT.p) n).A ∧ V' = intoV T P V (gAt (G.map GT.p) n).A ∧ dv' = (denA (toldR T P V (G.map GT.p) n 0) dv D).1 ∧ D' = (denA (toldR T P V (G.map GT.p) n 0) dv D).2 ∧ G'.map GT.p = (G.map GT.p).set n.toNat (gSync (gAt (G.map GT.p) n) (denA (toldR T P V (G.map GT.p) n 0) dv D).1 (denA (toldR T P V (G.map GT.p) n 0) dv D).2 m) ∧ W' = W)
    (fun _ _ p u hp h => ⟨h.1, h.2.imp fun o ho => ho.imp fun c hc => ⟨heap_setO hc.1 (by rw [hp]; simp; try omega) u, hc.2.1.set hc.2.2 (by rw [hp]; simp; try omega) u, hc.2.2⟩⟩) (fun _ _ _ _ _ _ _ _ _ p u hp h => ⟨h.1, h.2.1.imp fun o ho => ho.imp fun c hc => ⟨heap_setO hc.1 (by rw [hp]; simp; try omega) u, hc.2.1.set hc.2.2 (by rw [hp]; simp; try omega) u, hc.2.2⟩, h.2.2⟩) (fun h0 w1 K Q a G' hm hk hb => by
      obtain ⟨p1, p2, p3, p4, -, p6⟩ := chkS_right h0
      obtain ⟨q1, q2, q3, -, -⟩ := chkL_right p1
      have q4 := (chkD_right p2).2.2.1
      have hl3 : G'.length = 3 := by have := congrArg List.length hm; simp at this; omega
      have hgl := gates_lens p4 hm
      have hkk := hk.lt
      have hkb := hk.bk
      have hw1 : w.heap.size + 1 + 1 + 1 + 1 + 1 + 1 + 1 ≤ w1.heap.size := by simp at hkb; omega
      refine (sync1_any K Q _ a T P V dv D G' W (w.heap.size + 1) (w.heap.size + 1 + 1) (w.heap.size + 1 + 1 + 1 + 1) n m _ w1 hk hl3 hgl (LensOk.of p1) q2 q4 (by omega) (at_below (HB.out.1 1 _ rfl) hb) (at_below (HB.out.1 2 _ rfl) hb) (at_below (HB.out.1 4 _ rfl) hb) (by simp; try omega)).mono ?_
      rintro e w2 ⟨E', o, c, hE', rfl, hv, hT, hkq, he, ho⟩
      rw [hm] at hE' ho hv hT
      have hRR : E' = E := by rw [hE', hE0 h0]
      subst hRR
      refine ⟨_, rfl, hkq, fun _ => ⟨rfl, o, c, hv, hT.1, hT.2.mono hw1⟩, fun h => ?_⟩
      obtain ⟨a', G'', hk', hm', hl'⟩ := ho h
      refine ⟨a', _, _, _, _, _, G'', _, hk', ?_, h, ⟨o, c, hv, hT.1, hT.2.mono hw1⟩, rfl, rfl, rfl, rfl, rfl, hm', rfl⟩
      have hA : (gAt (G.map GT.p) n).A.length ≤ 12 := by
        unfold gAt
        rw [← hm]
        simp only [List.getD, List.getElem?_map]
        cases hx : G'[n.toNat]? with
        | none => simp [gp0]
        | some x =>
          have := (hgl _ x hx).1
          exact this
      refine ⟨into_lnS T P V _ q1 q2 hA, ?_, fun g hg => ?_, ?_, by omega⟩
      · have := denA_len (toldR T P V (G.map GT.p) n 0) dv D (by omega)
        omega
      · obtain ⟨i, hi⟩ := List.mem_iff_getElem?.1 hg
        have := hl' i g hi
        exact ⟨by omega, by omega⟩
      · have := congrArg List.length hm'
        simp at this
        omega))
  rw [hz] at HC
  have HE0 := hide (And.intro hE0 hEE)
  have HE := hide hE
  clear hs hz hE0 hEE hE
  obtain ⟨M, hM⟩ : ∃ M, M = (if chkS T P V dv D G W = 0 then (toldR T P V (G.map GT.p) n E) else []) := ⟨_, rfl⟩
  have HM := hide hM
  clear hM
  suffices h : Calls Tryz.prog 12 #[stV o1 o2 o3 T.length c1 P.length c2 V.length c3 dv od D.length cd og G.length cg ov W.length cv, .int .i64 n, .int .i64 m] w fun e w' => (∃ v o c, e = .returned (.tuple #[v, .slice o M.length c, .int .i64 E]) ∧ (TapsV w' (.slice o M.length c) M ∧ Fresh w.heap.size (.slice o M.length c)) ∧ (E ≠ 0 → v = stV none none none 0 0 0 0 0 0 0 none 0 0 none 0 0 none 0 0) ∧ (E = 0 → ∃ G', G'.map GT.p = (G.map GT.p).set n.toNat (gSync (gAt (G.map GT.p) n) (denA (toldR T P V (G.map GT.p) n 0) dv D).1 (denA (toldR T P V (G.map GT.p) n 0) dv D).2 m) ∧ StR w' w.heap.size v (intoT T P V (gAt (G.map GT.p) n).A) (intoP T P V (gAt (G.map GT.p) n).A) (intoV T P V (gAt (G.map GT.p) n).A) (denA (toldR T P V (G.map GT.p) n 0) dv D).1 (denA (toldR T P V (G.map GT.p) n 0) dv D).2 G' W)) ∧ Below w.heap.size w w' by
    refine h.mono ?_
    rintro e w' ⟨⟨v, o, c, he, hT, h1, h2⟩, hb⟩
    exact ⟨⟨v, E, M, o, c, HE.out, HM.out, he, hT, h1, h2⟩, hb⟩
  have k0 := HB.out.cell 0 0 w.heap.size _ _ _ rfl rfl rfl
  have k1 := HB.out.cell 0 1 w.heap.size _ _ _ rfl rfl rfl
  have k2 := HB.out.cell 0 2 w.heap.size _ _ _ rfl rfl rfl
  have k3 := HB.out.cell 0 3 w.heap.size _ _ _ rfl rfl rfl
  have k4 := HB.out.cell 0 4 w.heap.size _ _ _ rfl rfl rfl
  have k5 := HB.out.cell 0 5 w.heap.size _ _ _ rfl rfl rfl
  have k6 := HB.out.cell 0 6 w.heap.size _ _ _ rfl rfl rfl
  go_enter Tryz.func12, Tryz.ntmps12
  go_wp2_with fail
  refine HC.out.mono ?_
  rintro e w1 ⟨⟨v, E', rfl, h1, h2, h3⟩, hkq⟩
  have hEE : E' = E ∧ ∃ o c, w1.heap[w.heap.size + 1 + 1 + 1 + 1]? = some (.cells #[.slice o M.length c] 23) ∧ TapsV w1 (.slice o M.length c) M ∧ Fresh (w.heap.size + 1 + 1 + 1 + 1 + 1 + 1 + 1) (.slice o M.length c) := by
    rw [HM.out]
    by_cases h0 : chkS T P V dv D G W = 0
    · rw [if_pos h0]
      by_cases hE0 : E' = 0
      · obtain ⟨a, T', P', V', dv', D', G', W', -, hk, hv, -⟩ := (h3 h0).2 hE0
        exact ⟨by rw [hE0, hk], hv⟩
      · exact (h3 h0).1 hE0
    · rw [if_neg h0]
      have he := h1 h0
      refine ⟨he.1.trans (HE0.out.2 h0).symm, none, 0, ?_, ⟨none, 0, rfl, fun i p h => by simp at h, by simp, fun _ => rfl⟩, fun k hk => by simp [Value.ownBlock] at hk⟩
      exact (he.2.block _ (by omega)).trans (HB.out.1 4 _ rfl)
  obtain ⟨hE1, o, c, hV1, hT1, hF1⟩ := hEE
  subst hE1
  have h4 : E' = 0 → ∃ G', G'.map GT.p = (G.map GT.p).set n.toNat (gSync (gAt (G.map GT.p) n) (denA (toldR T P V (G.map GT.p) n 0) dv D).1 (denA (toldR T P V (G.map GT.p) n 0) dv D).2 m) ∧ StR w1 (w.heap.size + 1 + 1 + 1 + 1 + 1 + 1 + 1) v (intoT T P V (gAt (G.map GT.p) n).A) (intoP T P V (gAt (G.map GT.p) n).A) (intoV T P V (gAt (G.map GT.p) n).A) (denA (toldR T P V (G.map GT.p) n 0) dv D).1 (denA (toldR T P V (G.map GT.p) n 0) dv D).2 G' W := by
    intro h0
    by_cases hc : chkS T P V dv D G W = 0
    · obtain ⟨a, T', P', V', dv', D', G', W', hr, -, -, rfl, rfl, rfl, rfl, rfl, hm, rfl⟩ := (h3 hc).2 h0
      exact ⟨G', hm, hr⟩
    · have := (h1 hc).1
      omega
  have hv : ∃ x1 x2 x3 n1 y1 n2 y2 n3 y3 xv x4 n4 y4 x5 n5 y5 x6 n6 y6, v = stV x1 x2 x3 n1 y1 n2 y2 n3 y3 xv x4 n4 y4 x5 n5 y5 x6 n6 y6 := by
    by_cases h0 : E' = 0
    · obtain ⟨G', -, hr⟩ := h4 h0
      exact hr.form
    · exact ⟨_, _, _, _, _, _, _, _, _, _, _, _, _, _, _, _, _, _, _, h2 h0⟩
  obtain ⟨x1, x2, x3, n1, y1, n2, y2, n3, y3, xv, x4, n4, y4, x5, n5, y5, x6, n6, y6, rfl⟩ := hv
  have H2 := hide h2
  have H4 := hide h4
  have HV1 := hide hV1
  have HT1 := hide hT1
  have HF1 := hide hF1
  have HZ1 := hide (hkq.obj (HB.out.1 3 _ rfl) (by omega))
  have hkb := hkq.below (B := w.heap.size) (by have := HB.out.2.2.size; exact this) (fun k hk h => by omega)
  have HBw := hide (HB.out.2.2.trans hkb)
  have hsz : w.heap.size + 1 + 1 + 1 + 1 + 1 ≤ w1.heap.size := by have := hkq.size; simp at this; omega
  clear h1 h2 h3 h4 hV1 hT1 hF1 hkq hkb HB HS HC HE0 k0 k1 k2 k3 k4 k5 k6
  have HA := hide ((Below.refl w1.heap.size w1).alloc (Nat.le_refl _) (.cells #[.slice x1 n1 y1, .slice x2 n2 y2, .slice x3 n3 y3, .int .i64 xv, .slice x4 n4 y4, .slice x5 n5 y5, .slice x6 n6 y6] 32))
  have HN := hide (heap_alloc_new w1 (.cells #[.slice x1 n1 y1, .slice x2 n2 y2, .slice x3 n3 y3, .int .i64 xv, .slice x4 n4 y4, .slice x5 n5 y5, .slice x6 n6 y6] 32))
  have HV2 := hide (at_below HV1.out HA.out)
  have HT2 := hide (HT1.out.below HA.out)
  have HZ2 := hide (at_below HZ1.out HA.out)
  have HB2 := hide (HBw.out.trans (HA.out.mono (by omega)))
  have H42 := hide (fun h => (H4.out h).imp fun _ hm => And.intro hm.1 (hm.2.below HA.out))
  clear HV1 HZ1 HBw H4 HT1
  go_upto_region 3 with fail
  generalize w1.alloc (.cells #[.slice x1 n1 y1, .slice x2 n2 y2, .slice x3 n3 y3, .int .i64 xv, .slice x4 n4 y4, .slice x5 n5 y5, .slice x6 n6 y6] 32) = w2 at *
  refine wp_region_reads (fun w' => w'.heap[w1.heap.size]? = some (.cells #[.slice x1 n1 y1, .slice x2 n2 y2, .slice x3 n3 y3, .int .i64 xv, .slice x4 n4 y4, .slice x5 n5 y5, .slice x6 n6 y6] 32) ∧ w'.heap[w.heap.size + 1 + 1 + 1 + 1]? = some (.cells #[.slice o M.length c] 23)) [0, 1, 2] 3 (by rfl) (by kernel_rfl) (by kernel_rfl) (by kernel_rfl) (fun c d v a w h => by cases d <;> exact h) ?_ ?_
  · exact ⟨at_below HN.out (Below.refl _ _).drew, at_below HV2.out (Below.refl _ _).drew⟩
  refine wpPureH_step (stV x1 x2 x3 n1 y1 n2 y2 n3 y3 xv x4 n4 y4 x5 n5 y5 x6 n6 y6) rfl rfl (fun w' hS => ?_) ?_
  · have q0 : w'.cell? ⟨w1.heap.size, 0, none⟩ = some (.slice x1 n1 y1) := by rw [cell_of_row _ _ 0 _ _ _ hS.1]; rfl
    have q1 : w'.cell? ⟨w1.heap.size, 1, none⟩ = some (.slice x2 n2 y2) := by rw [cell_of_row _ _ 1 _ _ _ hS.1]; rfl
    have q2 : w'.cell? ⟨w1.heap.size, 2, none⟩ = some (.slice x3 n3 y3) := by rw [cell_of_row _ _ 2 _ _ _ hS.1]; rfl
    have q3 : w'.cell? ⟨w1.heap.size, 3, none⟩ = some (.int .i64 xv) := by rw [cell_of_row _ _ 3 _ _ _ hS.1]; rfl
    have q4 : w'.cell? ⟨w1.heap.size, 4, none⟩ = some (.slice x4 n4 y4) := by rw [cell_of_row _ _ 4 _ _ _ hS.1]; rfl
    have q5 : w'.cell? ⟨w1.heap.size, 5, none⟩ = some (.slice x5 n5 y5) := by rw [cell_of_row _ _ 5 _ _ _ hS.1]; rfl
    have q6 : w'.cell? ⟨w1.heap.size, 6, none⟩ = some (.slice x6 n6 y6) := by rw [cell_of_row _ _ 6 _ _ _ hS.1]; rfl
    go_simp
  refine wpPureH_step (.slice o M.length c) rfl rfl (fun w' hS => ?_) ?_
  · have q0 : w'.cell? ⟨w.heap.size + 1 + 1 + 1 + 1, 0, none⟩ = some (.slice o M.length c) := by rw [cell_of_row _ _ 0 _ _ _ hS.2]; rfl
    go_simp
  refine wpPureH_step (.int .i64 E') rfl rfl (fun w' _ => by go_simp) ?_
  refine wpPureH_nil ?_
  have HNd := hide (at_below HN.out (Below.refl _ _).drew)
  have HVd := hide (at_below HV2.out (Below.refl _ _).drew)
  have HTd := hide (HT2.out.below (Below.refl _ _).drew)
  have HZd := hide (at_below HZ2.out (Below.refl _ _).drew)
  have HBd := hide HB2.out.drew
  have H4d := hide (fun h => (H42.out h).imp fun _ hm => And.intro hm.1 (hm.2.below (Below.refl _ _).drew))
  clear HN HV2 HZ2 HB2 H42 HA HT2
  generalize (World.drew _) = w3 at *
  have r0 := cell_of_row _ _ 0 _ _ _ HZd.out
  have s0 := frozen_of_row _ _ 0 _ _ HZd.out
  have r1 := cell_of_row _ _ 1 _ _ _ HZd.out
  have s1 := frozen_of_row _ _ 1 _ _ HZd.out
  have r2 := cell_of_row _ _ 2 _ _ _ HZd.out
  have s2 := frozen_of_row _ _ 2 _ _ HZd.out
  have r3 := cell_of_row _ _ 3 _ _ _ HZd.out
  have s3 := frozen_of_row _ _ 3 _ _ HZd.out
  have r4 := cell_of_row _ _ 4 _ _ _ HZd.out
  have s4 := frozen_of_row _ _ 4 _ _ HZd.out
  have r5 := cell_of_row _ _ 5 _ _ _ HZd.out
  have s5 := frozen_of_row _ _ 5 _ _ HZd.out
  have r6 := cell_of_row _ _ 6 _ _ _ HZd.out
  have s6 := frozen_of_row _ _ 6 _ _ HZd.out
  simp at r0 r1 r2 r3 r4 r5 r6
  refine one_readyH (i := 3) (by kernel_rfl) rfl rfl (fun K hK => ?_)
  go_simp
  have HZ := hide (heap_setCell_same _ (w.heap.size + 1 + 1 + 1) 6 _ _ (.slice x6 n6 y6) (heap_setCell_same _ (w.heap.size + 1 + 1 + 1) 5 _ _ (.slice x5 n5 y5) (heap_setCell_same _ (w.heap.size + 1 + 1 + 1) 4 _ _ (.slice x4 n4 y4) (heap_setCell_same _ (w.heap.size + 1 + 1 + 1) 3 _ _ (.int .i64 xv) (heap_setCell_same _ (w.heap.size + 1 + 1 + 1) 2 _ _ (.slice x3 n3 y3) (heap_setCell_same _ (w.heap.size + 1 + 1 + 1) 1 _ _ (.slice x2 n2 y2) (heap_setCell_same _ (w.heap.size + 1 + 1 + 1) 0 _ _ (.slice x1 n1 y1) HZd.out)))))))
  have HBz := hide (((((((HBd.out.setCell (p := ⟨w.heap.size + 1 + 1 + 1, 0, none⟩) (by simp; try omega) (.slice x1 n1 y1)).setCell (p := ⟨w.heap.size + 1 + 1 + 1, 1, none⟩) (by simp; try omega) (.slice x2 n2 y2)).setCell (p := ⟨w.heap.size + 1 + 1 + 1, 2, none⟩) (by simp; try omega) (.slice x3 n3 y3)).setCell (p := ⟨w.heap.size + 1 + 1 + 1, 3, none⟩) (by simp; try omega) (.int .i64 xv)).setCell (p := ⟨w.heap.size + 1 + 1 + 1, 4, none⟩) (by simp; try omega) (.slice x4 n4 y4)).setCell (p := ⟨w.heap.size + 1 + 1 + 1, 5, none⟩) (by simp; try omega) (.slice x5 n5 y5)).setCell (p := ⟨w.heap.size + 1 + 1 + 1, 6, none⟩) (by simp; try omega) (.slice x6 n6 y6))
  have HTz := hide (((((((HTd.out.set HF1.out (p := ⟨w.heap.size + 1 + 1 + 1, 0, none⟩) (by simp; try omega) (.slice x1 n1 y1)).set HF1.out (p := ⟨w.heap.size + 1 + 1 + 1, 1, none⟩) (by simp; try omega) (.slice x2 n2 y2)).set HF1.out (p := ⟨w.heap.size + 1 + 1 + 1, 2, none⟩) (by simp; try omega) (.slice x3 n3 y3)).set HF1.out (p := ⟨w.heap.size + 1 + 1 + 1, 3, none⟩) (by simp; try omega) (.int .i64 xv)).set HF1.out (p := ⟨w.heap.size + 1 + 1 + 1, 4, none⟩) (by simp; try omega) (.slice x4 n4 y4)).set HF1.out (p := ⟨w.heap.size + 1 + 1 + 1, 5, none⟩) (by simp; try omega) (.slice x5 n5 y5)).set HF1.out (p := ⟨w.heap.size + 1 + 1 + 1, 6, none⟩) (by simp; try omega) (.slice x6 n6 y6))
  have H4z := hide (fun h => (H4d.out h).imp fun _ hm => And.intro hm.1 (((((((hm.2.set (p := ⟨w.heap.size + 1 + 1 + 1, 0, none⟩) (by simp; try omega) (.slice x1 n1 y1)).set (p := ⟨w.heap.size + 1 + 1 + 1, 1, none⟩) (by simp; try omega) (.slice x2 n2 y2)).set (p := ⟨w.heap.size + 1 + 1 + 1, 2, none⟩) (by simp; try omega) (.slice x3 n3 y3)).set (p := ⟨w.heap.size + 1 + 1 + 1, 3, none⟩) (by simp; try omega) (.int .i64 xv)).set (p := ⟨w.heap.size + 1 + 1 + 1, 4, none⟩) (by simp; try omega) (.slice x4 n4 y4)).set (p := ⟨w.heap.size + 1 + 1 + 1, 5, none⟩) (by simp; try omega) (.slice x5 n5 y5)).set (p := ⟨w.heap.size + 1 + 1 + 1, 6, none⟩) (by simp; try omega) (.slice x6 n6 y6)))
  have HSn := hide (And.intro (heap_setO (heap_setO (heap_setO (heap_setO (heap_setO (heap_setO (heap_setO HNd.out (p := ⟨w.heap.size + 1 + 1 + 1, 0, none⟩) (by simp; try omega) (.slice x1 n1 y1)) (p := ⟨w.heap.size + 1 + 1 + 1, 1, none⟩) (by simp; try omega) (.slice x2 n2 y2)) (p := ⟨w.heap.size + 1 + 1 + 1, 2, none⟩) (by simp; try omega) (.slice x3 n3 y3)) (p := ⟨w.heap.size + 1 + 1 + 1, 3, none⟩) (by simp; try omega) (.int .i64 xv)) (p := ⟨w.heap.size + 1 + 1 + 1, 4, none⟩) (by simp; try omega) (.slice x4 n4 y4)) (p := ⟨w.heap.size + 1 + 1 + 1, 5, none⟩) (by simp; try omega) (.slice x5 n5 y5)) (p := ⟨w.heap.size + 1 + 1 + 1, 6, none⟩) (by simp; try omega) (.slice x6 n6 y6)) (heap_setO (heap_setO (heap_setO (heap_setO (heap_setO (heap_setO (heap_setO HVd.out (p := ⟨w.heap.size + 1 + 1 + 1, 0, none⟩) (by simp; try omega) (.slice x1 n1 y1)) (p := ⟨w.heap.size + 1 + 1 + 1, 1, none⟩) (by simp; try omega) (.slice x2 n2 y2)) (p := ⟨w.heap.size + 1 + 1 + 1, 2, none⟩) (by simp; try omega) (.slice x3 n3 y3)) (p := ⟨w.heap.size + 1 + 1 + 1, 3, none⟩) (by simp; try omega) (.int .i64 xv)) (p := ⟨w.heap.size + 1 + 1 + 1, 4, none⟩) (by simp; try omega) (.slice x4 n4 y4)) (p := ⟨w.heap.size + 1 + 1 + 1, 5, none⟩) (by simp; try omega) (.slice x5 n5 y5)) (p := ⟨w.heap.size + 1 + 1 + 1, 6, none⟩) (by simp; try omega) (.slice x6 n6 y6)))
  refine hK _ _ HSn.out ?_
  clear hK K HBd H4d HNd HVd HZd HTd r0 r1 r2 r3 r4 r5 r6 s0 s1 s2 s3 s4 s5 s6
  generalize (((((((w3.setCell ⟨w.heap.size + 1 + 1 + 1, 0, none⟩ (.slice x1 n1 y1)).setCell ⟨w.heap.size + 1 + 1 + 1, 1, none⟩ (.slice x2 n2 y2)).setCell ⟨w.heap.size + 1 + 1 + 1, 2, none⟩ (.slice x3 n3 y3)).setCell ⟨w.heap.size + 1 + 1 + 1, 3, none⟩ (.int .i64 xv)).setCell ⟨w.heap.size + 1 + 1 + 1, 4, none⟩ (.slice x4 n4 y4)).setCell ⟨w.heap.size + 1 + 1 + 1, 5, none⟩ (.slice x5 n5 y5)).setCell ⟨w.heap.size + 1 + 1 + 1, 6, none⟩ (.slice x6 n6 y6)) = w5 at *
  refine one_readyH (i := 4) (by kernel_rfl) rfl rfl (fun K hK => ?_)
  go_simp
  refine hK _ _ HSn.out ?_
  clear hK K
  refine one_readyH (i := 5) (by kernel_rfl) rfl rfl (fun K hK => ?_)
  go_simp
  refine hK _ _ HSn.out ?_
  clear hK K
  refine wpAnyH_done (by kernel_rfl) ?_ _
  have g0 := cell_of_row _ _ 0 _ _ _ HZ.out
  have g1 := cell_of_row _ _ 1 _ _ _ HZ.out
  have g2 := cell_of_row _ _ 2 _ _ _ HZ.out
  have g3 := cell_of_row _ _ 3 _ _ _ HZ.out
  have g4 := cell_of_row _ _ 4 _ _ _ HZ.out
  have g5 := cell_of_row _ _ 5 _ _ _ HZ.out
  have g6 := cell_of_row _ _ 6 _ _ _ HZ.out
  simp at g0 g1 g2 g3 g4 g5 g6
  go_wp2_with fail
  exact bodyPost_ret (v := .tuple #[stV x1 x2 x3 n1 y1 n2 y2 n3 y3 xv x4 n4 y4 x5 n5 y5 x6 n6 y6, .slice o M.length c, .int .i64 E']) (by simp [results, Tryz.results12, go_sem, g0, g1, g2, g3, g4, g5, g6]) rfl ⟨⟨_, o, c, rfl, ⟨HTz.out, HF1.out.mono (by omega)⟩, H2.out, fun h => (H4z.out h).imp fun _ hm => ⟨hm.1, hm.2.mono (by omega)⟩⟩, HBz.out⟩

end Go.Proofs.YtcjfmbeemdcklaaGreat

/-
  'NewStation' (package leeboardref), 'hall' (package leeboardlaw).
-/
namespace Go.Proofs.YtcjfmbeemdcklaaGreat

open Go.RowKit

theorem gatesAt_own {w : World} {B Q c : Nat} {G : List GT} (h : w.ownsRow B 49 8 (.slice (some ⟨Q, 0, none⟩) G.length c) G.length (cellsG G)) (hl : ∀ g ∈ G, TapsV w (.slice g.oa g.A.length g.ca) g.A ∧ IntsV w (.slice g.od g.D.length g.cd) g.D) : GatesAt w (some ⟨Q, 0, none⟩) G := by
  intro i g hi
  have hc : ∀ j, j < 8 → w.cell? ⟨Q, i * 8 + j, none⟩ = g.cells[j]? := fun j hj => by
    rw [h.cellAt (i * 8 + j) (by have := (List.getElem?_eq_some_iff.1 hi).1; omega)]
    exact cellsG_get G i g hi j hj
  have hm := hl g (List.mem_of_getElem? hi)
  refine ⟨_, rfl, ?_, hm.1, hm.2⟩
  rw [own_addrZ]
  exact ⟨hc 0 (by omega), hc 1 (by omega), hc 2 (by omega), hc 3 (by omega), hc 4 (by omega), hc 5 (by omega), hc 6 (by omega), hc 7 (by omega)⟩

/-- a row that was written out -/
theorem own_lit {w : World} {B b n size : Nat} {e : TypeId} {cs : Array Value} (h : w.heap[b]? = some (.cells cs e)) (hB : B ≤ b) (hn : n ≤ 1000) (hs : cs.size = n * size) : w.ownsRow B e size (.slice (some ⟨b, 0, none⟩) n n) n cs.toList :=
  ⟨by simpa using hs, .inr ⟨b, n, cs, rfl, hB, h, Nat.le_refl _, by unfold maxLen; omega, hs, List.take_of_length_le (by rw [Array.length_toList, hs]; exact Nat.le_refl _)⟩⟩

set_option maxHeartbeats 6400000 in
set_option maxRecDepth 100000 in
theorem newStation_any (w : World) : Calls Tryz.prog 20 #[] w fun e w' => (∃ og cg ov cv, e = .returned (stV none none none 0 0 0 0 0 0 0 none 0 0 og 3 cg ov 3 cv) ∧ (GatesAt w' og newG ∧ 3 ≤ cg ∧ (og = none → cg = 0) ∧ Fresh w.heap.size (.slice og 3 cg)) ∧ VwsV w' (.slice ov 3 cv) newV ∧ Fresh w.heap.size (.slice ov 3 cv)) ∧ Below w.heap.size w w' := by
  have HB := hide (((((Blks.nil w).more (.cells #[.slice none 0 0, .slice none 0 0, .slice none 0 0, .int .i64 0, .slice none 0 0, .slice (some ⟨w.heap.size + 1 + 1, 0, none⟩) 3 3, .slice (some ⟨w.heap.size + 1 + 1 + 1, 0, none⟩) 3 3] 32) (by simp)).more (.cells #[.int .i64 9, .int .i64 100] 47) (by simp)).more (.cells #[.int .i64 0, .int .i64 1, .int .i64 0, .slice none 0 0, .int .i64 0, .slice none 0 0, .int .i64 9, .int .i64 100, .int .i64 1, .int .i64 2, .int .i64 0, .slice none 0 0, .int .i64 0, .slice none 0 0, .int .i64 9, .int .i64 100, .int .i64 2, .int .i64 4, .int .i64 0, .slice none 0 0, .int .i64 0, .slice none 0 0, .int .i64 9, .int .i64 100] 49) (by simp)).more (.cells #[.int .i64 0, .int .i64 0, .bool true, .int .i64 0, .int .i64 0, .bool true, .int .i64 0, .int .i64 0, .bool true] 82) (by simp))
  go_enter Tryz.func20, Tryz.ntmps20
  go_wp2_with fail
  refine bodyPost_ret (v := stV none none none 0 0 0 0 0 0 0 none 0 0 (some ⟨w.heap.size + 1 + 1, 0, none⟩) 3 3 (some ⟨w.heap.size + 1 + 1 + 1, 0, none⟩) 3 3) (by simp [results, Tryz.results20, go_sem]) rfl ⟨⟨_, _, _, _, rfl, ⟨?_, Nat.le_refl _, (fun h => by cases h), ?_⟩, ?_, ?_⟩, HB.out.2.2⟩
  · have h := own_lit (B := 0) (n := 3) (size := 8) (HB.out.1 2 _ rfl) (Nat.zero_le _) (by omega) rfl
    refine gatesAt_own (B := 0) (c := 3) (G := newG) h (fun g hg => ?_)
    simp only [newG, List.mem_cons, List.not_mem_nil, or_false] at hg
    rcases hg with rfl | rfl | rfl <;> exact ⟨tapsV_nil _, intsV_nil _⟩
  · intro k hk
    simp [Value.ownBlock] at hk
    omega
  · exact vwsV_own (base := 0) (L := newV) (own_lit (B := 0) (n := 3) (size := 3) (HB.out.1 3 _ rfl) (Nat.zero_le _) (by omega) rfl)
  · intro k hk
    simp [Value.ownBlock] at hk
    omega

/-- the ticket and the views of a hall -/
def hallT : List TK := [⟨1, 1, 10, 500, 15, 0⟩]

def hallW : List VW := [⟨1, 0, true⟩, ⟨1, 0, true⟩, ⟨1, 0, true⟩]

set_option maxHeartbeats 6400000 in
set_option maxRecDepth 100000 in
theorem hall_any (w : World) : Calls Tryz.prog 34 #[] w fun e w' => (∃ o1 c1 og cg ov cv, e = .returned (stV o1 none none 1 c1 0 0 0 0 0 none 0 0 og 3 cg ov 3 cv) ∧ StW w' o1 none none c1 0 0 hallT [] [] none 0 [] og cg newG ov cv hallW ∧ Fresh w.heap.size (.slice ov 3 cv)) ∧ Below w.heap.size w w' := by
  have HB := hide ((Blks.nil w).more (.cells #[.slice none 0 0, .slice none 0 0, .slice none 0 0, .int .i64 0, .slice none 0 0, .slice none 0 0, .slice none 0 0] 32) (by simp))
  go_enter Tryz.func34, Tryz.ntmps34
  go_wp2_with fail
  refine (newStation_any _).mono ?_
  rintro e w1 ⟨⟨og, cg, ov, cv, rfl, ⟨hG, hcg, hng, hgf⟩, -, -⟩, hb⟩
  have HB1 := hide (HB.out.on hb)
  have HG1 := hide hG
  have HGf : Hid (Fresh (w.heap.size + 1) (.slice og 3 cg)) := hide (hgf.mono (by simp))
  have hw01 : w.heap.size < w1.heap.size := HB1.out.2.1
  clear hb hG hgf HB
  have HX := hide (((Blks.nil w1).more (.cells #[.slice none 0 0, .slice none 0 0, .slice none 0 0, .int .i64 0, .slice none 0 0, .slice og 3 cg, .slice (some ⟨w1.heap.size + 1, 0, none⟩) 3 3] 32) (by simp)).more (.cells #[.int .i64 1, .int .i64 0, .bool true, .int .i64 1, .int .i64 0, .bool true, .int .i64 1, .int .i64 0, .bool true] 82) (by simp))
  have HB2 := hide (HB1.out.on HX.out.2.2)
  clear HB1
  go_wp2_with fail
  refine (single_any _ _).mono ?_
  rintro e w2 ⟨rfl, hb⟩
  have HX2 := hide (HX.out.on hb)
  have HB3 := hide (HB2.out.on hb)
  clear hb HX HB2
  have b0 := HB3.out.cell 0 0 w.heap.size _ _ _ rfl rfl rfl
  have b1 := HB3.out.cell 0 1 w.heap.size _ _ _ rfl rfl rfl
  have b2 := HB3.out.cell 0 2 w.heap.size _ _ _ rfl rfl rfl
  have b3 := HB3.out.cell 0 3 w.heap.size _ _ _ rfl rfl rfl
  have b4 := HB3.out.cell 0 4 w.heap.size _ _ _ rfl rfl rfl
  have b5 := HB3.out.cell 0 5 w.heap.size _ _ _ rfl rfl rfl
  have b6 := HB3.out.cell 0 6 w.heap.size _ _ _ rfl rfl rfl
  have f0 := HB3.out.frozen 0 0 w.heap.size _ _ rfl rfl
  have f1 := HB3.out.frozen 0 1 w.heap.size _ _ rfl rfl
  have f2 := HB3.out.frozen 0 2 w.heap.size _ _ rfl rfl
  have f3 := HB3.out.frozen 0 3 w.heap.size _ _ rfl rfl
  have f4 := HB3.out.frozen 0 4 w.heap.size _ _ rfl rfl
  have f5 := HB3.out.frozen 0 5 w.heap.size _ _ rfl rfl
  have f6 := HB3.out.frozen 0 6 w.heap.size _ _ rfl rfl
  have x0 := HX2.out.cell 0 0 w1.heap.size _ _ _ rfl rfl rfl
  have x1 := HX2.out.cell 0 1 w1.heap.size _ _ _ rfl rfl rfl
  have x2 := HX2.out.cell 0 2 w1.heap.size _ _ _ rfl rfl rfl
  have x3 := HX2.out.cell 0 3 w1.heap.size _ _ _ rfl rfl rfl
  have x4 := HX2.out.cell 0 4 w1.heap.size _ _ _ rfl rfl rfl
  have x5 := HX2.out.cell 0 5 w1.heap.size _ _ _ rfl rfl rfl
  have x6 := HX2.out.cell 0 6 w1.heap.size _ _ _ rfl rfl rfl
  have y0 := HX2.out.frozen 0 0 w1.heap.size _ _ rfl rfl
  have hs1 : w.heap.size + 1 ≤ w2.heap.size := HB3.out.2.1
  have hs2 : w1.heap.size + 1 + 1 ≤ w2.heap.size := HX2.out.2.1
  have hs3 : w1.heap.size < w2.heap.size := by omega
  have hs4 : w.heap.size < w2.heap.size := by omega
  have hs5 : w.heap.size < w1.heap.size := hw01
  go_wp2_with fail
  have hgl : ∀ g ∈ newG, Fresh (w.heap.size + 1) (.slice g.oa g.A.length g.ca) ∧ Fresh (w.heap.size + 1) (.slice g.od g.D.length g.cd) := by
    intro g hg
    simp only [newG, List.mem_cons, List.not_mem_nil, or_false] at hg
    rcases hg with rfl | rfl | rfl <;> exact ⟨fun k hk => by simp [Value.ownBlock, gt0] at hk, fun k hk => by simp [Value.ownBlock, gt0] at hk⟩
  have HGa := hide (HG1.out.below (HX2.out.2.2.setCell (p := ⟨w1.heap.size, 0, none⟩) (Nat.le_refl _) (.slice (some ⟨w2.heap.size, 0, none⟩) 1 1)))
  have HGb := hide (((((((HGa.out.set HGf.out hgl (p := ⟨w.heap.size, 0, none⟩) (by simp) (.slice (some ⟨w2.heap.size, 0, none⟩) 1 1)).set HGf.out hgl (p := ⟨w.heap.size, 1, none⟩) (by simp) (.slice none 0 0)).set HGf.out hgl (p := ⟨w.heap.size, 2, none⟩) (by simp) (.slice none 0 0)).set HGf.out hgl (p := ⟨w.heap.size, 3, none⟩) (by simp) (.int .i64 0)).set HGf.out hgl (p := ⟨w.heap.size, 4, none⟩) (by simp) (.slice none 0 0)).set HGf.out hgl (p := ⟨w.heap.size, 5, none⟩) (by simp) (.slice og 3 cg)).set HGf.out hgl (p := ⟨w.heap.size, 6, none⟩) (by simp) (.slice (some ⟨w1.heap.size + 1, 0, none⟩) 3 3))
  have HVb := hide (heap_setO (heap_setO (heap_setO (heap_setO (heap_setO (heap_setO (heap_setO (heap_setO (HX2.out.1 1 _ rfl) (p := ⟨w1.heap.size, 0, none⟩) (by simp) (.slice (some ⟨w2.heap.size, 0, none⟩) 1 1)) (p := ⟨w.heap.size, 0, none⟩) (by simp; omega) (.slice (some ⟨w2.heap.size, 0, none⟩) 1 1)) (p := ⟨w.heap.size, 1, none⟩) (by simp; omega) (.slice none 0 0)) (p := ⟨w.heap.size, 2, none⟩) (by simp; omega) (.slice none 0 0)) (p := ⟨w.heap.size, 3, none⟩) (by simp; omega) (.int .i64 0)) (p := ⟨w.heap.size, 4, none⟩) (by simp; omega) (.slice none 0 0)) (p := ⟨w.heap.size, 5, none⟩) (by simp; omega) (.slice og 3 cg)) (p := ⟨w.heap.size, 6, none⟩) (by simp; omega) (.slice (some ⟨w1.heap.size + 1, 0, none⟩) 3 3))
  have HZb := hide (heap_setCell_same _ w.heap.size 6 _ _ (.slice (some ⟨w1.heap.size + 1, 0, none⟩) 3 3) (heap_setCell_same _ w.heap.size 5 _ _ (.slice og 3 cg) (heap_setCell_same _ w.heap.size 4 _ _ (.slice none 0 0) (heap_setCell_same _ w.heap.size 3 _ _ (.int .i64 0) (heap_setCell_same _ w.heap.size 2 _ _ (.slice none 0 0) (heap_setCell_same _ w.heap.size 1 _ _ (.slice none 0 0) (heap_setCell_same _ w.heap.size 0 _ _ (.slice (some ⟨w2.heap.size, 0, none⟩) 1 1) (heap_setO (HB3.out.1 0 _ rfl) (p := ⟨w1.heap.size, 0, none⟩) (by simp; omega) (.slice (some ⟨w2.heap.size, 0, none⟩) 1 1)))))))))
  have HBb := hide ((((((((HB3.out.2.2.setCell (p := ⟨w1.heap.size, 0, none⟩) (by simp; omega) (.slice (some ⟨w2.heap.size, 0, none⟩) 1 1)).setCell (p := ⟨w.heap.size, 0, none⟩) (by simp) (.slice (some ⟨w2.heap.size, 0, none⟩) 1 1)).setCell (p := ⟨w.heap.size, 1, none⟩) (by simp) (.slice none 0 0)).setCell (p := ⟨w.heap.size, 2, none⟩) (by simp) (.slice none 0 0)).setCell (p := ⟨w.heap.size, 3, none⟩) (by simp) (.int .i64 0)).setCell (p := ⟨w.heap.size, 4, none⟩) (by simp) (.slice none 0 0)).setCell (p := ⟨w.heap.size, 5, none⟩) (by simp) (.slice og 3 cg)).setCell (p := ⟨w.heap.size, 6, none⟩) (by simp) (.slice (some ⟨w1.heap.size + 1, 0, none⟩) 3 3))
  have hsz : ((((((((w2.setCell ⟨w1.heap.size, 0, none⟩ (.slice (some ⟨w2.heap.size, 0, none⟩) 1 1)).setCell ⟨w.heap.size, 0, none⟩ (.slice (some ⟨w2.heap.size, 0, none⟩) 1 1)).setCell ⟨w.heap.size, 1, none⟩ (.slice none 0 0)).setCell ⟨w.heap.size, 2, none⟩ (.slice none 0 0)).setCell ⟨w.heap.size, 3, none⟩ (.int .i64 0)).setCell ⟨w.heap.size, 4, none⟩ (.slice none 0 0)).setCell ⟨w.heap.size, 5, none⟩ (.slice og 3 cg)).setCell ⟨w.heap.size, 6, none⟩ (.slice (some ⟨w1.heap.size + 1, 0, none⟩) 3 3)).heap.size = w2.heap.size := by simp only [World.size_setCell]
  have HA := hide ((Below.refl _ ((((((((w2.setCell ⟨w1.heap.size, 0, none⟩ (.slice (some ⟨w2.heap.size, 0, none⟩) 1 1)).setCell ⟨w.heap.size, 0, none⟩ (.slice (some ⟨w2.heap.size, 0, none⟩) 1 1)).setCell ⟨w.heap.size, 1, none⟩ (.slice none 0 0)).setCell ⟨w.heap.size, 2, none⟩ (.slice none 0 0)).setCell ⟨w.heap.size, 3, none⟩ (.int .i64 0)).setCell ⟨w.heap.size, 4, none⟩ (.slice none 0 0)).setCell ⟨w.heap.size, 5, none⟩ (.slice og 3 cg)).setCell ⟨w.heap.size, 6, none⟩ (.slice (some ⟨w1.heap.size + 1, 0, none⟩) 3 3))).alloc (Nat.le_refl _) (.cells #[.int .i64 1, .int .i64 1, .int .i64 10, .int .i64 500, .int .i64 15, .int .i64 0] 34))
  have hN : (((((((((w2.setCell ⟨w1.heap.size, 0, none⟩ (.slice (some ⟨w2.heap.size, 0, none⟩) 1 1)).setCell ⟨w.heap.size, 0, none⟩ (.slice (some ⟨w2.heap.size, 0, none⟩) 1 1)).setCell ⟨w.heap.size, 1, none⟩ (.slice none 0 0)).setCell ⟨w.heap.size, 2, none⟩ (.slice none 0 0)).setCell ⟨w.heap.size, 3, none⟩ (.int .i64 0)).setCell ⟨w.heap.size, 4, none⟩ (.slice none 0 0)).setCell ⟨w.heap.size, 5, none⟩ (.slice og 3 cg)).setCell ⟨w.heap.size, 6, none⟩ (.slice (some ⟨w1.heap.size + 1, 0, none⟩) 3 3)).alloc (.cells #[.int .i64 1, .int .i64 1, .int .i64 10, .int .i64 500, .int .i64 15, .int .i64 0] 34)).heap[w2.heap.size]? = some (.cells #[.int .i64 1, .int .i64 1, .int .i64 10, .int .i64 500, .int .i64 15, .int .i64 0] 34) := by
    have h := heap_alloc_new ((((((((w2.setCell ⟨w1.heap.size, 0, none⟩ (.slice (some ⟨w2.heap.size, 0, none⟩) 1 1)).setCell ⟨w.heap.size, 0, none⟩ (.slice (some ⟨w2.heap.size, 0, none⟩) 1 1)).setCell ⟨w.heap.size, 1, none⟩ (.slice none 0 0)).setCell ⟨w.heap.size, 2, none⟩ (.slice none 0 0)).setCell ⟨w.heap.size, 3, none⟩ (.int .i64 0)).setCell ⟨w.heap.size, 4, none⟩ (.slice none 0 0)).setCell ⟨w.heap.size, 5, none⟩ (.slice og 3 cg)).setCell ⟨w.heap.size, 6, none⟩ (.slice (some ⟨w1.heap.size + 1, 0, none⟩) 3 3)) (.cells #[.int .i64 1, .int .i64 1, .int .i64 10, .int .i64 500, .int .i64 15, .int .i64 0] 34)
    rwa [hsz] at h
  have HN := hide hN
  have HGc := hide (HGb.out.below HA.out)
  have HVc := hide (at_below HVb.out HA.out)
  have HZc := hide (at_below HZb.out HA.out)
  have HBc := hide (HBb.out.trans (HA.out.mono (by rw [hsz]; omega)))
  clear HGa HGb HVb HZb HBb HA hsz hN HG1 HX2 HB3 b0 b1 b2 b3 b4 b5 b6 f0 f1 f2 f3 f4 f5 f6 x0 x1 x2 x3 x4 x5 x6 y0
  generalize (((((((((w2.setCell ⟨w1.heap.size, 0, none⟩ (.slice (some ⟨w2.heap.size, 0, none⟩) 1 1)).setCell ⟨w.heap.size, 0, none⟩ (.slice (some ⟨w2.heap.size, 0, none⟩) 1 1)).setCell ⟨w.heap.size, 1, none⟩ (.slice none 0 0)).setCell ⟨w.heap.size, 2, none⟩ (.slice none 0 0)).setCell ⟨w.heap.size, 3, none⟩ (.int .i64 0)).setCell ⟨w.heap.size, 4, none⟩ (.slice none 0 0)).setCell ⟨w.heap.size, 5, none⟩ (.slice og 3 cg)).setCell ⟨w.heap.size, 6, none⟩ (.slice (some ⟨w1.heap.size + 1, 0, none⟩) 3 3)).alloc (.cells #[.int .i64 1, .int .i64 1, .int .i64 10, .int .i64 500, .int .i64 15, .int .i64 0] 34)) = w4 at *
  have g0 := cell_of_row _ _ 0 _ _ _ HZc.out
  have g1 := cell_of_row _ _ 1 _ _ _ HZc.out
  have g2 := cell_of_row _ _ 2 _ _ _ HZc.out
  have g3 := cell_of_row _ _ 3 _ _ _ HZc.out
  have g4 := cell_of_row _ _ 4 _ _ _ HZc.out
  have g5 := cell_of_row _ _ 5 _ _ _ HZc.out
  have g6 := cell_of_row _ _ 6 _ _ _ HZc.out
  simp at g0 g1 g2 g3 g4 g5 g6
  refine bodyPost_ret (v := stV (some ⟨w2.heap.size, 0, none⟩) none none 1 1 0 0 0 0 0 none 0 0 og 3 cg (some ⟨w1.heap.size + 1, 0, none⟩) 3 3) (by simp [results, Tryz.results34, go_sem, g0, g1, g2, g3, g4, g5, g6]) rfl ⟨⟨_, _, _, _, _, _, rfl, ?_, fun k hk => by simp only [Value.ownBlock, Option.some.injEq] at hk; omega⟩, HBc.out⟩
  have hT : TiksV w4 (.slice (some ⟨w2.heap.size, 0, none⟩) 1 1) hallT := tiksV_own (base := 0) (L := hallT) (own_lit (B := 0) (n := 1) (size := 6) HN.out (Nat.zero_le _) (by omega) rfl)
  have hW : VwsV w4 (.slice (some ⟨w1.heap.size + 1, 0, none⟩) 3 3) hallW := vwsV_own (base := 0) (L := hallW) (own_lit (B := 0) (n := 3) (size := 3) HVc.out (Nat.zero_le _) (by omega) rfl)
  exact ⟨LedV.of hT (tapsV_nil _) (intsV_nil _), ⟨by simp [hallT], by simp, by simp⟩, ⟨fun i p h => by simp at h, by simp, by simp, fun _ => rfl⟩, HGc.out, fun g hg => by
    simp only [newG, List.mem_cons, List.not_mem_nil, or_false] at hg
    rcases hg with rfl | rfl | rfl <;> simp [gt0], hcg, hng, by simp [newG], hW.eqs.2.1, by simp [hallW], (fun h => by cases h), by simp [hallW]⟩

end Go.Proofs.YtcjfmbeemdcklaaGreat

/-
  For 'stationBegun': a station's check hangs on its gates alone, wherever they lie; its calls, one by one.
-/
namespace Go.Proofs.YtcjfmbeemdcklaaGreat

open Go.RowKit

def gatePE (dv : Int) (P : List TP) (n : Nat) (g : GP) : Int :=
  if chkG g.i g.z g.s g.A g.v g.D g.l g.u = 0 then (if g.i = (n : Int) ∧ ¬ dv < g.v then (if P.any (twiG g.i g.s g.A) = true then 6 else 0) else 4) else chkG g.i g.z g.s g.A g.v g.D g.l g.u

def gatesPF (dv : Int) (P : List TP) : Nat → List GP → Int
  | _, [] => 0
  | n, g :: L => if gatePE dv P n g = 0 then gatesPF dv P (n + 1) L else gatePE dv P n g

def gatesPE (dv : Int) (P : List TP) (G : List GP) : Int := if G.length = 3 then gatesPF dv P 0 G else 1

/-- what is wrong with a station, wherever it lies -/
def chkPS (T : List TK) (P : List TP) (V : List Int) (dv : Int) (D : List Int) (L : List GP) (W : List VW) : Int :=
  if chkL T P V = 0 then (if chkD dv D = 0 then (if gatesPE dv P L = 0 then chkVs W else gatesPE dv P L) else chkD dv D) else chkL T P V

theorem gatesF_p (dv : Int) (P : List TP) : ∀ (G : List GT) (n : Nat), gatesF dv P n G = gatesPF dv P n (G.map GT.p)
  | [], n => rfl
  | g :: L, n => by
    rw [gatesF, List.map_cons, gatesPF, gatesF_p dv P L (n + 1)]
    rfl

theorem chkS_p (T : List TK) (P : List TP) (V : List Int) (dv : Int) (D : List Int) (G : List GT) (W : List VW) : chkS T P V dv D G W = chkPS T P V dv D (G.map GT.p) W := by
  have h : gatesE dv P G = gatesPE dv P (G.map GT.p) := by
    rw [gatesE, gatesPE, List.length_map, gatesF_p]
  rw [chkS, chkPS, h]

theorem tapS_p {T : List TK} {P : List TP} {V : List Int} {dv : Int} {D : List Int} {G : List GT} {W : List VW} {L : List GP} (h : G.map GT.p = L) (id n m : Int) : tapS T P V dv D G W id n m = if chkPS T P V dv D L W = 0 then tapR T P V dv D L W id n m else (0, chkPS T P V dv D L W) := by
  rw [tapS, chkS_p, h]

theorem sellS_p {T : List TK} {P : List TP} {V : List Int} {dv : Int} {D : List Int} {G : List GT} {W : List VW} {L : List GP} (h : G.map GT.p = L) (t : TK) : sellS T P V dv D G W t = if chkPS T P V dv D L W = 0 then sellK T P V W t else chkPS T P V dv D L W := by
  rw [sellS, chkS_p, h]

theorem syncS_p {T : List TK} {P : List TP} {V : List Int} {dv : Int} {D : List Int} {G : List GT} {W : List VW} {L : List GP} (h : G.map GT.p = L) (n m : Int) : syncS T P V dv D G W n m = if chkPS T P V dv D L W = 0 then syncR T P V dv D L W n m else chkPS T P V dv D L W := by
  rw [syncS, chkS_p, h]

/-- the gates of a new station, and those of it where one ticket was let through alone -/
def gN : List GP := [⟨0, 1, 0, [], 0, [], 9, 100⟩, ⟨1, 2, 0, [], 0, [], 9, 100⟩, ⟨2, 4, 0, [], 0, [], 9, 100⟩]

def gB : List GP := [⟨0, 1, 1, [⟨1, 0, 1, 20, 1⟩], 0, [], 8, 100⟩, ⟨1, 2, 0, [], 0, [], 9, 100⟩, ⟨2, 4, 0, [], 0, [], 9, 100⟩]

theorem newG_p : newG.map GT.p = gN := rfl

theorem ev_hall : tapS hallT [] [] 0 [] newG hallW 1 0 20 = (1, 0) := by rw [tapS_p newG_p]; decide +kernel

theorem ev_alone : tapS hallT [] [] 0 [] newG newV 1 0 20 = (0, 0) := by rw [tapS_p newG_p]; decide +kernel

theorem ev_b {G : List GT} (h : G.map GT.p = gB) : (tapS hallT [] [] 0 [] G hallW 1 0 90).2 = 10 := by rw [tapS_p h]; decide +kernel

theorem ev_sell : sellS hallT [] [] 0 [] newG hallW ⟨2, 1, 10, 500, 15, 0⟩ = 0 := by rw [sellS_p newG_p]; decide +kernel

theorem ev_sell4 : sellS hallT [] [] 0 [] newG newV ⟨2, 1, 10, 500, 15, 0⟩ = 4 := by rw [sellS_p newG_p]; decide +kernel

theorem srt_one : srt [(⟨1, 0, 1, 20, 1⟩ : TP)] = [⟨1, 0, 1, 20, 1⟩] := by simp [srt]

theorem into_b : intoB hallT [] [(⟨1, 0, 1, 20, 1⟩ : TP)] = (0, [⟨1, 0, 1, 20, 1⟩], [1], []) := by
  rw [intoB, List.nil_append, srt_one]
  rfl

theorem into_e : intoE hallT [] [] [(⟨1, 0, 1, 20, 1⟩ : TP)] = 0 := by
  rw [intoE, if_pos (by decide +kernel), if_neg (by decide), if_pos (by decide +kernel), into_b]

theorem ev_sync {G : List GT} (h : G.map GT.p = gB) : syncS hallT [] [] 0 [] G hallW 0 50 = 0 := by
  rw [syncS_p h, if_pos (by decide +kernel), syncR, if_neg (by decide), syncK, if_pos (by decide +kernel), if_pos (by decide +kernel)]
  exact into_e

set_option maxRecDepth 100000 in
theorem tapHall {w : World} {o1 o2 o3 od og ov : Option Addr} {c1 c2 c3 cd cg cv : Nat} (hs : StW w o1 o2 o3 c1 c2 c3 hallT [] [] od cd [] og cg newG ov cv hallW) : Calls Tryz.prog 13 #[stV o1 o2 o3 1 c1 0 c2 0 c3 0 od 0 cd og 3 cg ov 3 cv, .int .i64 1, .int .i64 0, .int .i64 20] w fun e w' => (∃ x1 y1 x2 y2 x3 y3 x4 y4 x5 y5 x6 y6, e = .returned (.tuple #[stV x1 x2 x3 1 y1 1 y2 1 y3 0 x4 0 y4 x5 3 y5 x6 3 y6, .int .i64 1, .int .i64 0])) ∧ Below w.heap.size w w' := by
  refine (stationTap_any hallT [] [] 0 [] newG hallW o1 o2 o3 od og ov c1 c2 c3 cd cg cv 1 0 20 w hs).mono ?_
  rintro e w' ⟨⟨v, R, hR, rfl, -, h2⟩, hb⟩
  rw [ev_hall] at hR
  subst hR
  obtain ⟨G', hm, hr⟩ := h2 rfl
  obtain ⟨x1, y1, x2, y2, x3, y3, x4, y4, x5, y5, x6, y6, rfl, -⟩ := hr.of
  have hl : G'.length = 3 := by have := congrArg List.length hm; simpa [newG] using this
  exact ⟨⟨x1, y1, x2, y2, x3, y3, x4, y4, x5, y5, x6, y6, by rw [hl]; rfl⟩, hb⟩

set_option maxRecDepth 100000 in
theorem tapAlone {w : World} {o1 o2 o3 od og ov : Option Addr} {c1 c2 c3 cd cg cv : Nat} (hs : StW w o1 o2 o3 c1 c2 c3 hallT [] [] od cd [] og cg newG ov cv newV) : Calls Tryz.prog 13 #[stV o1 o2 o3 1 c1 0 c2 0 c3 0 od 0 cd og 3 cg ov 3 cv, .int .i64 1, .int .i64 0, .int .i64 20] w fun e w' => (∃ x1 y1 x2 y2 x3 y3 x4 y4 x5 y5 x6 y6 G', e = .returned (.tuple #[stV x1 x2 x3 1 y1 0 y2 0 y3 0 x4 0 y4 x5 3 y5 x6 3 y6, .int .i64 0, .int .i64 0]) ∧ G'.map GT.p = gB ∧ StW w' x1 x2 x3 y1 y2 y3 hallT [] [] x4 y4 [] x5 y5 G' x6 y6 newV) ∧ Below w.heap.size w w' := by
  refine (stationTap_any hallT [] [] 0 [] newG newV o1 o2 o3 od og ov c1 c2 c3 cd cg cv 1 0 20 w hs).mono ?_
  rintro e w' ⟨⟨v, R, hR, rfl, -, h2⟩, hb⟩
  rw [ev_alone] at hR
  subst hR
  obtain ⟨G', hm, hr⟩ := h2 rfl
  have e1 : pTap newV (gAt (newG.map GT.p) 0) [] 1 0 20 = [] := by decide +kernel
  have e2 : vTap newV (gAt (newG.map GT.p) 0) [] (0, 0).1 = [] := by decide +kernel
  have e3 : (newG.map GT.p).set (0 : Int).toNat (gTap newV (gAt (newG.map GT.p) 0) (tAt hallT 1) 20) = gB := by rfl
  rw [e1, e2] at hr
  rw [e3] at hm
  obtain ⟨x1, y1, x2, y2, x3, y3, x4, y4, x5, y5, x6, y6, rfl, hs, -⟩ := hr.of
  have hl : G'.length = 3 := by have := congrArg List.length hm; simpa [gB] using this
  exact ⟨⟨x1, y1, x2, y2, x3, y3, x4, y4, x5, y5, x6, y6, G', by rw [hl]; rfl, hm, hs⟩, hb⟩

set_option maxRecDepth 100000 in
theorem tapB {w : World} {o1 o2 o3 od og ov : Option Addr} {c1 c2 c3 cd cg cv : Nat} {G : List GT} (hm : G.map GT.p = gB) (hs : StW w o1 o2 o3 c1 c2 c3 hallT [] [] od cd [] og cg G ov cv hallW) : Calls Tryz.prog 13 #[stV o1 o2 o3 1 c1 0 c2 0 c3 0 od 0 cd og 3 cg ov 3 cv, .int .i64 1, .int .i64 0, .int .i64 90] w fun e w' => (∃ v, e = .returned (.tuple #[stV none none none 0 0 0 0 0 0 0 none 0 0 none 0 0 none 0 0, .int .i64 v, .int .i64 10])) ∧ Below w.heap.size w w' := by
  have hl : G.length = 3 := by have := congrArg List.length hm; simpa [gB] using this
  have h := stationTap_any hallT [] [] 0 [] G hallW o1 o2 o3 od og ov c1 c2 c3 cd cg cv 1 0 90 w hs
  rw [hl] at h
  refine h.mono ?_
  rintro e w' ⟨⟨v, R, hR, rfl, h1, -⟩, hb⟩
  have h10 : R.2 = 10 := by rw [hR]; exact ev_b hm
  rw [h1 (by omega), h10]
  exact ⟨⟨_, rfl⟩, hb⟩

set_option maxRecDepth 100000 in
theorem sellHall {w : World} {o1 o2 o3 od og ov : Option Addr} {c1 c2 c3 cd cg cv : Nat} (hs : StW w o1 o2 o3 c1 c2 c3 hallT [] [] od cd [] og cg newG ov cv hallW) : Calls Tryz.prog 11 #[stV o1 o2 o3 1 c1 0 c2 0 c3 0 od 0 cd og 3 cg ov 3 cv, tk 2 1 10 500 15 0] w fun e w' => (∃ x1 y1 x2 y2 x3 y3 x4 y4 x5 y5 x6 y6, e = .returned (.tuple #[stV x1 x2 x3 2 y1 0 y2 0 y3 0 x4 0 y4 x5 3 y5 x6 3 y6, .int .i64 0])) ∧ Below w.heap.size w w' := by
  refine (stationSell_any hallT [] [] 0 [] newG hallW o1 o2 o3 od og ov c1 c2 c3 cd cg cv 2 1 10 500 15 0 w hs).mono ?_
  rintro e w' ⟨⟨v, rfl, -, h2⟩, hb⟩
  rw [ev_sell] at h2 ⊢
  obtain ⟨G', hm, hr⟩ := h2 rfl
  obtain ⟨x1, y1, x2, y2, x3, y3, x4, y4, x5, y5, x6, y6, rfl, -⟩ := hr.of
  have hl : G'.length = 3 := by have := congrArg List.length hm; simpa [newG] using this
  exact ⟨⟨x1, y1, x2, y2, x3, y3, x4, y4, x5, y5, x6, y6, by rw [hl]; rfl⟩, hb⟩

set_option maxRecDepth 100000 in
theorem sellAlone4 {w : World} {o1 o2 o3 od og ov : Option Addr} {c1 c2 c3 cd cg cv : Nat} (hs : StW w o1 o2 o3 c1 c2 c3 hallT [] [] od cd [] og cg newG ov cv newV) : Calls Tryz.prog 11 #[stV o1 o2 o3 1 c1 0 c2 0 c3 0 od 0 cd og 3 cg ov 3 cv, tk 2 1 10 500 15 0] w fun e w' => e = .returned (.tuple #[stV none none none 0 0 0 0 0 0 0 none 0 0 none 0 0 none 0 0, .int .i64 4]) ∧ Below w.heap.size w w' := by
  refine (stationSell_any hallT [] [] 0 [] newG newV o1 o2 o3 od og ov c1 c2 c3 cd cg cv 2 1 10 500 15 0 w hs).mono ?_
  rintro e w' ⟨⟨v, rfl, h1, -⟩, hb⟩
  rw [ev_sell4] at h1 ⊢
  rw [h1 (by decide)]
  exact ⟨rfl, hb⟩

set_option maxRecDepth 100000 in
theorem syncB {w : World} {o1 o2 o3 od og ov : Option Addr} {c1 c2 c3 cd cg cv : Nat} {G : List GT} (hm : G.map GT.p = gB) (hs : StW w o1 o2 o3 c1 c2 c3 hallT [] [] od cd [] og cg G ov cv hallW) : Calls Tryz.prog 12 #[stV o1 o2 o3 1 c1 0 c2 0 c3 0 od 0 cd og 3 cg ov 3 cv, .int .i64 0, .int .i64 50] w fun e w' => (∃ x1 y1 x2 y2 x3 y3 x4 y4 x5 y5 x6 y6 o c, e = .returned (.tuple #[stV x1 x2 x3 1 y1 1 y2 1 y3 0 x4 0 y4 x5 3 y5 x6 3 y6, .slice o 0 c, .int .i64 0])) ∧ Below w.heap.size w w' := by
  have hl : G.length = 3 := by have := congrArg List.length hm; simpa [gB] using this
  have h := stationSync_any hallT [] [] 0 [] G hallW o1 o2 o3 od og ov c1 c2 c3 cd cg cv 0 50 w hs
  rw [hl] at h
  refine h.mono ?_
  rintro e w' ⟨⟨v, E, M, o, c, hE, hM, rfl, -, -, h2⟩, hb⟩
  have hE0 : E = 0 := by rw [hE]; exact ev_sync hm
  subst hE0
  obtain ⟨G', hm', hr⟩ := h2 rfl
  have hA : (gAt (G.map GT.p) 0).A = [⟨1, 0, 1, 20, 1⟩] := by rw [hm]; rfl
  have hD : toldR hallT [] [] (G.map GT.p) 0 0 = [] := by rw [toldR, if_pos rfl, hA, intoD, if_pos into_e, into_b]
  rw [hD, hA, intoT, intoP, intoV, if_pos into_e, if_pos into_e, if_pos into_e, into_b] at hr
  have hc : chkS hallT [] [] 0 [] G hallW = 0 := by rw [chkS_p, hm]; decide +kernel
  rw [if_pos hc, hD] at hM
  subst hM
  obtain ⟨x1, y1, x2, y2, x3, y3, x4, y4, x5, y5, x6, y6, rfl, -⟩ := hr.of
  have hl' : G'.length = 3 := by have := congrArg List.length hm'; simpa [hl] using this
  exact ⟨⟨x1, y1, x2, y2, x3, y3, x4, y4, x5, y5, x6, y6, o, c, by rw [hl']; rfl⟩, hb⟩

theorem ev_new : chkS [] [] [] 0 [] newG newV = 0 := by rw [chkS_p, newG_p]; decide +kernel

end Go.Proofs.YtcjfmbeemdcklaaGreat

/-
  'stationBegun' (package leeboardlaw).
-/
namespace Go.Proofs.YtcjfmbeemdcklaaGreat

open Go.RowKit

/-- a new station, opened -/
theorem stationNew_any (w : World) : Calls Tryz.prog 19 #[] w fun e w' => (∃ og cg ov cv, e = .returned (stV none none none 0 0 0 0 0 0 0 none 0 0 og 3 cg ov 3 cv) ∧ StW w' none none none 0 0 0 [] [] [] none 0 [] og cg newG ov cv newV) ∧ Below w.heap.size w w' := by
  refine (new_any w).mono ?_
  rintro e w' ⟨⟨og, cg, ov, cv, rfl, h1, h2⟩, hb⟩
  obtain ⟨o, c, e1, e2, e3⟩ := own_sliceB h1
  simp only [Value.slice.injEq, true_and] at e1
  obtain ⟨rfl, rfl⟩ := e1
  have hv := (vwsV_own (L := newV) h2).eqs
  have hg : GatesAt w' og newG := by
    rcases h1.2 with ⟨h0, -⟩ | ⟨g, cap, cur, h3, -⟩
    · simp at h0
    · simp only [Value.slice.injEq, true_and] at h3
      obtain ⟨rfl, rfl⟩ := h3
      refine gatesAt_own (G := newG) h1 (fun g hg => ?_)
      simp only [newG, List.mem_cons, List.not_mem_nil, or_false] at hg
      rcases hg with rfl | rfl | rfl <;> exact ⟨tapsV_nil _, intsV_nil _⟩
  exact ⟨⟨og, cg, ov, cv, rfl, ⟨LedV.of (tiksV_nil _) (tapsV_nil _) (intsV_nil _), ⟨by simp, by simp, by simp⟩, ⟨fun i p h => by simp at h, by simp, by simp, fun _ => rfl⟩, hg, fun g hg => by
    simp only [newG, List.mem_cons, List.not_mem_nil, or_false] at hg
    rcases hg with rfl | rfl | rfl <;> simp [gt0], e2, e3, by simp [newG], hv.2.1, hv.2.2.1, hv.2.2.2, by simp [newV]⟩⟩, hb⟩

set_option maxHeartbeats 12800000 in
set_option maxRecDepth 100000 in
theorem stationBegun_any (w : World) : Calls Tryz.prog 7 #[] w fun e w' => e = .returned (.bool true) ∧ Below w.heap.size w w' := by
  have Hw := hide (Below.refl w.heap.size w)
  go_enter Tryz.func7, Tryz.ntmps7
  go_wp2_with fail
  refine (hall_any _).mono ?_
  rintro e w1 ⟨⟨o1, c1, og, cg, ov, cv, rfl, hs1, -⟩, hb⟩
  have Bww1 := hide (Hw.out.trans (hb.mono Hw.out.size))
  have zww1 : w.heap.size ≤ w1.heap.size := Bww1.out.size
  clear hb Hw
  go_wp2_with fail
  refine (tapHall hs1).mono ?_
  rintro e w2 ⟨⟨a1, b1, a2, b2, a3, b3, a4, b4, a5, b5, a6, b6, rfl⟩, hb⟩
  have Bww2 := hide (Bww1.out.trans (hb.mono Bww1.out.size))
  have zww2 : w.heap.size ≤ w2.heap.size := Bww2.out.size
  clear hb Bww1
  clear hs1
  go_wp2_with fail
  have hb := (Below.refl w2.heap.size w2).alloc (Nat.le_refl _) (.cells #[.slice a1 1 b1, .slice a2 1 b2, .slice a3 1 b3, .int .i64 0, .slice a4 0 b4, .slice a5 3 b5, .slice a6 3 b6] 32)
  have OAw2a := hide (heap_alloc_new w2 (.cells #[.slice a1 1 b1, .slice a2 1 b2, .slice a3 1 b3, .int .i64 0, .slice a4 0 b4, .slice a5 3 b5, .slice a6 3 b6] 32))
  have Bww2a := hide (Bww2.out.trans (hb.mono Bww2.out.size))
  clear hb Bww2
  generalize (w2.alloc (.cells #[.slice a1 1 b1, .slice a2 1 b2, .slice a3 1 b3, .int .i64 0, .slice a4 0 b4, .slice a5 3 b5, .slice a6 3 b6] 32)) = w2a at *
  have zww2a : w.heap.size ≤ w2a.heap.size := Bww2a.out.size
  have lAw2a : w2.heap.size < w2a.heap.size := (Array.getElem?_eq_some_iff.1 OAw2a.out).1
  refine (hall_any _).mono ?_
  rintro e w3 ⟨⟨p1, q1, pg, qg, pv, qv, rfl, hs3, -⟩, hb⟩
  have Bww3 := hide (Bww2a.out.trans (hb.mono Bww2a.out.size))
  have OAw3 := hide (at_below OAw2a.out hb)
  have zww3 : w.heap.size ≤ w3.heap.size := Bww3.out.size
  have lAw3 : w2.heap.size < w3.heap.size := (Array.getElem?_eq_some_iff.1 OAw3.out).1
  clear hb Bww2a OAw2a
  have HS3 := hide hs3
  clear hs3
  go_wp2_with fail
  have hb := (Below.refl w3.heap.size w3).alloc (Nat.le_refl _) (.cells #[.slice p1 1 q1, .slice none 0 0, .slice none 0 0, .int .i64 0, .slice none 0 0, .slice pg 3 qg, .slice pv 3 qv] 32)
  have OLw3a := hide (heap_alloc_new w3 (.cells #[.slice p1 1 q1, .slice none 0 0, .slice none 0 0, .int .i64 0, .slice none 0 0, .slice pg 3 qg, .slice pv 3 qv] 32))
  have Bww3a := hide (Bww3.out.trans (hb.mono Bww3.out.size))
  have Bw3w3a := hide hb
  have OAw3a := hide (at_below OAw3.out hb)
  clear hb Bww3 OAw3
  generalize (w3.alloc (.cells #[.slice p1 1 q1, .slice none 0 0, .slice none 0 0, .int .i64 0, .slice none 0 0, .slice pg 3 qg, .slice pv 3 qv] 32)) = w3a at *
  have zww3a : w.heap.size ≤ w3a.heap.size := Bww3a.out.size
  have zw3w3a : w3.heap.size ≤ w3a.heap.size := Bw3w3a.out.size
  have lAw3a : w2.heap.size < w3a.heap.size := (Array.getElem?_eq_some_iff.1 OAw3a.out).1
  have lLw3a : w3.heap.size < w3a.heap.size := (Array.getElem?_eq_some_iff.1 OLw3a.out).1
  refine (newStation_any _).mono ?_
  rintro e w4 ⟨⟨ng, nc, nv, mc, rfl, -, hv, hvf⟩, hb⟩
  have Bww4 := hide (Bww3a.out.trans (hb.mono Bww3a.out.size))
  have Bw3w4 := hide (Bw3w3a.out.trans (hb.mono Bw3w3a.out.size))
  have OAw4 := hide (at_below OAw3a.out hb)
  have OLw4 := hide (at_below OLw3a.out hb)
  have zww4 : w.heap.size ≤ w4.heap.size := Bww4.out.size
  have zw3w4 : w3.heap.size ≤ w4.heap.size := Bw3w4.out.size
  have lAw4 : w2.heap.size < w4.heap.size := (Array.getElem?_eq_some_iff.1 OAw4.out).1
  have lLw4 : w3.heap.size < w4.heap.size := (Array.getElem?_eq_some_iff.1 OLw4.out).1
  clear hb Bww3a Bw3w3a OAw3a OLw3a
  have HV4 := hide (hv.set hvf (p := ⟨w3.heap.size, 6, none⟩) (by simp; omega) (.slice nv 3 mc))
  clear hv hvf
  have cL0 : w4.cell? ⟨w3.heap.size, 0, none⟩ = some (.slice p1 1 q1) := by rw [cell_of_row _ _ 0 _ _ _ OLw4.out]; rfl
  have fL0 : w4.frozen? ⟨w3.heap.size, 0, none⟩ = false := frozen_of_row _ _ 0 _ _ OLw4.out
  have cL1 : w4.cell? ⟨w3.heap.size, 1, none⟩ = some (.slice none 0 0) := by rw [cell_of_row _ _ 1 _ _ _ OLw4.out]; rfl
  have fL1 : w4.frozen? ⟨w3.heap.size, 1, none⟩ = false := frozen_of_row _ _ 1 _ _ OLw4.out
  have cL2 : w4.cell? ⟨w3.heap.size, 2, none⟩ = some (.slice none 0 0) := by rw [cell_of_row _ _ 2 _ _ _ OLw4.out]; rfl
  have fL2 : w4.frozen? ⟨w3.heap.size, 2, none⟩ = false := frozen_of_row _ _ 2 _ _ OLw4.out
  have cL3 : w4.cell? ⟨w3.heap.size, 3, none⟩ = some (.int .i64 0) := by rw [cell_of_row _ _ 3 _ _ _ OLw4.out]; rfl
  have fL3 : w4.frozen? ⟨w3.heap.size, 3, none⟩ = false := frozen_of_row _ _ 3 _ _ OLw4.out
  have cL4 : w4.cell? ⟨w3.heap.size, 4, none⟩ = some (.slice none 0 0) := by rw [cell_of_row _ _ 4 _ _ _ OLw4.out]; rfl
  have fL4 : w4.frozen? ⟨w3.heap.size, 4, none⟩ = false := frozen_of_row _ _ 4 _ _ OLw4.out
  have cL5 : w4.cell? ⟨w3.heap.size, 5, none⟩ = some (.slice pg 3 qg) := by rw [cell_of_row _ _ 5 _ _ _ OLw4.out]; rfl
  have fL5 : w4.frozen? ⟨w3.heap.size, 5, none⟩ = false := frozen_of_row _ _ 5 _ _ OLw4.out
  have cL6 : w4.cell? ⟨w3.heap.size, 6, none⟩ = some (.slice pv 3 qv) := by rw [cell_of_row _ _ 6 _ _ _ OLw4.out]; rfl
  have fL6 : w4.frozen? ⟨w3.heap.size, 6, none⟩ = false := frozen_of_row _ _ 6 _ _ OLw4.out
  have hfd : ∀ X : World, (Instr.field 32 (stV none none none 0 0 0 0 0 0 0 none 0 0 ng 3 nc nv 3 mc) 3).run Tryz.prog X = .ok (.slice nv 3 mc) X := fun _ => by rfl
  go_wp2_with fail
  clear cL0 cL1 cL2 cL3 cL4 cL5 cL6 fL0 fL1 fL2 fL3 fL4 fL5 fL6
  clear hfd
  have Bww4a := hide (Bww4.out.setCell (p := ⟨w3.heap.size, 6, none⟩) (by simp; try omega) (.slice nv 3 mc))
  have Bw3w4a := hide (Bw3w4.out.setCell (p := ⟨w3.heap.size, 6, none⟩) (by simp; try omega) (.slice nv 3 mc))
  have OAw4a := hide (heap_setO OAw4.out (p := ⟨w3.heap.size, 6, none⟩) (by simp; omega) (.slice nv 3 mc))
  have OLw4a := hide (heap_setCell_same _ (w3.heap.size) 6 _ _ (.slice nv 3 mc) OLw4.out)
  clear Bww4 Bw3w4 OAw4 OLw4
  generalize (w4.setCell ⟨w3.heap.size, 6, none⟩ (.slice nv 3 mc)) = w4a at *
  have zww4a : w.heap.size ≤ w4a.heap.size := Bww4a.out.size
  have zw3w4a : w3.heap.size ≤ w4a.heap.size := Bw3w4a.out.size
  have lAw4a : w2.heap.size < w4a.heap.size := (Array.getElem?_eq_some_iff.1 OAw4a.out).1
  have lLw4a : w3.heap.size < w4a.heap.size := (Array.getElem?_eq_some_iff.1 OLw4a.out).1
  have HSA := hide (show StW w4a p1 none none q1 0 0 hallT [] [] none 0 [] pg qg newG nv mc newV from by
    have h := HS3.out.below Bw3w4a.out
    exact ⟨h.led, h.lok, h.den, h.gts, h.gok, h.gle, h.gno, h.gln, HV4.out.eqs.2.1, HV4.out.eqs.2.2.1, HV4.out.eqs.2.2.2, by simp [newV]⟩)
  clear HS3 HV4
  refine (tapAlone HSA.out).mono ?_
  rintro e w5 ⟨⟨e1, f1, e2, f2, e3, f3, e4, f4, e5, f5, e6, f6, G', rfl, hm, hsB⟩, hb⟩
  have Bww5 := hide (Bww4a.out.trans (hb.mono Bww4a.out.size))
  have Bw4aw5 := hide hb
  have OAw5 := hide (at_below OAw4a.out hb)
  have OLw5 := hide (at_below OLw4a.out hb)
  have zww5 : w.heap.size ≤ w5.heap.size := Bww5.out.size
  have zw4aw5 : w4a.heap.size ≤ w5.heap.size := Bw4aw5.out.size
  have lAw5 : w2.heap.size < w5.heap.size := (Array.getElem?_eq_some_iff.1 OAw5.out).1
  have lLw5 : w3.heap.size < w5.heap.size := (Array.getElem?_eq_some_iff.1 OLw5.out).1
  clear hb Bww4a OAw4a OLw4a
  have HSB := hide hsB
  have HM := hide hm
  clear hsB hm
  go_wp2_with fail
  have hb := (Below.refl w5.heap.size w5).alloc (Nat.le_refl _) (.cells #[.slice e1 1 f1, .slice e2 0 f2, .slice e3 0 f3, .int .i64 0, .slice e4 0 f4, .slice e5 3 f5, .slice e6 3 f6] 32)
  have OBw5a := hide (heap_alloc_new w5 (.cells #[.slice e1 1 f1, .slice e2 0 f2, .slice e3 0 f3, .int .i64 0, .slice e4 0 f4, .slice e5 3 f5, .slice e6 3 f6] 32))
  have Bww5a := hide (Bww5.out.trans (hb.mono Bww5.out.size))
  have Bw4aw5a := hide (Bw4aw5.out.trans (hb.mono Bw4aw5.out.size))
  have Bw5w5a := hide hb
  have OAw5a := hide (at_below OAw5.out hb)
  have OLw5a := hide (at_below OLw5.out hb)
  clear hb Bww5 Bw4aw5 OAw5 OLw5
  generalize (w5.alloc (.cells #[.slice e1 1 f1, .slice e2 0 f2, .slice e3 0 f3, .int .i64 0, .slice e4 0 f4, .slice e5 3 f5, .slice e6 3 f6] 32)) = w5a at *
  have zww5a : w.heap.size ≤ w5a.heap.size := Bww5a.out.size
  have zw4aw5a : w4a.heap.size ≤ w5a.heap.size := Bw4aw5a.out.size
  have zw5w5a : w5.heap.size ≤ w5a.heap.size := Bw5w5a.out.size
  have lAw5a : w2.heap.size < w5a.heap.size := (Array.getElem?_eq_some_iff.1 OAw5a.out).1
  have lLw5a : w3.heap.size < w5a.heap.size := (Array.getElem?_eq_some_iff.1 OLw5a.out).1
  have lBw5a : w5.heap.size < w5a.heap.size := (Array.getElem?_eq_some_iff.1 OBw5a.out).1
  refine (hall_any _).mono ?_
  rintro e w6 ⟨⟨r1, s1, rg, sg, rv, sv, rfl, hs6, hf6⟩, hb⟩
  have Bww6 := hide (Bww5a.out.trans (hb.mono Bww5a.out.size))
  have Bw4aw6 := hide (Bw4aw5a.out.trans (hb.mono Bw4aw5a.out.size))
  have Bw5w6 := hide (Bw5w5a.out.trans (hb.mono Bw5w5a.out.size))
  have OAw6 := hide (at_below OAw5a.out hb)
  have OLw6 := hide (at_below OLw5a.out hb)
  have OBw6 := hide (at_below OBw5a.out hb)
  have zww6 : w.heap.size ≤ w6.heap.size := Bww6.out.size
  have zw4aw6 : w4a.heap.size ≤ w6.heap.size := Bw4aw6.out.size
  have zw5w6 : w5.heap.size ≤ w6.heap.size := Bw5w6.out.size
  have lAw6 : w2.heap.size < w6.heap.size := (Array.getElem?_eq_some_iff.1 OAw6.out).1
  have lLw6 : w3.heap.size < w6.heap.size := (Array.getElem?_eq_some_iff.1 OLw6.out).1
  have lBw6 : w5.heap.size < w6.heap.size := (Array.getElem?_eq_some_iff.1 OBw6.out).1
  clear hb Bww5a Bw4aw5a Bw5w5a OAw5a OLw5a OBw5a
  have HV6 := hide ((show VwsV w6 (.slice rv 3 sv) hallW from ⟨_, _, rfl, hs6.vws, hs6.vle, hs6.vno⟩).set hf6 (p := ⟨w5.heap.size, 6, none⟩) (by simp; omega) (.slice rv 3 sv))
  clear hs6 hf6
  have cB0 : w6.cell? ⟨w5.heap.size, 0, none⟩ = some (.slice e1 1 f1) := by rw [cell_of_row _ _ 0 _ _ _ OBw6.out]; rfl
  have fB0 : w6.frozen? ⟨w5.heap.size, 0, none⟩ = false := frozen_of_row _ _ 0 _ _ OBw6.out
  have cB1 : w6.cell? ⟨w5.heap.size, 1, none⟩ = some (.slice e2 0 f2) := by rw [cell_of_row _ _ 1 _ _ _ OBw6.out]; rfl
  have fB1 : w6.frozen? ⟨w5.heap.size, 1, none⟩ = false := frozen_of_row _ _ 1 _ _ OBw6.out
  have cB2 : w6.cell? ⟨w5.heap.size, 2, none⟩ = some (.slice e3 0 f3) := by rw [cell_of_row _ _ 2 _ _ _ OBw6.out]; rfl
  have fB2 : w6.frozen? ⟨w5.heap.size, 2, none⟩ = false := frozen_of_row _ _ 2 _ _ OBw6.out
  have cB3 : w6.cell? ⟨w5.heap.size, 3, none⟩ = some (.int .i64 0) := by rw [cell_of_row _ _ 3 _ _ _ OBw6.out]; rfl
  have fB3 : w6.frozen? ⟨w5.heap.size, 3, none⟩ = false := frozen_of_row _ _ 3 _ _ OBw6.out
  have cB4 : w6.cell? ⟨w5.heap.size, 4, none⟩ = some (.slice e4 0 f4) := by rw [cell_of_row _ _ 4 _ _ _ OBw6.out]; rfl
  have fB4 : w6.frozen? ⟨w5.heap.size, 4, none⟩ = false := frozen_of_row _ _ 4 _ _ OBw6.out
  have cB5 : w6.cell? ⟨w5.heap.size, 5, none⟩ = some (.slice e5 3 f5) := by rw [cell_of_row _ _ 5 _ _ _ OBw6.out]; rfl
  have fB5 : w6.frozen? ⟨w5.heap.size, 5, none⟩ = false := frozen_of_row _ _ 5 _ _ OBw6.out
  have cB6 : w6.cell? ⟨w5.heap.size, 6, none⟩ = some (.slice e6 3 f6) := by rw [cell_of_row _ _ 6 _ _ _ OBw6.out]; rfl
  have fB6 : w6.frozen? ⟨w5.heap.size, 6, none⟩ = false := frozen_of_row _ _ 6 _ _ OBw6.out
  have hfd : ∀ X : World, (Instr.field 32 (stV r1 none none 1 s1 0 0 0 0 0 none 0 0 rg 3 sg rv 3 sv) 3).run Tryz.prog X = .ok (.slice rv 3 sv) X := fun _ => by rfl
  go_wp2_with fail
  clear cB0 cB1 cB2 cB3 cB4 cB5 cB6 fB0 fB1 fB2 fB3 fB4 fB5 fB6
  clear hfd
  have Bww6a := hide (Bww6.out.setCell (p := ⟨w5.heap.size, 6, none⟩) (by simp; try omega) (.slice rv 3 sv))
  have Bw4aw6a := hide (Bw4aw6.out.setCell (p := ⟨w5.heap.size, 6, none⟩) (by simp; try omega) (.slice rv 3 sv))
  have Bw5w6a := hide (Bw5w6.out.setCell (p := ⟨w5.heap.size, 6, none⟩) (by simp; try omega) (.slice rv 3 sv))
  have OAw6a := hide (heap_setO OAw6.out (p := ⟨w5.heap.size, 6, none⟩) (by simp; omega) (.slice rv 3 sv))
  have OLw6a := hide (heap_setO OLw6.out (p := ⟨w5.heap.size, 6, none⟩) (by simp; omega) (.slice rv 3 sv))
  have OBw6a := hide (heap_setCell_same _ (w5.heap.size) 6 _ _ (.slice rv 3 sv) OBw6.out)
  clear Bww6 Bw4aw6 Bw5w6 OAw6 OLw6 OBw6
  generalize (w6.setCell ⟨w5.heap.size, 6, none⟩ (.slice rv 3 sv)) = w6a at *
  have zww6a : w.heap.size ≤ w6a.heap.size := Bww6a.out.size
  have zw4aw6a : w4a.heap.size ≤ w6a.heap.size := Bw4aw6a.out.size
  have zw5w6a : w5.heap.size ≤ w6a.heap.size := Bw5w6a.out.size
  have lAw6a : w2.heap.size < w6a.heap.size := (Array.getElem?_eq_some_iff.1 OAw6a.out).1
  have lLw6a : w3.heap.size < w6a.heap.size := (Array.getElem?_eq_some_iff.1 OLw6a.out).1
  have lBw6a : w5.heap.size < w6a.heap.size := (Array.getElem?_eq_some_iff.1 OBw6a.out).1
  have HSC := hide (show StW w6a e1 e2 e3 f1 f2 f3 hallT [] [] e4 f4 [] e5 f5 G' rv sv hallW from by
    have h := HSB.out.below Bw5w6a.out
    exact ⟨h.led, h.lok, h.den, h.gts, h.gok, h.gle, h.gno, h.gln, HV6.out.eqs.2.1, HV6.out.eqs.2.2.1, HV6.out.eqs.2.2.2, by simp [hallW]⟩)
  clear HSB HV6
  refine (tapB HM.out HSC.out).mono ?_
  rintro e w7 ⟨⟨vv, rfl⟩, hb⟩
  have Bww7 := hide (Bww6a.out.trans (hb.mono Bww6a.out.size))
  have Bw4aw7 := hide (Bw4aw6a.out.trans (hb.mono Bw4aw6a.out.size))
  have Bw6aw7 := hide hb
  have OAw7 := hide (at_below OAw6a.out hb)
  have OLw7 := hide (at_below OLw6a.out hb)
  have OBw7 := hide (at_below OBw6a.out hb)
  have zww7 : w.heap.size ≤ w7.heap.size := Bww7.out.size
  have zw4aw7 : w4a.heap.size ≤ w7.heap.size := Bw4aw7.out.size
  have zw6aw7 : w6a.heap.size ≤ w7.heap.size := Bw6aw7.out.size
  have lAw7 : w2.heap.size < w7.heap.size := (Array.getElem?_eq_some_iff.1 OAw7.out).1
  have lLw7 : w3.heap.size < w7.heap.size := (Array.getElem?_eq_some_iff.1 OLw7.out).1
  have lBw7 : w5.heap.size < w7.heap.size := (Array.getElem?_eq_some_iff.1 OBw7.out).1
  clear hb Bww6a Bw4aw6a OAw6a OLw6a OBw6a
  go_wp2_with fail
  have hb := (Below.refl w7.heap.size w7).alloc (Nat.le_refl _) (.cells #[.slice none 0 0, .slice none 0 0, .slice none 0 0, .int .i64 0, .slice none 0 0, .slice none 0 0, .slice none 0 0] 32)
  have OCw7a := hide (heap_alloc_new w7 (.cells #[.slice none 0 0, .slice none 0 0, .slice none 0 0, .int .i64 0, .slice none 0 0, .slice none 0 0, .slice none 0 0] 32))
  have Bww7a := hide (Bww7.out.trans (hb.mono Bww7.out.size))
  have Bw4aw7a := hide (Bw4aw7.out.trans (hb.mono Bw4aw7.out.size))
  have Bw6aw7a := hide (Bw6aw7.out.trans (hb.mono Bw6aw7.out.size))
  have OAw7a := hide (at_below OAw7.out hb)
  have OLw7a := hide (at_below OLw7.out hb)
  have OBw7a := hide (at_below OBw7.out hb)
  clear hb Bww7 Bw4aw7 Bw6aw7 OAw7 OLw7 OBw7
  generalize (w7.alloc (.cells #[.slice none 0 0, .slice none 0 0, .slice none 0 0, .int .i64 0, .slice none 0 0, .slice none 0 0, .slice none 0 0] 32)) = w7a at *
  have zww7a : w.heap.size ≤ w7a.heap.size := Bww7a.out.size
  have zw4aw7a : w4a.heap.size ≤ w7a.heap.size := Bw4aw7a.out.size
  have zw6aw7a : w6a.heap.size ≤ w7a.heap.size := Bw6aw7a.out.size
  have lAw7a : w2.heap.size < w7a.heap.size := (Array.getElem?_eq_some_iff.1 OAw7a.out).1
  have lLw7a : w3.heap.size < w7a.heap.size := (Array.getElem?_eq_some_iff.1 OLw7a.out).1
  have lBw7a : w5.heap.size < w7a.heap.size := (Array.getElem?_eq_some_iff.1 OBw7a.out).1
  have lCw7a : w7.heap.size < w7a.heap.size := (Array.getElem?_eq_some_iff.1 OCw7a.out).1
  refine (hall_any _).mono ?_
  rintro e w8 ⟨⟨u1, t1, ug, tg, uv, tv, rfl, hs8, -⟩, hb⟩
  have Bww8 := hide (Bww7a.out.trans (hb.mono Bww7a.out.size))
  have Bw4aw8 := hide (Bw4aw7a.out.trans (hb.mono Bw4aw7a.out.size))
  have Bw6aw8 := hide (Bw6aw7a.out.trans (hb.mono Bw6aw7a.out.size))
  have OAw8 := hide (at_below OAw7a.out hb)
  have OLw8 := hide (at_below OLw7a.out hb)
  have OBw8 := hide (at_below OBw7a.out hb)
  have OCw8 := hide (at_below OCw7a.out hb)
  have zww8 : w.heap.size ≤ w8.heap.size := Bww8.out.size
  have zw4aw8 : w4a.heap.size ≤ w8.heap.size := Bw4aw8.out.size
  have zw6aw8 : w6a.heap.size ≤ w8.heap.size := Bw6aw8.out.size
  have lAw8 : w2.heap.size < w8.heap.size := (Array.getElem?_eq_some_iff.1 OAw8.out).1
  have lLw8 : w3.heap.size < w8.heap.size := (Array.getElem?_eq_some_iff.1 OLw8.out).1
  have lBw8 : w5.heap.size < w8.heap.size := (Array.getElem?_eq_some_iff.1 OBw8.out).1
  have lCw8 : w7.heap.size < w8.heap.size := (Array.getElem?_eq_some_iff.1 OCw8.out).1
  clear hb Bww7a Bw4aw7a Bw6aw7a OAw7a OLw7a OBw7a OCw7a
  have HS8 := hide hs8
  clear hs8
  go_wp2_with fail
  refine (single_any _ _).mono ?_
  rintro e w9 ⟨rfl, hb⟩
  have Bww9 := hide (Bww8.out.trans (hb.mono Bww8.out.size))
  have Bw4aw9 := hide (Bw4aw8.out.trans (hb.mono Bw4aw8.out.size))
  have Bw6aw9 := hide (Bw6aw8.out.trans (hb.mono Bw6aw8.out.size))
  have Bw8w9 := hide hb
  have OAw9 := hide (at_below OAw8.out hb)
  have OLw9 := hide (at_below OLw8.out hb)
  have OBw9 := hide (at_below OBw8.out hb)
  have OCw9 := hide (at_below OCw8.out hb)
  have zww9 : w.heap.size ≤ w9.heap.size := Bww9.out.size
  have zw4aw9 : w4a.heap.size ≤ w9.heap.size := Bw4aw9.out.size
  have zw6aw9 : w6a.heap.size ≤ w9.heap.size := Bw6aw9.out.size
  have zw8w9 : w8.heap.size ≤ w9.heap.size := Bw8w9.out.size
  have lAw9 : w2.heap.size < w9.heap.size := (Array.getElem?_eq_some_iff.1 OAw9.out).1
  have lLw9 : w3.heap.size < w9.heap.size := (Array.getElem?_eq_some_iff.1 OLw9.out).1
  have lBw9 : w5.heap.size < w9.heap.size := (Array.getElem?_eq_some_iff.1 OBw9.out).1
  have lCw9 : w7.heap.size < w9.heap.size := (Array.getElem?_eq_some_iff.1 OCw9.out).1
  clear hb Bww8 Bw4aw8 Bw6aw8 OAw8 OLw8 OBw8 OCw8
  go_wp2_with fail
  refine (sellHall (HS8.out.below Bw8w9.out)).mono ?_
  rintro e w10 ⟨⟨h1, i1, h2, i2, h3, i3, h4, i4, h5, i5, h6, i6, rfl⟩, hb⟩
  have Bww10 := hide (Bww9.out.trans (hb.mono Bww9.out.size))
  have Bw4aw10 := hide (Bw4aw9.out.trans (hb.mono Bw4aw9.out.size))
  have Bw6aw10 := hide (Bw6aw9.out.trans (hb.mono Bw6aw9.out.size))
  have Bw8w10 := hide (Bw8w9.out.trans (hb.mono Bw8w9.out.size))
  have OAw10 := hide (at_below OAw9.out hb)
  have OLw10 := hide (at_below OLw9.out hb)
  have OBw10 := hide (at_below OBw9.out hb)
  have OCw10 := hide (at_below OCw9.out hb)
  have zww10 : w.heap.size ≤ w10.heap.size := Bww10.out.size
  have zw4aw10 : w4a.heap.size ≤ w10.heap.size := Bw4aw10.out.size
  have zw6aw10 : w6a.heap.size ≤ w10.heap.size := Bw6aw10.out.size
  have zw8w10 : w8.heap.size ≤ w10.heap.size := Bw8w10.out.size
  have lAw10 : w2.heap.size < w10.heap.size := (Array.getElem?_eq_some_iff.1 OAw10.out).1
  have lLw10 : w3.heap.size < w10.heap.size := (Array.getElem?_eq_some_iff.1 OLw10.out).1
  have lBw10 : w5.heap.size < w10.heap.size := (Array.getElem?_eq_some_iff.1 OBw10.out).1
  have lCw10 : w7.heap.size < w10.heap.size := (Array.getElem?_eq_some_iff.1 OCw10.out).1
  clear hb Bww9 Bw4aw9 Bw6aw9 Bw8w9 OAw9 OLw9 OBw9 OCw9
  clear HS8
  have cB0 : w10.cell? ⟨w5.heap.size, 0, none⟩ = some (.slice e1 1 f1) := by rw [cell_of_row _ _ 0 _ _ _ OBw10.out]; rfl
  have cB1 : w10.cell? ⟨w5.heap.size, 1, none⟩ = some (.slice e2 0 f2) := by rw [cell_of_row _ _ 1 _ _ _ OBw10.out]; rfl
  have cB2 : w10.cell? ⟨w5.heap.size, 2, none⟩ = some (.slice e3 0 f3) := by rw [cell_of_row _ _ 2 _ _ _ OBw10.out]; rfl
  have cB3 : w10.cell? ⟨w5.heap.size, 3, none⟩ = some (.int .i64 0) := by rw [cell_of_row _ _ 3 _ _ _ OBw10.out]; rfl
  have cB4 : w10.cell? ⟨w5.heap.size, 4, none⟩ = some (.slice e4 0 f4) := by rw [cell_of_row _ _ 4 _ _ _ OBw10.out]; rfl
  have cB5 : w10.cell? ⟨w5.heap.size, 5, none⟩ = some (.slice e5 3 f5) := by rw [cell_of_row _ _ 5 _ _ _ OBw10.out]; rfl
  have cB6 : w10.cell? ⟨w5.heap.size, 6, none⟩ = some (.slice rv 3 sv) := by rw [cell_of_row _ _ 6 _ _ _ OBw10.out]; rfl
  go_wp2_with fail
  clear cB0 cB1 cB2 cB3 cB4 cB5 cB6
  have hb := (Below.refl w10.heap.size w10).alloc (Nat.le_refl _) (.cells #[.slice h1 2 i1, .slice h2 0 i2, .slice h3 0 i3, .int .i64 0, .slice h4 0 i4, .slice h5 3 i5, .slice h6 3 i6] 32)
  have ODw10a := hide (heap_alloc_new w10 (.cells #[.slice h1 2 i1, .slice h2 0 i2, .slice h3 0 i3, .int .i64 0, .slice h4 0 i4, .slice h5 3 i5, .slice h6 3 i6] 32))
  have Bww10a := hide (Bww10.out.trans (hb.mono Bww10.out.size))
  have Bw4aw10a := hide (Bw4aw10.out.trans (hb.mono Bw4aw10.out.size))
  have Bw6aw10a := hide (Bw6aw10.out.trans (hb.mono Bw6aw10.out.size))
  have OAw10a := hide (at_below OAw10.out hb)
  have OLw10a := hide (at_below OLw10.out hb)
  have OBw10a := hide (at_below OBw10.out hb)
  have OCw10a := hide (at_below OCw10.out hb)
  clear hb Bww10 Bw4aw10 Bw6aw10 OAw10 OLw10 OBw10 OCw10
  generalize (w10.alloc (.cells #[.slice h1 2 i1, .slice h2 0 i2, .slice h3 0 i3, .int .i64 0, .slice h4 0 i4, .slice h5 3 i5, .slice h6 3 i6] 32)) = w10a at *
  have zww10a : w.heap.size ≤ w10a.heap.size := Bww10a.out.size
  have zw4aw10a : w4a.heap.size ≤ w10a.heap.size := Bw4aw10a.out.size
  have zw6aw10a : w6a.heap.size ≤ w10a.heap.size := Bw6aw10a.out.size
  have lAw10a : w2.heap.size < w10a.heap.size := (Array.getElem?_eq_some_iff.1 OAw10a.out).1
  have lLw10a : w3.heap.size < w10a.heap.size := (Array.getElem?_eq_some_iff.1 OLw10a.out).1
  have lBw10a : w5.heap.size < w10a.heap.size := (Array.getElem?_eq_some_iff.1 OBw10a.out).1
  have lCw10a : w7.heap.size < w10a.heap.size := (Array.getElem?_eq_some_iff.1 OCw10a.out).1
  have lDw10a : w10.heap.size < w10a.heap.size := (Array.getElem?_eq_some_iff.1 ODw10a.out).1
  refine (syncB HM.out (HSC.out.below Bw6aw10a.out)).mono ?_
  rintro e w11 ⟨⟨j1, k1, j2, k2, j3, k3, j4, k4, j5, k5, j6, k6, o, c, rfl⟩, hb⟩
  have Bww11 := hide (Bww10a.out.trans (hb.mono Bww10a.out.size))
  have Bw4aw11 := hide (Bw4aw10a.out.trans (hb.mono Bw4aw10a.out.size))
  have Bw6aw11 := hide (Bw6aw10a.out.trans (hb.mono Bw6aw10a.out.size))
  have OAw11 := hide (at_below OAw10a.out hb)
  have OLw11 := hide (at_below OLw10a.out hb)
  have OBw11 := hide (at_below OBw10a.out hb)
  have OCw11 := hide (at_below OCw10a.out hb)
  have ODw11 := hide (at_below ODw10a.out hb)
  have zww11 : w.heap.size ≤ w11.heap.size := Bww11.out.size
  have zw4aw11 : w4a.heap.size ≤ w11.heap.size := Bw4aw11.out.size
  have zw6aw11 : w6a.heap.size ≤ w11.heap.size := Bw6aw11.out.size
  have lAw11 : w2.heap.size < w11.heap.size := (Array.getElem?_eq_some_iff.1 OAw11.out).1
  have lLw11 : w3.heap.size < w11.heap.size := (Array.getElem?_eq_some_iff.1 OLw11.out).1
  have lBw11 : w5.heap.size < w11.heap.size := (Array.getElem?_eq_some_iff.1 OBw11.out).1
  have lCw11 : w7.heap.size < w11.heap.size := (Array.getElem?_eq_some_iff.1 OCw11.out).1
  have lDw11 : w10.heap.size < w11.heap.size := (Array.getElem?_eq_some_iff.1 ODw11.out).1
  clear hb Bww10a Bw4aw10a Bw6aw10a OAw10a OLw10a OBw10a OCw10a ODw10a
  go_upto_region 9 with fail
  have hb := (Below.refl w11.heap.size w11).alloc (Nat.le_refl _) (.cells #[.slice j1 1 k1, .slice j2 1 k2, .slice j3 1 k3, .int .i64 0, .slice j4 0 k4, .slice j5 3 k5, .slice j6 3 k6] 32)
  have OSwa := hide (heap_alloc_new w11 (.cells #[.slice j1 1 k1, .slice j2 1 k2, .slice j3 1 k3, .int .i64 0, .slice j4 0 k4, .slice j5 3 k5, .slice j6 3 k6] 32))
  have Bwwa := hide (Bww11.out.trans (hb.mono Bww11.out.size))
  have Bw4awa := hide (Bw4aw11.out.trans (hb.mono Bw4aw11.out.size))
  have Bw6awa := hide (Bw6aw11.out.trans (hb.mono Bw6aw11.out.size))
  have OAwa := hide (at_below OAw11.out hb)
  have OLwa := hide (at_below OLw11.out hb)
  have OBwa := hide (at_below OBw11.out hb)
  have OCwa := hide (at_below OCw11.out hb)
  have ODwa := hide (at_below ODw11.out hb)
  clear hb Bww11 Bw4aw11 Bw6aw11 OAw11 OLw11 OBw11 OCw11 ODw11
  generalize (w11.alloc (.cells #[.slice j1 1 k1, .slice j2 1 k2, .slice j3 1 k3, .int .i64 0, .slice j4 0 k4, .slice j5 3 k5, .slice j6 3 k6] 32)) = wa at *
  have zwwa : w.heap.size ≤ wa.heap.size := Bwwa.out.size
  have zw4awa : w4a.heap.size ≤ wa.heap.size := Bw4awa.out.size
  have zw6awa : w6a.heap.size ≤ wa.heap.size := Bw6awa.out.size
  have lAwa : w2.heap.size < wa.heap.size := (Array.getElem?_eq_some_iff.1 OAwa.out).1
  have lLwa : w3.heap.size < wa.heap.size := (Array.getElem?_eq_some_iff.1 OLwa.out).1
  have lBwa : w5.heap.size < wa.heap.size := (Array.getElem?_eq_some_iff.1 OBwa.out).1
  have lCwa : w7.heap.size < wa.heap.size := (Array.getElem?_eq_some_iff.1 OCwa.out).1
  have lDwa : w10.heap.size < wa.heap.size := (Array.getElem?_eq_some_iff.1 ODwa.out).1
  have lSwa : w11.heap.size < wa.heap.size := (Array.getElem?_eq_some_iff.1 OSwa.out).1
  go_cut [16, 17] from 55 to 61 (fun s16 s17 wx => s17 = .int .i64 4 ∧ Hid (Below wa.heap.size wa wx))
  case first =>
    refine wp_region_reads (fun w' => w'.heap[w3.heap.size]? = some (.cells #[.slice p1 1 q1, .slice none 0 0, .slice none 0 0, .int .i64 0, .slice none 0 0, .slice pg 3 qg, .slice nv 3 mc] 32)) [0] 8 (by rfl) (by kernel_rfl) (by kernel_rfl) (by kernel_rfl) (fun c d v a w h => by cases d <;> exact h) ?_ ?_
    · exact at_below OLwa.out (Below.refl _ _).drew
    refine wpPureH_step (stV p1 none none 1 q1 0 0 0 0 0 none 0 0 pg 3 qg nv 3 mc) rfl rfl (fun w' hS => ?_) ?_
    · have q0 : w'.cell? ⟨w3.heap.size, 0, none⟩ = some (.slice p1 1 q1) := by rw [cell_of_row _ _ 0 _ _ _ hS]; rfl
      have q1 : w'.cell? ⟨w3.heap.size, 1, none⟩ = some (.slice none 0 0) := by rw [cell_of_row _ _ 1 _ _ _ hS]; rfl
      have q2 : w'.cell? ⟨w3.heap.size, 2, none⟩ = some (.slice none 0 0) := by rw [cell_of_row _ _ 2 _ _ _ hS]; rfl
      have q3 : w'.cell? ⟨w3.heap.size, 3, none⟩ = some (.int .i64 0) := by rw [cell_of_row _ _ 3 _ _ _ hS]; rfl
      have q4 : w'.cell? ⟨w3.heap.size, 4, none⟩ = some (.slice none 0 0) := by rw [cell_of_row _ _ 4 _ _ _ hS]; rfl
      have q5 : w'.cell? ⟨w3.heap.size, 5, none⟩ = some (.slice pg 3 qg) := by rw [cell_of_row _ _ 5 _ _ _ hS]; rfl
      have q6 : w'.cell? ⟨w3.heap.size, 6, none⟩ = some (.slice nv 3 mc) := by rw [cell_of_row _ _ 6 _ _ _ hS]; rfl
      go_simp
    refine wpPureH_nil ?_
    have HLd := hide (at_below OLwa.out (Below.refl _ _).drew)
    have HSd := hide ((HSA.out.below Bw4awa.out).below (Below.refl _ _).drew)
    have HAd := hide ((Below.refl wa.heap.size wa).drew)
    have hsd : wa.heap.size ≤ wa.drew.heap.size := Nat.le_refl _
    generalize (World.drew _) = w0 at *
    refine two_readyH (i := 1) (j := 6) (by kernel_rfl) rfl rfl rfl rfl (fun K hK => ?_) (fun K hK => ?_)
    · go_simp
      refine (single_any _ _).mono ?_
      rintro e v1 ⟨rfl, hb⟩
      have HB1 := hide (hb)
      refine hK _ _ (at_below HLd.out HB1.out) ?_
      clear hK K hb
      refine two_readyH (i := 2) (j := 6) (by kernel_rfl) rfl rfl rfl rfl (fun K hK => ?_) (fun K hK => ?_)
      · go_simp
        refine (sellAlone4 (HSd.out.below HB1.out)).mono ?_
        rintro e v2 ⟨rfl, hb⟩
        have HB2 := hide (HB1.out.trans (hb.mono HB1.out.size))
        refine hK _ _ (at_below HLd.out HB2.out) ?_
        clear hK K hb
        refine takesH (fuel := 3) (by kernel_rfl) (fun c d v a w h => by cases d <;> exact h) (at_below HLd.out HB2.out) [3, 4, 5] _ _ (by kernel_rfl) ?_
        refine wpPureH_step (.tuple #[stV none none none 0 0 0 0 0 0 0 none 0 0 none 0 0 none 0 0, .int .i64 4]) rfl rfl (fun w' _ => by go_simp) ?_
        refine wpPureH_step (stV none none none 0 0 0 0 0 0 0 none 0 0 none 0 0 none 0 0) rfl rfl (fun w' _ => by go_simp) ?_
        refine wpPureH_step (.int .i64 4) rfl rfl (fun w' _ => by go_simp) ?_
        refine wpPureH_nil ?_
        refine one_readyH (i := 6) (by kernel_rfl) rfl rfl (fun K hK => ?_)
        go_simp
        have hb := (Below.refl v2.heap.size v2).alloc (Nat.le_refl _) (.cells #[.slice none 0 0, .slice none 0 0, .slice none 0 0, .int .i64 0, .slice none 0 0, .slice none 0 0, .slice none 0 0] 32)
        have HB3 := hide (HB2.out.trans (hb.mono HB2.out.size))
        have HZ3 := hide (heap_alloc_new v2 (.cells #[.slice none 0 0, .slice none 0 0, .slice none 0 0, .int .i64 0, .slice none 0 0, .slice none 0 0, .slice none 0 0] 32))
        have q3 : v2.heap.size < (v2.alloc (.cells #[.slice none 0 0, .slice none 0 0, .slice none 0 0, .int .i64 0, .slice none 0 0, .slice none 0 0, .slice none 0 0] 32)).heap.size := by simp
        have u3 : w0.heap.size ≤ v2.heap.size := HB2.out.size
        refine hK _ _ (at_below HLd.out HB3.out) ?_
        clear hK K hb
        generalize v2.alloc (.cells #[.slice none 0 0, .slice none 0 0, .slice none 0 0, .int .i64 0, .slice none 0 0, .slice none 0 0, .slice none 0 0] 32) = v3 at *
        have r0 := cell_of_row _ _ 0 _ _ _ HZ3.out
        have s0 := frozen_of_row _ _ 0 _ _ HZ3.out
        have r1 := cell_of_row _ _ 1 _ _ _ HZ3.out
        have s1 := frozen_of_row _ _ 1 _ _ HZ3.out
        have r2 := cell_of_row _ _ 2 _ _ _ HZ3.out
        have s2 := frozen_of_row _ _ 2 _ _ HZ3.out
        have r3 := cell_of_row _ _ 3 _ _ _ HZ3.out
        have s3 := frozen_of_row _ _ 3 _ _ HZ3.out
        have r4 := cell_of_row _ _ 4 _ _ _ HZ3.out
        have s4 := frozen_of_row _ _ 4 _ _ HZ3.out
        have r5 := cell_of_row _ _ 5 _ _ _ HZ3.out
        have s5 := frozen_of_row _ _ 5 _ _ HZ3.out
        have r6 := cell_of_row _ _ 6 _ _ _ HZ3.out
        have s6 := frozen_of_row _ _ 6 _ _ HZ3.out
        simp at r0 r1 r2 r3 r4 r5 r6
        have HBz := hide (((((((HB3.out.setCell (p := ⟨v2.heap.size, 0, none⟩) (by simp; try omega) (.slice none 0 0)).setCell (p := ⟨v2.heap.size, 1, none⟩) (by simp; try omega) (.slice none 0 0)).setCell (p := ⟨v2.heap.size, 2, none⟩) (by simp; try omega) (.slice none 0 0)).setCell (p := ⟨v2.heap.size, 3, none⟩) (by simp; try omega) (.int .i64 0)).setCell (p := ⟨v2.heap.size, 4, none⟩) (by simp; try omega) (.slice none 0 0)).setCell (p := ⟨v2.heap.size, 5, none⟩) (by simp; try omega) (.slice none 0 0)).setCell (p := ⟨v2.heap.size, 6, none⟩) (by simp; try omega) (.slice none 0 0))
        refine one_readyH (i := 7) (by kernel_rfl) rfl rfl (fun K hK => ?_)
        go_simp
        refine hK _ _ (at_below HLd.out HBz.out) ?_
        clear hK K r0 s0 r1 s1 r2 s2 r3 s3 r4 s4 r5 s5 r6 s6
        generalize (((((((v3.setCell ⟨v2.heap.size, 0, none⟩ (.slice none 0 0)).setCell ⟨v2.heap.size, 1, none⟩ (.slice none 0 0)).setCell ⟨v2.heap.size, 2, none⟩ (.slice none 0 0)).setCell ⟨v2.heap.size, 3, none⟩ (.int .i64 0)).setCell ⟨v2.heap.size, 4, none⟩ (.slice none 0 0)).setCell ⟨v2.heap.size, 5, none⟩ (.slice none 0 0)).setCell ⟨v2.heap.size, 6, none⟩ (.slice none 0 0)) = wz at *
        refine one_readyH (i := 8) (by kernel_rfl) rfl rfl (fun K hK => ?_)
        go_simp
        refine hK _ _ (at_below HLd.out HBz.out) ?_
        clear hK K
        refine wpAnyH_done (by kernel_rfl) ?_ _
        go_wp2_with fail
        go_meet
        case rel => exact ⟨rfl, hide (HAd.out.trans (HBz.out.mono (by omega)))⟩
      · go_simp
        have hb := (Below.refl v1.heap.size v1).alloc (Nat.le_refl _) (.cells #[.slice none 0 0, .slice none 0 0, .slice none 0 0, .int .i64 0, .slice none 0 0, .slice none 0 0, .slice none 0 0] 32)
        have HB4 := hide (HB1.out.trans (hb.mono HB1.out.size))
        have HZ4 := hide (heap_alloc_new v1 (.cells #[.slice none 0 0, .slice none 0 0, .slice none 0 0, .int .i64 0, .slice none 0 0, .slice none 0 0, .slice none 0 0] 32))
        have q4 : v1.heap.size < (v1.alloc (.cells #[.slice none 0 0, .slice none 0 0, .slice none 0 0, .int .i64 0, .slice none 0 0, .slice none 0 0, .slice none 0 0] 32)).heap.size := by simp
        have u4 : w0.heap.size ≤ v1.heap.size := HB1.out.size
        refine hK _ _ (at_below HLd.out HB4.out) ?_
        clear hK K hb
        generalize v1.alloc (.cells #[.slice none 0 0, .slice none 0 0, .slice none 0 0, .int .i64 0, .slice none 0 0, .slice none 0 0, .slice none 0 0] 32) = v4 at *
        refine one_readyH (i := 2) (by kernel_rfl) rfl rfl (fun K hK => ?_)
        go_simp
        refine (sellAlone4 (HSd.out.below HB4.out)).mono ?_
        rintro e v5 ⟨rfl, hb⟩
        have HB5 := hide (HB4.out.trans (hb.mono HB4.out.size))
        have HZ5 := hide (at_below HZ4.out hb)
        have q5 : v1.heap.size < v5.heap.size := (Array.getElem?_eq_some_iff.1 HZ5.out).1
        refine hK _ _ (at_below HLd.out HB5.out) ?_
        clear hK K hb
        refine takesH (fuel := 2) (by kernel_rfl) (fun c d v a w h => by cases d <;> exact h) (at_below HLd.out HB5.out) [3, 4, 5] _ _ (by kernel_rfl) ?_
        refine wpPureH_step (.tuple #[stV none none none 0 0 0 0 0 0 0 none 0 0 none 0 0 none 0 0, .int .i64 4]) rfl rfl (fun w' _ => by go_simp) ?_
        refine wpPureH_step (stV none none none 0 0 0 0 0 0 0 none 0 0 none 0 0 none 0 0) rfl rfl (fun w' _ => by go_simp) ?_
        refine wpPureH_step (.int .i64 4) rfl rfl (fun w' _ => by go_simp) ?_
        refine wpPureH_nil ?_
        have r0 := cell_of_row _ _ 0 _ _ _ HZ5.out
        have s0 := frozen_of_row _ _ 0 _ _ HZ5.out
        have r1 := cell_of_row _ _ 1 _ _ _ HZ5.out
        have s1 := frozen_of_row _ _ 1 _ _ HZ5.out
        have r2 := cell_of_row _ _ 2 _ _ _ HZ5.out
        have s2 := frozen_of_row _ _ 2 _ _ HZ5.out
        have r3 := cell_of_row _ _ 3 _ _ _ HZ5.out
        have s3 := frozen_of_row _ _ 3 _ _ HZ5.out
        have r4 := cell_of_row _ _ 4 _ _ _ HZ5.out
        have s4 := frozen_of_row _ _ 4 _ _ HZ5.out
        have r5 := cell_of_row _ _ 5 _ _ _ HZ5.out
        have s5 := frozen_of_row _ _ 5 _ _ HZ5.out
        have r6 := cell_of_row _ _ 6 _ _ _ HZ5.out
        have s6 := frozen_of_row _ _ 6 _ _ HZ5.out
        simp at r0 r1 r2 r3 r4 r5 r6
        have HBz := hide (((((((HB5.out.setCell (p := ⟨v1.heap.size, 0, none⟩) (by simp; try omega) (.slice none 0 0)).setCell (p := ⟨v1.heap.size, 1, none⟩) (by simp; try omega) (.slice none 0 0)).setCell (p := ⟨v1.heap.size, 2, none⟩) (by simp; try omega) (.slice none 0 0)).setCell (p := ⟨v1.heap.size, 3, none⟩) (by simp; try omega) (.int .i64 0)).setCell (p := ⟨v1.heap.size, 4, none⟩) (by simp; try omega) (.slice none 0 0)).setCell (p := ⟨v1.heap.size, 5, none⟩) (by simp; try omega) (.slice none 0 0)).setCell (p := ⟨v1.heap.size, 6, none⟩) (by simp; try omega) (.slice none 0 0))
        refine one_readyH (i := 7) (by kernel_rfl) rfl rfl (fun K hK => ?_)
        go_simp
        refine hK _ _ (at_below HLd.out HBz.out) ?_
        clear hK K r0 s0 r1 s1 r2 s2 r3 s3 r4 s4 r5 s5 r6 s6
        generalize (((((((v5.setCell ⟨v1.heap.size, 0, none⟩ (.slice none 0 0)).setCell ⟨v1.heap.size, 1, none⟩ (.slice none 0 0)).setCell ⟨v1.heap.size, 2, none⟩ (.slice none 0 0)).setCell ⟨v1.heap.size, 3, none⟩ (.int .i64 0)).setCell ⟨v1.heap.size, 4, none⟩ (.slice none 0 0)).setCell ⟨v1.heap.size, 5, none⟩ (.slice none 0 0)).setCell ⟨v1.heap.size, 6, none⟩ (.slice none 0 0)) = wz at *
        refine one_readyH (i := 8) (by kernel_rfl) rfl rfl (fun K hK => ?_)
        go_simp
        refine hK _ _ (at_below HLd.out HBz.out) ?_
        clear hK K
        refine wpAnyH_done (by kernel_rfl) ?_ _
        go_wp2_with fail
        go_meet
        case rel => exact ⟨rfl, hide (HAd.out.trans (HBz.out.mono (by omega)))⟩
    · go_simp
      have hb := (Below.refl w0.heap.size w0).alloc (Nat.le_refl _) (.cells #[.slice none 0 0, .slice none 0 0, .slice none 0 0, .int .i64 0, .slice none 0 0, .slice none 0 0, .slice none 0 0] 32)
      have HB6 := hide (hb)
      have HZ6 := hide (heap_alloc_new w0 (.cells #[.slice none 0 0, .slice none 0 0, .slice none 0 0, .int .i64 0, .slice none 0 0, .slice none 0 0, .slice none 0 0] 32))
      have q6 : w0.heap.size < (w0.alloc (.cells #[.slice none 0 0, .slice none 0 0, .slice none 0 0, .int .i64 0, .slice none 0 0, .slice none 0 0, .slice none 0 0] 32)).heap.size := by simp
      have u6 : w0.heap.size ≤ w0.heap.size := Nat.le_refl _
      refine hK _ _ (at_below HLd.out HB6.out) ?_
      clear hK K hb
      generalize w0.alloc (.cells #[.slice none 0 0, .slice none 0 0, .slice none 0 0, .int .i64 0, .slice none 0 0, .slice none 0 0, .slice none 0 0] 32) = v6 at *
      refine one_readyH (i := 1) (by kernel_rfl) rfl rfl (fun K hK => ?_)
      go_simp
      refine (single_any _ _).mono ?_
      rintro e v7 ⟨rfl, hb⟩
      have HB7 := hide (HB6.out.trans (hb.mono HB6.out.size))
      have HZ7 := hide (at_below HZ6.out hb)
      have q7 : w0.heap.size < v7.heap.size := (Array.getElem?_eq_some_iff.1 HZ7.out).1
      refine hK _ _ (at_below HLd.out HB7.out) ?_
      clear hK K hb
      refine one_readyH (i := 2) (by kernel_rfl) rfl rfl (fun K hK => ?_)
      go_simp
      refine (sellAlone4 (HSd.out.below HB7.out)).mono ?_
      rintro e v8 ⟨rfl, hb⟩
      have HB8 := hide (HB7.out.trans (hb.mono HB7.out.size))
      have HZ8 := hide (at_below HZ7.out hb)
      have q8 : w0.heap.size < v8.heap.size := (Array.getElem?_eq_some_iff.1 HZ8.out).1
      refine hK _ _ (at_below HLd.out HB8.out) ?_
      clear hK K hb
      refine takesH (fuel := 2) (by kernel_rfl) (fun c d v a w h => by cases d <;> exact h) (at_below HLd.out HB8.out) [3, 4, 5] _ _ (by kernel_rfl) ?_
      refine wpPureH_step (.tuple #[stV none none none 0 0 0 0 0 0 0 none 0 0 none 0 0 none 0 0, .int .i64 4]) rfl rfl (fun w' _ => by go_simp) ?_
      refine wpPureH_step (stV none none none 0 0 0 0 0 0 0 none 0 0 none 0 0 none 0 0) rfl rfl (fun w' _ => by go_simp) ?_
      refine wpPureH_step (.int .i64 4) rfl rfl (fun w' _ => by go_simp) ?_
      refine wpPureH_nil ?_
      have r0 := cell_of_row _ _ 0 _ _ _ HZ8.out
      have s0 := frozen_of_row _ _ 0 _ _ HZ8.out
      have r1 := cell_of_row _ _ 1 _ _ _ HZ8.out
      have s1 := frozen_of_row _ _ 1 _ _ HZ8.out
      have r2 := cell_of_row _ _ 2 _ _ _ HZ8.out
      have s2 := frozen_of_row _ _ 2 _ _ HZ8.out
      have r3 := cell_of_row _ _ 3 _ _ _ HZ8.out
      have s3 := frozen_of_row _ _ 3 _ _ HZ8.out
      have r4 := cell_of_row _ _ 4 _ _ _ HZ8.out
      have s4 := frozen_of_row _ _ 4 _ _ HZ8.out
      have r5 := cell_of_row _ _ 5 _ _ _ HZ8.out
      have s5 := frozen_of_row _ _ 5 _ _ HZ8.out
      have r6 := cell_of_row _ _ 6 _ _ _ HZ8.out
      have s6 := frozen_of_row _ _ 6 _ _ HZ8.out
      simp at r0 r1 r2 r3 r4 r5 r6
      have HBz := hide (((((((HB8.out.setCell (p := ⟨w0.heap.size, 0, none⟩) (by simp; try omega) (.slice none 0 0)).setCell (p := ⟨w0.heap.size, 1, none⟩) (by simp; try omega) (.slice none 0 0)).setCell (p := ⟨w0.heap.size, 2, none⟩) (by simp; try omega) (.slice none 0 0)).setCell (p := ⟨w0.heap.size, 3, none⟩) (by simp; try omega) (.int .i64 0)).setCell (p := ⟨w0.heap.size, 4, none⟩) (by simp; try omega) (.slice none 0 0)).setCell (p := ⟨w0.heap.size, 5, none⟩) (by simp; try omega) (.slice none 0 0)).setCell (p := ⟨w0.heap.size, 6, none⟩) (by simp; try omega) (.slice none 0 0))
      refine one_readyH (i := 7) (by kernel_rfl) rfl rfl (fun K hK => ?_)
      go_simp
      refine hK _ _ (at_below HLd.out HBz.out) ?_
      clear hK K r0 s0 r1 s1 r2 s2 r3 s3 r4 s4 r5 s5 r6 s6
      generalize (((((((v8.setCell ⟨w0.heap.size, 0, none⟩ (.slice none 0 0)).setCell ⟨w0.heap.size, 1, none⟩ (.slice none 0 0)).setCell ⟨w0.heap.size, 2, none⟩ (.slice none 0 0)).setCell ⟨w0.heap.size, 3, none⟩ (.int .i64 0)).setCell ⟨w0.heap.size, 4, none⟩ (.slice none 0 0)).setCell ⟨w0.heap.size, 5, none⟩ (.slice none 0 0)).setCell ⟨w0.heap.size, 6, none⟩ (.slice none 0 0)) = wz at *
      refine one_readyH (i := 8) (by kernel_rfl) rfl rfl (fun K hK => ?_)
      go_simp
      refine hK _ _ (at_below HLd.out HBz.out) ?_
      clear hK K
      refine wpAnyH_done (by kernel_rfl) ?_ _
      go_wp2_with fail
      go_meet
      case rel => exact ⟨rfl, hide (HAd.out.trans (HBz.out.mono (by omega)))⟩
  case rest =>
    obtain ⟨rfl, HB⟩ := hcut
    have hb := HB.out
    have Bwwc := hide (Bwwa.out.trans (hb.mono Bwwa.out.size))
    have Bw4awc := hide (Bw4awa.out.trans (hb.mono Bw4awa.out.size))
    have Bw6awc := hide (Bw6awa.out.trans (hb.mono Bw6awa.out.size))
    have OAwc := hide (at_below OAwa.out hb)
    have OLwc := hide (at_below OLwa.out hb)
    have OBwc := hide (at_below OBwa.out hb)
    have OCwc := hide (at_below OCwa.out hb)
    have ODwc := hide (at_below ODwa.out hb)
    have OSwc := hide (at_below OSwa.out hb)
    have zwwc : w.heap.size ≤ wc.heap.size := Bwwc.out.size
    have zw4awc : w4a.heap.size ≤ wc.heap.size := Bw4awc.out.size
    have zw6awc : w6a.heap.size ≤ wc.heap.size := Bw6awc.out.size
    have lAwc : w2.heap.size < wc.heap.size := (Array.getElem?_eq_some_iff.1 OAwc.out).1
    have lLwc : w3.heap.size < wc.heap.size := (Array.getElem?_eq_some_iff.1 OLwc.out).1
    have lBwc : w5.heap.size < wc.heap.size := (Array.getElem?_eq_some_iff.1 OBwc.out).1
    have lCwc : w7.heap.size < wc.heap.size := (Array.getElem?_eq_some_iff.1 OCwc.out).1
    have lDwc : w10.heap.size < wc.heap.size := (Array.getElem?_eq_some_iff.1 ODwc.out).1
    have lSwc : w11.heap.size < wc.heap.size := (Array.getElem?_eq_some_iff.1 OSwc.out).1
    clear hb HB Bwwa Bw4awa Bw6awa OAwa OLwa OBwa OCwa ODwa OSwa
    go_wp2_with fail
    refine (stationNew_any _).mono ?_
    rintro e w12 ⟨⟨kg, lg, kv, lv, rfl, hsn⟩, hb⟩
    have Bww12 := hide (Bwwc.out.trans (hb.mono Bwwc.out.size))
    have Bw4aw12 := hide (Bw4awc.out.trans (hb.mono Bw4awc.out.size))
    have Bw6aw12 := hide (Bw6awc.out.trans (hb.mono Bw6awc.out.size))
    have OAw12 := hide (at_below OAwc.out hb)
    have OLw12 := hide (at_below OLwc.out hb)
    have OBw12 := hide (at_below OBwc.out hb)
    have OCw12 := hide (at_below OCwc.out hb)
    have ODw12 := hide (at_below ODwc.out hb)
    have OSw12 := hide (at_below OSwc.out hb)
    have zww12 : w.heap.size ≤ w12.heap.size := Bww12.out.size
    have zw4aw12 : w4a.heap.size ≤ w12.heap.size := Bw4aw12.out.size
    have zw6aw12 : w6a.heap.size ≤ w12.heap.size := Bw6aw12.out.size
    have lAw12 : w2.heap.size < w12.heap.size := (Array.getElem?_eq_some_iff.1 OAw12.out).1
    have lLw12 : w3.heap.size < w12.heap.size := (Array.getElem?_eq_some_iff.1 OLw12.out).1
    have lBw12 : w5.heap.size < w12.heap.size := (Array.getElem?_eq_some_iff.1 OBw12.out).1
    have lCw12 : w7.heap.size < w12.heap.size := (Array.getElem?_eq_some_iff.1 OCw12.out).1
    have lDw12 : w10.heap.size < w12.heap.size := (Array.getElem?_eq_some_iff.1 ODw12.out).1
    have lSw12 : w11.heap.size < w12.heap.size := (Array.getElem?_eq_some_iff.1 OSw12.out).1
    clear hb Bwwc Bw4awc Bw6awc OAwc OLwc OBwc OCwc ODwc OSwc
    have HSN := hide hsn
    clear hsn
    go_wp2_with fail
    have HCk := hide (stationCheck_any [] [] [] 0 [] newG newV none none none none kg kv 0 0 0 0 lg lv w12 HSN.out.led HSN.out.lok HSN.out.den.1 HSN.out.den.2.1 HSN.out.gts HSN.out.gok HSN.out.vws HSN.out.vln)
    rw [ev_new] at HCk
    refine (HCk.out).mono ?_
    rintro e w13 ⟨rfl, hb⟩
    have Bww13 := hide (Bww12.out.trans (hb.mono Bww12.out.size))
    have Bw4aw13 := hide (Bw4aw12.out.trans (hb.mono Bw4aw12.out.size))
    have Bw6aw13 := hide (Bw6aw12.out.trans (hb.mono Bw6aw12.out.size))
    have OAw13 := hide (at_below OAw12.out hb)
    have OLw13 := hide (at_below OLw12.out hb)
    have OBw13 := hide (at_below OBw12.out hb)
    have OCw13 := hide (at_below OCw12.out hb)
    have ODw13 := hide (at_below ODw12.out hb)
    have OSw13 := hide (at_below OSw12.out hb)
    have zww13 : w.heap.size ≤ w13.heap.size := Bww13.out.size
    have zw4aw13 : w4a.heap.size ≤ w13.heap.size := Bw4aw13.out.size
    have zw6aw13 : w6a.heap.size ≤ w13.heap.size := Bw6aw13.out.size
    have lAw13 : w2.heap.size < w13.heap.size := (Array.getElem?_eq_some_iff.1 OAw13.out).1
    have lLw13 : w3.heap.size < w13.heap.size := (Array.getElem?_eq_some_iff.1 OLw13.out).1
    have lBw13 : w5.heap.size < w13.heap.size := (Array.getElem?_eq_some_iff.1 OBw13.out).1
    have lCw13 : w7.heap.size < w13.heap.size := (Array.getElem?_eq_some_iff.1 OCw13.out).1
    have lDw13 : w10.heap.size < w13.heap.size := (Array.getElem?_eq_some_iff.1 ODw13.out).1
    have lSw13 : w11.heap.size < w13.heap.size := (Array.getElem?_eq_some_iff.1 OSw13.out).1
    clear hb Bww12 Bw4aw12 Bw6aw12 OAw12 OLw12 OBw12 OCw12 ODw12 OSw12
    obtain ⟨g0, hg0, hgA⟩ : ∃ g0, G'[0]? = some g0 ∧ g0.A.length = 1 := by
      have hm := HM.out
      cases hx : G' with
      | nil => rw [hx] at hm; simp [gB] at hm
      | cons x X =>
        rw [hx] at hm
        simp only [gB, List.map_cons, List.cons.injEq] at hm
        exact ⟨x, rfl, by have := congrArg (fun y => y.A.length) hm.1; simpa [GT.p] using this⟩
    obtain ⟨bb, rfl, h8, -, -⟩ := (HSC.out.below Bw6aw13.out).gts 0 g0 hg0
    obtain ⟨-, -, -, d3, -, -, -, -⟩ := h8
    simp only [Nat.zero_mul] at d3
    rw [hgA] at d3
    simp [Addr.add] at d3
    have cA0 : w13.cell? ⟨w2.heap.size, 0, none⟩ = some (.slice a1 1 b1) := by rw [cell_of_row _ _ 0 _ _ _ OAw13.out]; rfl
    have cA1 : w13.cell? ⟨w2.heap.size, 1, none⟩ = some (.slice a2 1 b2) := by rw [cell_of_row _ _ 1 _ _ _ OAw13.out]; rfl
    have cA2 : w13.cell? ⟨w2.heap.size, 2, none⟩ = some (.slice a3 1 b3) := by rw [cell_of_row _ _ 2 _ _ _ OAw13.out]; rfl
    have cA3 : w13.cell? ⟨w2.heap.size, 3, none⟩ = some (.int .i64 0) := by rw [cell_of_row _ _ 3 _ _ _ OAw13.out]; rfl
    have cA4 : w13.cell? ⟨w2.heap.size, 4, none⟩ = some (.slice a4 0 b4) := by rw [cell_of_row _ _ 4 _ _ _ OAw13.out]; rfl
    have cA5 : w13.cell? ⟨w2.heap.size, 5, none⟩ = some (.slice a5 3 b5) := by rw [cell_of_row _ _ 5 _ _ _ OAw13.out]; rfl
    have cA6 : w13.cell? ⟨w2.heap.size, 6, none⟩ = some (.slice a6 3 b6) := by rw [cell_of_row _ _ 6 _ _ _ OAw13.out]; rfl
    have cB0 : w13.cell? ⟨w5.heap.size, 0, none⟩ = some (.slice e1 1 f1) := by rw [cell_of_row _ _ 0 _ _ _ OBw13.out]; rfl
    have cB1 : w13.cell? ⟨w5.heap.size, 1, none⟩ = some (.slice e2 0 f2) := by rw [cell_of_row _ _ 1 _ _ _ OBw13.out]; rfl
    have cB2 : w13.cell? ⟨w5.heap.size, 2, none⟩ = some (.slice e3 0 f3) := by rw [cell_of_row _ _ 2 _ _ _ OBw13.out]; rfl
    have cB3 : w13.cell? ⟨w5.heap.size, 3, none⟩ = some (.int .i64 0) := by rw [cell_of_row _ _ 3 _ _ _ OBw13.out]; rfl
    have cB4 : w13.cell? ⟨w5.heap.size, 4, none⟩ = some (.slice e4 0 f4) := by rw [cell_of_row _ _ 4 _ _ _ OBw13.out]; rfl
    have cB5 : w13.cell? ⟨w5.heap.size, 5, none⟩ = some (.slice (some bb) 3 f5) := by rw [cell_of_row _ _ 5 _ _ _ OBw13.out]; rfl
    have cB6 : w13.cell? ⟨w5.heap.size, 6, none⟩ = some (.slice rv 3 sv) := by rw [cell_of_row _ _ 6 _ _ _ OBw13.out]; rfl
    have cC0 : w13.cell? ⟨w7.heap.size, 0, none⟩ = some (.slice none 0 0) := by rw [cell_of_row _ _ 0 _ _ _ OCw13.out]; rfl
    have cC1 : w13.cell? ⟨w7.heap.size, 1, none⟩ = some (.slice none 0 0) := by rw [cell_of_row _ _ 1 _ _ _ OCw13.out]; rfl
    have cC2 : w13.cell? ⟨w7.heap.size, 2, none⟩ = some (.slice none 0 0) := by rw [cell_of_row _ _ 2 _ _ _ OCw13.out]; rfl
    have cC3 : w13.cell? ⟨w7.heap.size, 3, none⟩ = some (.int .i64 0) := by rw [cell_of_row _ _ 3 _ _ _ OCw13.out]; rfl
    have cC4 : w13.cell? ⟨w7.heap.size, 4, none⟩ = some (.slice none 0 0) := by rw [cell_of_row _ _ 4 _ _ _ OCw13.out]; rfl
    have cC5 : w13.cell? ⟨w7.heap.size, 5, none⟩ = some (.slice none 0 0) := by rw [cell_of_row _ _ 5 _ _ _ OCw13.out]; rfl
    have cC6 : w13.cell? ⟨w7.heap.size, 6, none⟩ = some (.slice none 0 0) := by rw [cell_of_row _ _ 6 _ _ _ OCw13.out]; rfl
    have cD0 : w13.cell? ⟨w10.heap.size, 0, none⟩ = some (.slice h1 2 i1) := by rw [cell_of_row _ _ 0 _ _ _ ODw13.out]; rfl
    have cD1 : w13.cell? ⟨w10.heap.size, 1, none⟩ = some (.slice h2 0 i2) := by rw [cell_of_row _ _ 1 _ _ _ ODw13.out]; rfl
    have cD2 : w13.cell? ⟨w10.heap.size, 2, none⟩ = some (.slice h3 0 i3) := by rw [cell_of_row _ _ 2 _ _ _ ODw13.out]; rfl
    have cD3 : w13.cell? ⟨w10.heap.size, 3, none⟩ = some (.int .i64 0) := by rw [cell_of_row _ _ 3 _ _ _ ODw13.out]; rfl
    have cD4 : w13.cell? ⟨w10.heap.size, 4, none⟩ = some (.slice h4 0 i4) := by rw [cell_of_row _ _ 4 _ _ _ ODw13.out]; rfl
    have cD5 : w13.cell? ⟨w10.heap.size, 5, none⟩ = some (.slice h5 3 i5) := by rw [cell_of_row _ _ 5 _ _ _ ODw13.out]; rfl
    have cD6 : w13.cell? ⟨w10.heap.size, 6, none⟩ = some (.slice h6 3 i6) := by rw [cell_of_row _ _ 6 _ _ _ ODw13.out]; rfl
    have cS0 : w13.cell? ⟨w11.heap.size, 0, none⟩ = some (.slice j1 1 k1) := by rw [cell_of_row _ _ 0 _ _ _ OSw13.out]; rfl
    have cS1 : w13.cell? ⟨w11.heap.size, 1, none⟩ = some (.slice j2 1 k2) := by rw [cell_of_row _ _ 1 _ _ _ OSw13.out]; rfl
    have cS2 : w13.cell? ⟨w11.heap.size, 2, none⟩ = some (.slice j3 1 k3) := by rw [cell_of_row _ _ 2 _ _ _ OSw13.out]; rfl
    have cS3 : w13.cell? ⟨w11.heap.size, 3, none⟩ = some (.int .i64 0) := by rw [cell_of_row _ _ 3 _ _ _ OSw13.out]; rfl
    have cS4 : w13.cell? ⟨w11.heap.size, 4, none⟩ = some (.slice j4 0 k4) := by rw [cell_of_row _ _ 4 _ _ _ OSw13.out]; rfl
    have cS5 : w13.cell? ⟨w11.heap.size, 5, none⟩ = some (.slice j5 3 k5) := by rw [cell_of_row _ _ 5 _ _ _ OSw13.out]; rfl
    have cS6 : w13.cell? ⟨w11.heap.size, 6, none⟩ = some (.slice j6 3 k6) := by rw [cell_of_row _ _ 6 _ _ _ OSw13.out]; rfl
    clear hg0 hgA HM HSC HSA HSN HCk
    go_wp2_with fail
    go_ret
    exact ⟨rfl, Bww13.out⟩

end Go.Proofs.YtcjfmbeemdcklaaGreat

/-
  What follows of a tap that was entered: the ledger is right, and the rides are as they must be.
-/
namespace Go.Proofs.YtcjfmbeemdcklaaGreat

open Go.RowKit

theorem zip_snoc {P : List TP} {V : List Int} (h : V.length = P.length) (p : TP) (v : Int) : (P ++ [p]).zip (V ++ [v]) = P.zip V ++ [(p, v)] := by
  rw [List.zip_append h.symm]
  rfl

theorem tapsE_all {T : List TK} {P : List TP} {V : List Int} (h : tapsE T P V = 0) : ∀ j, j < P.length → errP T P V j = 0 := fun j hj => firstE_mem _ h _ (List.mem_map.2 ⟨j, List.mem_range.2 hj, rfl⟩)

theorem errP_old {T : List TK} {P : List TP} {V : List Int} (h : V.length = P.length) (p : TP) (v : Int) (j : Nat) (hj : j < P.length) : errP T (P ++ [p]) (V ++ [v]) j = errP T P V j := by
  have g1 : (P ++ [p]).getD j tp0 = P.getD j tp0 := by simp only [List.getD, List.getElem?_append_left hj]
  have g2 : (P ++ [p]).getD (j - 1) tp0 = P.getD (j - 1) tp0 := by simp only [List.getD, List.getElem?_append_left (show j - 1 < P.length by omega)]
  have g3 : (V ++ [v]).getD j 0 = V.getD j 0 := by simp only [List.getD, List.getElem?_append_left (show j < V.length by omega)]
  have g4 : (P ++ [p]).take j = P.take j := List.take_append_of_le_length (by omega)
  have g5 : ((P ++ [p]).zip (V ++ [v])).take j = (P.zip V).take j := by rw [zip_snoc h, List.take_append_of_le_length (by rw [List.length_zip]; omega)]
  unfold errP verd
  rw [g1, g2, g3, g4, g5]

theorem errP_all_chk {T : List TK} {P : List TP} {V : List Int} (h : tapsE T P V = 0) : ∀ x ∈ P, chkT x = 0 := by
  intro x hx
  obtain ⟨j, hj⟩ := List.mem_iff_getElem?.1 hx
  exact errP_chk hj (tapsE_all h j (List.getElem?_eq_some_iff.1 hj).1)

theorem enter_right {T : List TK} {P : List TP} {V : List Int} {p : TP} (h : (enterV T P V p).2 = 0) :
    chkL T P V = 0 ∧ unf T P p = 0 ∧ earlyB P p.m = false ∧ (judB T (P.zip V) p).2 = 0 ∧ P.length < 60 ∧ (enterV T P V p).1 = (judB T (P.zip V) p).1 := by
  by_cases h1 : chkL T P V = 0
  · by_cases h2 : unf T P p = 0
    · cases h3 : earlyB P p.m
      · by_cases h4 : (judB T (P.zip V) p).2 = 0
        · by_cases h5 : P.length = 60
          · simp [enterV, h1, h2, h3, h4, h5] at h
          · have := (chkL_right h1).2.1
            refine ⟨h1, h2, rfl, h4, by omega, ?_⟩
            simp [enterV, h1, h2, h3, h4, h5]
        · simp [enterV, h1, h2, h3, h4] at h
      · simp [enterV, h1, h2, h3] at h
    · simp [enterV, h1, h2] at h
  · simp [enterV, h1] at h

theorem judge_ok {k f t z r last rides m zone : Int} (h : (judge k f t z r last rides m zone).2 = 0) : (judge k f t z r last rides m zone).1 = 2 ∨ ((judge k f t z r last rides m zone).1 = 1 ∧ ¬ ((k = 1 ∧ 0 < rides) ∨ (k = 3 ∧ r ≤ rides))) := by
  unfold judge at h ⊢
  by_cases h1 : place f t z m zone = 0
  · rw [if_neg (by simpa using h1)] at h ⊢
    by_cases h2 : 0 ≤ last ∧ last ≤ m ∧ m < last + 60
    · rw [if_pos h2]; exact Or.inl rfl
    · rw [if_neg h2] at h ⊢
      by_cases h3 : (k = 1 ∧ 0 < rides) ∨ (k = 3 ∧ r ≤ rides)
      · rw [if_pos h3] at h; simp at h
      · rw [if_neg h3]; exact Or.inr ⟨rfl, h3⟩
  · rw [if_pos h1] at h
    exact absurd h h1

/-- the verdict of what was entered -/
theorem enter_verd {T : List TK} {P : List TP} {V : List Int} {p : TP} (h : (enterV T P V p).2 = 0) : (enterV T P V p).1 = 1 ∨ (enterV T P V p).1 = 2 := by
  obtain ⟨h1, h2, h3, h4, h5, h6⟩ := enter_right h
  obtain ⟨r1, r2, r3, r4, r5⟩ := chkL_right h1
  have hu := unf_has h2
  have e := judB_verd (V := V) (i := P.length) (rising_of r4) (checked_of r4) (fun x hx => errP_all_chk r5 x (List.mem_of_mem_take hx)) r2 hu.1 hu.2.1
  rw [List.take_of_length_le (by rw [List.length_zip]; omega)] at e
  rw [h6, e]
  rw [e] at h4
  unfold verd at h4 ⊢
  rcases judge_ok h4 with h | h
  · exact Or.inr h
  · exact Or.inl h.1

/-- WHATEVER IS ENTERED, THE LEDGER IS RIGHT -/
theorem enter_chk {T : List TK} {P : List TP} {V : List Int} {p : TP} (h : (enterV T P V p).2 = 0) : chkL T (P ++ [p]) (V ++ [(enterV T P V p).1]) = 0 := by
  obtain ⟨h1, h2, h3, h4, h5, h6⟩ := enter_right h
  obtain ⟨r1, r2, r3, r4, r5⟩ := chkL_right h1
  refine chkL_ok (by simp; omega) (ticksE_all r4) (fun j hj => ?_)
  rw [List.length_append, List.length_singleton] at hj
  rcases Nat.lt_or_ge j P.length with hlt | hge
  · rw [errP_old r3 p _ j hlt]
    exact tapsE_all r5 j hlt
  · obtain rfl : j = P.length := by omega
    have t1 : (P ++ [p]).take P.length = P := by simp
    have t2 : (V ++ [(enterV T P V p).1]).take P.length = V := by rw [← r3]; simp
    have e := tapE_errP (T := T) (P := P ++ [p]) (V := V ++ [(enterV T P V p).1]) (q := P.length) (p := p) (v := (enterV T P V p).1) (rising_of r4) (checked_of r4) r2 (fun x hx => errP_all_chk r5 x (by rw [t1] at hx; exact hx)) (by simp) (by rw [← r3]; simp)
    rw [← e, t1, t2]
    have hv : wi (enterV T P V p).1 1 2 = true := by
      rw [wi_iff]
      rcases enter_verd h with e | e <;> omega
    unfold tapE
    rw [h2, hv, h3, h6]
    simp [firstE]

end Go.Proofs.YtcjfmbeemdcklaaGreat

/-
  What follows of a ticket that is sold, and of a beginning of a ledger.
-/
namespace Go.Proofs.YtcjfmbeemdcklaaGreat

open Go.RowKit

theorem judge_snd {k f t z r last rides m zone : Int} (h : (judge k f t z r last rides m zone).1 ≠ 3) : (judge k f t z r last rides m zone).2 = 0 := by
  unfold judge at h ⊢
  by_cases h1 : place f t z m zone = 0
  · rw [if_neg (by simpa using h1)] at h ⊢
    by_cases h2 : 0 ≤ last ∧ last ≤ m ∧ m < last + 60
    · rw [if_pos h2]
    · rw [if_neg h2] at h ⊢
      by_cases h3 : (k = 1 ∧ 0 < rides) ∨ (k = 3 ∧ r ≤ rides)
      · rw [if_pos h3] at h; simp at h
      · rw [if_neg h3]
  · rw [if_pos h1] at h
    simp at h

theorem errP_take {T : List TK} {P : List TP} {V : List Int} (n j : Nat) (hj : j < n) : errP T (P.take n) (V.take n) j = errP T P V j := by
  have g1 : (P.take n).getD j tp0 = P.getD j tp0 := by simp only [List.getD, List.getElem?_take, if_pos hj]
  have g2 : (P.take n).getD (j - 1) tp0 = P.getD (j - 1) tp0 := by simp only [List.getD, List.getElem?_take, if_pos (show j - 1 < n by omega)]
  have g3 : (V.take n).getD j 0 = V.getD j 0 := by simp only [List.getD, List.getElem?_take, if_pos hj]
  have g4 : (P.take n).take j = P.take j := by rw [List.take_take, Nat.min_eq_left (by omega)]
  have g5 : ((P.take n).zip (V.take n)).take j = (P.zip V).take j := by rw [zip_take, List.take_take, Nat.min_eq_left (by omega)]
  unfold errP verd
  rw [g1, g2, g3, g4, g5]

/-- EACH BEGINNING OF A LEDGER'S TAPS IS A LEDGER -/
theorem prefix_chk {T : List TK} {P : List TP} {V : List Int} (h : chkL T P V = 0) (n : Nat) (hn : n ≤ P.length) : chkL T (P.take n) (V.take n) = 0 := by
  obtain ⟨r1, r2, r3, r4, r5⟩ := chkL_right h
  refine chkL_ok (by rw [List.length_take, List.length_take]; omega) (ticksE_all r4) (fun j hj => ?_)
  rw [List.length_take] at hj
  rw [errP_take n j (by omega)]
  exact tapsE_all r5 j (by omega)

/-- .. from which its next tap leads on -/
theorem prefix_enter {T : List TK} {P : List TP} {V : List Int} (h : chkL T P V = 0) {n : Nat} {p : TP} {v : Int} (hp : P[n]? = some p) (hv : V[n]? = some v) : enterV T (P.take n) (V.take n) p = (v, 0) := by
  obtain ⟨r1, r2, r3, r4, r5⟩ := chkL_right h
  have hn := (List.getElem?_eq_some_iff.1 hp).1
  have hck := prefix_chk h n (by omega)
  have hall : ∀ x ∈ P.take n, chkT x = 0 := fun x hx => errP_all_chk r5 x (List.mem_of_mem_take hx)
  have e := tapE_errP (V := V) (rising_of r4) (checked_of r4) (by omega) hall hp hv
  rw [tapsE_all r5 n hn] at e
  have h0 := firstE_mem _ e
  have u : unf T (P.take n) p = 0 := h0 _ (by simp)
  have hu := unf_has u
  have hw : wi v 1 2 = true := by
    have := h0 (if wi v 1 2 = true then 0 else 7) (by simp)
    cases hc : wi v 1 2
    · simp [hc] at this
    · rfl
  have hea : earlyB (P.take n) p.m = false := by
    have := h0 (if earlyB (P.take n) p.m = true then 4 else 0) (by simp)
    cases hc : earlyB (P.take n) p.m
    · rfl
    · simp [hc] at this
  have hj : (judB T ((P.take n).zip (V.take n)) p).1 = v := by
    have := h0 (if (judB T ((P.take n).zip (V.take n)) p).1 = v then 0 else 4) (by simp)
    by_cases hc : (judB T ((P.take n).zip (V.take n)) p).1 = v
    · exact hc
    · rw [if_neg hc] at this; cases this
  have hj2 : (judB T ((P.take n).zip (V.take n)) p).2 = 0 := by
    rw [wi_iff] at hw
    have ev := judB_verd (V := V) (i := n) (rising_of r4) (checked_of r4) hall (by omega) hu.1 hu.2.1
    rw [zip_take] at hj ⊢
    rw [ev] at hj ⊢
    unfold verd at hj ⊢
    exact judge_snd (by omega)
  have hl : ¬ (P.take n).length = 60 := by rw [List.length_take]; omega
  simp only [enterV, hck, u, hea, hj2, hl, hj]
  simp

end Go.Proofs.YtcjfmbeemdcklaaGreat

/-
  Merging, of lists: what is in order stays so, nothing is lost, and the order in which taps come does not matter.
-/
namespace Go.Proofs.YtcjfmbeemdcklaaGreat

open Go.RowKit

theorem srt_dist {L : List TP} (h : DistP L) : DistP (srt L) := h.perm (srt_perm L).symm

theorem srt_congr {L M : List TP} (h : L.Perm M) (hd : DistP M) : srt L = srt M :=
  srt_eq (srt_ord (hd.perm h.symm)) ((srt_perm L).trans h) hd

theorem ordE_perm {L M : List TP} (h : L.Perm M) (h0 : ordE L = 0) : ordE M = 0 := by
  obtain ⟨h1, h2, h3⟩ := ordE_right h0
  exact ordE_zero (by rw [← h.length_eq]; exact h1) (fun p hp => h2 p (h.mem_iff.2 hp)) (h3.perm h)

theorem ordR_srt {L : List TP} (h : ordE L = 0) : ordR L = srt L := if_pos h

theorem ord_of_next : ∀ {L : List TP}, (∀ i p q, L[i]? = some p → L[i + 1]? = some q → befP p q) → Ord L
  | [], _ => List.Pairwise.nil
  | [p], _ => List.pairwise_singleton _ _
  | p :: q :: L, h => by
    have h1 : befP p q := h 0 p q rfl rfl
    have h2 : Ord (q :: L) := ord_of_next (fun i x y hx hy => h (i + 1) x y (by simpa using hx) (by simpa using hy))
    refine List.pairwise_cons.2 ⟨fun x hx => ?_, h2⟩
    rcases List.mem_cons.1 hx with rfl | hx
    · exact h1
    · exact befP_trans h1 ((List.pairwise_cons.1 h2).1 x hx)

/-- a builder loses nothing -/
theorem bldA_perm (T : List TK) : ∀ (L P : List TP) (V : List Int) (D : List TP), (bldA T L P V D).1 = 0 → ((bldA T L P V D).2.1 ++ (bldA T L P V D).2.2.2).Perm ((P ++ D) ++ L)
  | [], P, V, D, _ => by simp [bldA]
  | p :: L, P, V, D, h => by
    unfold bldA at h ⊢
    by_cases h1 : bldE T P V p = 0
    · rw [if_pos h1] at h ⊢
      refine (bldA_perm T L _ _ _ h).trans ?_
      unfold bldE at h1
      unfold bldP bldD
      by_cases h2 : (enterV T P V p).2 = 0
      · rw [if_pos h2, if_pos h2]
        have : ((P ++ [p]) ++ D).Perm ((P ++ D) ++ [p]) := by
          rw [List.append_assoc, List.append_assoc]
          exact List.Perm.append_left P List.perm_append_comm
        simpa using this.append_right L
      · rw [if_neg h2] at h1
        by_cases h3 : (enterV T P V p).1 = 3 ∨ (enterV T P V p).2 = 5
        · rw [if_neg h2, if_neg h2, if_pos h3]
          simp
        · rw [if_neg h3] at h1
          exact absurd h1 h2
    · rw [if_neg h1] at h
      exact absurd h h1

/-- what a builder makes of a right ledger is right -/
theorem bldA_chk (T : List TK) : ∀ (L P : List TP) (V : List Int) (D : List TP), chkL T P V = 0 → chkL T (bldA T L P V D).2.1 (bldA T L P V D).2.2.1 = 0
  | [], P, V, D, h => h
  | p :: L, P, V, D, h => by
    unfold bldA
    by_cases h1 : bldE T P V p = 0
    · rw [if_pos h1]
      refine bldA_chk T L _ _ _ ?_
      unfold bldP bldV
      by_cases h2 : (enterV T P V p).2 = 0
      · rw [if_pos h2, if_pos h2]
        exact enter_chk h2
      · rw [if_neg h2, if_neg h2]
        exact h
    · rw [if_neg h1]
      exact h

/-- taps that are in the ledger, in their order, come as they were -/
theorem bldA_again {T : List TK} {P : List TP} {V : List Int} (h : chkL T P V = 0) (hl : V.length = P.length) : ∀ (k n : Nat), n + k = P.length → bldA T (P.drop n) (P.take n) (V.take n) [] = (0, P, V, [])
  | 0, n, hn => by
    rw [List.drop_of_length_le (by omega), List.take_of_length_le (by omega), List.take_of_length_le (by omega)]
    rfl
  | k + 1, n, hn => by
    have hnP : n < P.length := by omega
    have hnV : n < V.length := by omega
    have he := prefix_enter h (n := n) (p := P[n]) (v := V[n]) (by simp [hnP]) (by simp [hnV])
    rw [List.drop_eq_getElem_cons hnP]
    unfold bldA
    have hb : bldE T (P.take n) (V.take n) P[n] = 0 := by simp [bldE, he]
    rw [if_pos hb]
    have e1 : bldP T (P.take n) (V.take n) P[n] = P.take (n + 1) := by rw [bldP, if_pos (by rw [he]), List.take_succ_eq_append_getElem hnP]
    have e2 : bldV T (P.take n) (V.take n) P[n] = V.take (n + 1) := by rw [bldV, if_pos (by rw [he]), List.take_succ_eq_append_getElem hnV, he]
    have e3 : bldD T (P.take n) (V.take n) [] P[n] = [] := by rw [bldD, if_pos (by rw [he])]
    rw [e1, e2, e3]
    exact bldA_again h hl k (n + 1) (by omega)

theorem chkL_nil {T : List TK} {P : List TP} {V : List Int} (h : chkL T P V = 0) : chkL T [] [] = 0 := by
  simpa using prefix_chk h 0 (Nat.zero_le _)

/-- what came, when Into is right -/
theorem into_right {T : List TK} {P : List TP} {V : List Int} {M : List TP} (h : intoE T P V M = 0) : chkL T P V = 0 ∧ M.length ≤ 12 ∧ ordE (P ++ M) = 0 ∧ (intoB T P M).1 = 0 ∧ intoT T P V M = T ∧ intoP T P V M = (intoB T P M).2.1 ∧ intoV T P V M = (intoB T P M).2.2.1 ∧ intoD T P V M = (intoB T P M).2.2.2 := by
  have hh : intoT T P V M = T ∧ intoP T P V M = (intoB T P M).2.1 ∧ intoV T P V M = (intoB T P M).2.2.1 ∧ intoD T P V M = (intoB T P M).2.2.2 := ⟨if_pos h, if_pos h, if_pos h, if_pos h⟩
  rcases into_ways T P V M with ⟨h1, h2⟩ | ⟨h1, h3, h2⟩ | ⟨h1, h3, h4, h2⟩ | ⟨h1, h3, h4, h5, h2⟩ | ⟨h1, h3, h4, h5, h2⟩
  · rw [h2] at h; simp [h] at h1
  · rw [h2] at h; cases h
  · rw [h2] at h; simp [h] at h4
  · rw [h2] at h; simp [h] at h5
  · exact ⟨h1, h3, h4, h5, hh⟩

/-- nothing is lost -/
theorem into_perm {T : List TK} {P : List TP} {V : List Int} {M : List TP} (h : intoE T P V M = 0) : (intoP T P V M ++ intoD T P V M).Perm (P ++ M) := by
  obtain ⟨h1, h2, h3, h4, -, e2, -, e4⟩ := into_right h
  rw [e2, e4]
  refine (bldA_perm T (srt (P ++ M)) [] [] [] h4).trans ?_
  simpa using srt_perm (P ++ M)

theorem into_chk {T : List TK} {P : List TP} {V : List Int} {M : List TP} (h : intoE T P V M = 0) : chkL (intoT T P V M) (intoP T P V M) (intoV T P V M) = 0 := by
  obtain ⟨h1, h2, h3, h4, e1, e2, e3, -⟩ := into_right h
  rw [e1, e2, e3]
  exact bldA_chk T _ _ _ _ (chkL_nil h1)

/-- both, ordered, are what came, ordered -/
theorem into_both {T : List TK} {P : List TP} {V : List Int} {M : List TP} (h : intoE T P V M = 0) : ordE (P ++ M) = 0 ∧ ordE (intoP T P V M ++ intoD T P V M) = 0 ∧ ordR (intoP T P V M ++ intoD T P V M) = ordR (P ++ M) := by
  have h3 := (into_right h).2.2.1
  have hp := into_perm h
  have h5 := ordE_perm hp.symm h3
  exact ⟨h3, h5, by rw [ordR_srt h3, ordR_srt h5]; exact srt_congr hp (ordE_right h3).2.2⟩

/-- with nothing more the ledger is as it was, if its taps are in order -/
theorem into_none {T : List TK} {P : List TP} {V : List Int} (h : intoE T P V [] = 0) (ho : ∀ i p q, P[i]? = some p → P[i + 1]? = some q → befP p q) : intoT T P V [] = T ∧ intoP T P V [] = P ∧ intoV T P V [] = V ∧ intoD T P V [] = [] := by
  obtain ⟨h1, h2, h3, h4, e1, e2, e3, e4⟩ := into_right h
  have hs : srt (P ++ []) = P := by
    rw [List.append_nil] at h3 ⊢
    exact (srt_eq (ord_of_next ho) (List.Perm.refl _) (ordE_right h3).2.2).symm
  have hb : intoB T P [] = (0, P, V, []) := by
    unfold intoB
    rw [hs]
    simpa using bldA_again h1 (chkL_lens h1).2.2 P.length 0 (by omega)
  rw [e1, e2, e3, e4, hb]
  exact ⟨rfl, rfl, rfl, rfl⟩

theorem into_lens {T : List TK} {P : List TP} {V : List Int} {M : List TP} (h : intoE T P V M = 0) : (intoD T P V M).length + (intoP T P V M).length = P.length + M.length := by
  have := (into_perm h).length_eq
  simp at this
  omega

theorem into_small {T : List TK} {P : List TP} {V : List Int} {M : List TP} (h : intoE T P V M = 0) : T.length ≤ 12 ∧ P.length ≤ 60 ∧ V.length = P.length ∧ M.length ≤ 12 := by
  have h1 := (into_right h).1
  have := chkL_lens h1
  exact ⟨this.1, this.2.1, this.2.2, (into_right h).2.1⟩

end Go.Proofs.YtcjfmbeemdcklaaGreat

/-
  'IsBefore' (package leeboardref).
-/
namespace Go.Proofs.YtcjfmbeemdcklaaGreat

open Go.RowKit

end Go.Proofs.YtcjfmbeemdcklaaGreat

/-
  'append' of a list of taps to a list that one owns, operation by operation.
-/
namespace Go.Proofs.YtcjfmbeemdcklaaGreat

open Go.RowKit

end Go.Proofs.YtcjfmbeemdcklaaGreat

/-
  'OrderOf' (package leeboardref).
-/
namespace Go.Proofs.YtcjfmbeemdcklaaGreat

open Go.RowKit

end Go.Proofs.YtcjfmbeemdcklaaGreat

/-
  The document's answers on ledgers: 'CheckLedger' (package leeboardref).
-/
namespace Go.Proofs.YtcjfmbeemdcklaaGreat

open Go.RowKit

end Go.Proofs.YtcjfmbeemdcklaaGreat

/-
  'EnterOf' (package leeboardref): errors.
-/
namespace Go.Proofs.YtcjfmbeemdcklaaGreat

open Go.RowKit

end Go.Proofs.YtcjfmbeemdcklaaGreat

/-
  The document's Into, of lists.
-/
namespace Go.Proofs.YtcjfmbeemdcklaaGreat

open Go.RowKit

end Go.Proofs.YtcjfmbeemdcklaaGreat

/-
  For 'StationAlone': what a station says where nobody leads, and where one does.
-/
namespace Go.Proofs.YtcjfmbeemdcklaaGreat

open Go.RowKit

section

variable {T : List TK} {P : List TP} {V : List Int} {dv : Int} {D : List Int} {G : List GT} {W : List VW}

theorem wi_in {n : Int} (h0 : 0 ≤ n) (h2 : n < 3) : wi n 0 2 = true := by simp [wi]; omega

theorem gAt_of {q : Nat} {g : GT} (hq : G[q]? = some g) : gAt (G.map GT.p) (q : Int) = g.p := by
  rw [gAt, Int.toNat_natCast, List.getD_eq_getElem?_getD, List.getElem?_map, hq]
  rfl

end

end Go.Proofs.YtcjfmbeemdcklaaGreat

/-
  What follows of a tap that was let through, and of a gate that has told, of lists.
-/
namespace Go.Proofs.YtcjfmbeemdcklaaGreat

open Go.RowKit

theorem aloneE_right {i z s : Int} {P : List TP} (h : aloneE i z s P = 0) : errA i z none P = 0 ∧ errQ s P = 0 := by
  rw [aloneE] at h
  split at h
  · rename_i h1; exact ⟨h1, h⟩
  · rename_i h1; exact absurd h h1

theorem errB_zero {l u : Int} : errB l u = 0 ↔ (0 ≤ l ∧ l ≤ 9) ∧ (0 ≤ u ∧ u ≤ 10099) := by
  rw [errB]
  by_cases h : (wi l 0 9 && wi u 0 10099) = true
  · rw [if_pos h]
    rw [Bool.and_eq_true, wi_iff, wi_iff] at h
    exact ⟨fun _ => h, fun _ => rfl⟩
  · rw [if_neg h]
    rw [Bool.and_eq_true, wi_iff, wi_iff] at h
    exact ⟨fun h' => by omega, fun h' => absurd h' h⟩

theorem errS_zero {i z s : Int} {n : Nat} (h1 : 0 ≤ i ∧ i ≤ 2) (h2 : 0 ≤ s ∧ s ≤ 99) (h3 : isZ z = true) (h4 : n ≤ 12) : errS i z s n = 0 := by
  rw [errS, (wi_iff i 0 2).2 h1, (wi_iff s 0 99).2 h2, h3, if_neg (by decide), if_neg (by decide), if_neg (by omega)]

theorem chkG_of {i z s : Int} {P : List TP} {v : Int} {D : List Int} {l u : Int} (h1 : errS i z s P.length = 0) (h2 : aloneE i z s P = 0) (h3 : chkD v D = 0) (h4 : errB l u = 0) : chkG i z s P v D l u = 0 := by
  rw [chkG, if_pos h1, if_pos h2, if_pos h3, h4]

theorem syncG_right {i z s : Int} {P : List TP} {v : Int} {D : List Int} {l u v' : Int} {D' : List Int} {m : Int} (h : syncG i z s P v D l u v' D' m = 0) : chkG i z s P v D l u = 0 ∧ newE v D v' D' = 0 ∧ wi m 0 9999 = true := by
  rcases syncG_ways i z s P v D l u v' D' m with ⟨h1, h2⟩ | ⟨h1, h2, h3⟩ | ⟨h1, h2, h3, h4⟩ | ⟨h1, h2, h3, h4⟩
  · rw [h2] at h; rw [h] at h1; cases h1
  · rw [h3] at h; rw [h] at h2; cases h2
  · omega
  · exact ⟨h1, h2, h3⟩

end Go.Proofs.YtcjfmbeemdcklaaGreat

/-
  For 'StationSafe': what a tap that gave no error leaves, lists alone.
-/
namespace Go.Proofs.YtcjfmbeemdcklaaGreat

open Go.RowKit

section

variable {T : List TK} {P : List TP} {V : List Int} {dv : Int} {D : List Int} {G : List GT} {W : List VW}

/-- one step of a gate's check, wherever it lies -/
theorem gatePE_of {n : Nat} {g : GP} (h1 : chkG g.i g.z g.s g.A g.v g.D g.l g.u = 0) (h2 : g.i = n) (h3 : ¬ dv < g.v) (h4 : P.any (twiG g.i g.s g.A) = false) : gatePE dv P n g = 0 := by
  rw [gatePE, if_pos h1, if_pos ⟨h2, h3⟩, h4]
  rfl

theorem chkPS_of {L : List GP} (h1 : chkL T P V = 0) (h2 : chkD dv D = 0) (h3 : L.length = 3) (h4 : ∀ q g, L[q]? = some g → gatePE dv P q g = 0) (h5 : chkVs W = 0) : chkPS T P V dv D L W = 0 := by
  have hz : ∀ (M : List GP) (n : Nat), (∀ q g, M[q]? = some g → gatePE dv P (n + q) g = 0) → gatesPF dv P n M = 0 := by
    intro M
    induction M with
    | nil => intro n _; rfl
    | cons x M ih =>
      intro n h
      rw [gatesPF, if_pos (show gatePE dv P n x = 0 from h 0 x rfl)]
      exact ih (n + 1) (fun q g hg => by
        have := h (q + 1) g (by simpa using hg)
        rwa [show n + (q + 1) = n + 1 + q from by omega] at this)
  have hg : gatesPE dv P L = 0 := by
    rw [gatesPE, if_pos h3]
    exact hz L 0 (fun q g hq => by rw [Nat.zero_add]; exact h4 q g hq)
  rw [chkPS, if_pos h1, if_pos h2, if_pos hg]
  exact h5

theorem any_twi {i sq : Int} {A : List TP} (h : P.any (twiG i sq A) = false) {p : TP} (hp : p ∈ P) (hi : p.g = i) : ¬ sq < p.s ∧ ∀ y ∈ A, y.s ≠ p.s := by
  rw [List.any_eq_false] at h
  have := h p hp
  simp only [twiG, hi, beq_self_eq_true, Bool.true_and, Bool.or_eq_true, decide_eq_true_eq, List.any_eq_true, beq_iff_eq, not_or, not_exists, not_and] at this
  exact this

theorem twi_of {i sq : Int} {A : List TP} (h : ∀ p ∈ P, p.g = i → ¬ sq < p.s ∧ ∀ y ∈ A, y.s ≠ p.s) : P.any (twiG i sq A) = false := by
  rw [List.any_eq_false]
  intro p hp
  simp only [twiG, Bool.and_eq_true, beq_iff_eq, Bool.or_eq_true, decide_eq_true_eq, List.any_eq_true, not_and, not_or, not_exists]
  exact fun e => h p hp e

end

end Go.Proofs.YtcjfmbeemdcklaaGreat

/-
  For 'StationFound': what a sync that gave no error leaves, lists alone.
-/
namespace Go.Proofs.YtcjfmbeemdcklaaGreat

open Go.RowKit

section

variable {T : List TK} {P : List TP} {V : List Int} {dv : Int} {D : List Int} {G : List GT} {W : List VW}

theorem sync_right {n m : Int} (h : syncS T P V dv D G W n m = 0) : chkS T P V dv D G W = 0 ∧ ∃ (q : Nat) (g : GT), n = q ∧ q < 3 ∧ G[q]? = some g ∧ nowB W = true ∧ wi m 0 9999 = true ∧ intoE T P V g.A = 0 := by
  unfold syncS at h
  split at h
  · rename_i hc
    refine ⟨hc, ?_⟩
    obtain ⟨-, -, hG3, -⟩ := chkS_right hc
    unfold syncR at h
    split at h
    · cases h
    · rename_i h1
      simp only [Bool.not_eq_false, wi_iff] at h1
      obtain ⟨q, rfl⟩ : ∃ q : Nat, n = q := ⟨n.toNat, by omega⟩
      obtain ⟨g, hg⟩ : ∃ g, G[q]? = some g := ⟨_, List.getElem?_eq_getElem (by omega)⟩
      rw [gAt_of hg] at h
      unfold syncK at h
      split at h
      · rename_i hn
        split at h
        · rename_i hs
          exact ⟨q, g, rfl, by omega, hg, hn, (syncG_right hs).2.2, h⟩
        · rename_i hs
          exact absurd h hs
      · cases h
  · rename_i hc
    exact absurd h hc

/-- what was let through alone: of the gate, and not behind its Seq -/
theorem errA_own (i z : Int) : ∀ (A : List TP) (l : Option TP), errA i z l A = 0 → ∀ p ∈ A, p.g = i ∧ chkT p = 0
  | [], _, _, p, hp => by cases hp
  | x :: A, l, h, p, hp => by
    rw [errA] at h
    split at h
    · rename_i h1
      split at h
      · rename_i h2
        rcases List.mem_cons.1 hp with rfl | hp
        · refine ⟨?_, h1⟩
          unfold okA at h2
          simp only [Bool.and_eq_true, beq_iff_eq] at h2
          exact h2.1.1
        · exact errA_own i z A (some x) h p hp
      · cases h
    · rename_i h1
      exact absurd h h1

theorem errA_last (i z : Int) : ∀ (A : List TP) (l : Option TP), errA i z l A = 0 → ∀ p ∈ A, ∀ y, A.getLast? = some y → p.s ≤ y.s
  | [], _, _, p, hp, _, _ => by cases hp
  | [x], l, h, p, hp, y, hy => by
    obtain rfl := List.mem_singleton.1 hp
    obtain rfl := Option.some.inj hy
    exact Int.le_refl _
  | x :: x' :: A, l, h, p, hp, y, hy => by
    rw [errA] at h
    split at h
    · split at h
      · have h' := h
        rw [errA] at h'
        split at h'
        · split at h'
          · rename_i h2
            rw [List.getLast?_cons_cons] at hy
            rcases List.mem_cons.1 hp with rfl | hp
            · have := errA_last i z (x' :: A) (some p) h x' (List.mem_cons_self ..) y hy
              unfold okA at h2
              simp only [Bool.and_eq_true, folB, decide_eq_true_eq, beq_iff_eq] at h2
              omega
            · exact errA_last i z (x' :: A) (some x) h p hp y hy
          · cases h'
        · rename_i h1
          exact absurd h' h1
      · cases h
    · rename_i h1
      exact absurd h h1

theorem alone_own {i z s : Int} {A : List TP} (h : aloneE i z s A = 0) : ∀ p ∈ A, p.g = i ∧ p.s ≤ s ∧ chkT p = 0 := by
  obtain ⟨h1, h2⟩ := aloneE_right h
  intro p hp
  obtain ⟨e1, e2⟩ := errA_own i z A none h1 p hp
  refine ⟨e1, ?_, e2⟩
  obtain ⟨y, hy⟩ : ∃ y, A.getLast? = some y := by
    cases hl : A.getLast? with
    | none => rw [List.getLast?_eq_none_iff] at hl; subst hl; cases hp
    | some y => exact ⟨y, rfl⟩
  have h3 := errA_last i z A none h1 p hp y hy
  unfold errQ at h2
  simp only [hy] at h2
  by_cases hs : y.s = s
  · omega
  · rw [if_neg hs] at h2
    cases h2

/-- a list to which more was added: it is right, and no elder -/
theorem denA_chk : ∀ (M : List TP) (v : Int) (D : List Int), chkD v D = 0 → chkD (denA M v D).1 (denA M v D).2 = 0 ∧ v ≤ (denA M v D).1 ∧ D.length ≤ (denA M v D).2.length
  | [], v, D, h => ⟨h, Int.le_refl _, Nat.le_refl _⟩
  | p :: M, v, D, h => by
    rw [denA]
    split
    · rename_i h1
      obtain ⟨e1, e2, e3⟩ := denA_chk M (v + 1) (addI D p.a) (chkD_addI h1)
      rw [addI_len] at e3
      exact ⟨e1, by omega, by omega⟩
    · exact denA_chk M v D h

theorem denA_has : ∀ (M : List TP) (v : Int) (D : List Int) (o : Int), hasI D o = true → hasI (denA M v D).2 o = true
  | [], v, D, o, h => h
  | p :: M, v, D, o, h => by
    rw [denA]
    split
    · exact denA_has M (v + 1) (addI D p.a) o (by rw [hasI_addI, h]; rfl)
    · exact denA_has M v D o h

/-- what was told is denied, as long as there is room -/
theorem denA_told : ∀ (M : List TP) (v : Int) (D : List Int), chkD v D = 0 → (∀ p ∈ M, chkT p = 0) → ∀ p ∈ M, hasI (denA M v D).2 p.a = true ∨ 12 ≤ (denA M v D).2.length ∨ 999 ≤ (denA M v D).1
  | [], v, D, h, hc, p, hp => by cases hp
  | x :: M, v, D, h, hc, p, hp => by
    rw [denA]
    have hw : wi x.a 1 9999 = true := by
      have := hc x (List.mem_cons_self ..)
      unfold chkT chkP at this
      by_cases hr : (wi x.a 1 9999 && wi x.g 0 2 && wi x.s 1 99 && wi x.m 0 9999) = true
      · simp only [Bool.and_eq_true] at hr
        exact hr.1.1.1
      · simp only [Bool.not_eq_true] at hr
        rw [if_pos hr] at this
        cases this
    rcases List.mem_cons.1 hp with rfl | hp
    · split
      · rename_i h1
        exact Or.inl (denA_has M _ _ _ (by rw [hasI_addI]; simp))
      · rename_i h1
        rw [addE, unfD_of h, if_pos hw, if_pos rfl] at h1
        obtain ⟨-, e2, e3⟩ := denA_chk M v D h
        by_cases hh : hasI D p.a = true
        · exact Or.inl (denA_has M v D _ hh)
        · rw [if_neg hh] at h1
          by_cases hf : fullD v D = true
          · unfold fullD at hf
            simp only [Bool.or_eq_true, beq_iff_eq] at hf
            rcases hf with hf | hf
            · exact Or.inr (Or.inl (by omega))
            · exact Or.inr (Or.inr (by omega))
          · rw [if_neg hf] at h1
            exact absurd rfl h1
    · split
      · rename_i h1
        exact denA_told M _ _ (chkD_addI h1) (fun y hy => hc y (List.mem_cons_of_mem _ hy)) p hp
      · exact denA_told M _ _ h (fun y hy => hc y (List.mem_cons_of_mem _ hy)) p hp

theorem bldA_sub (T : List TK) : ∀ (L P : List TP) (V : List Int) (D : List TP), (bldA T L P V D).2.1.Sublist (P ++ L)
  | [], P, V, D => by rw [bldA, List.append_nil]; exact List.Sublist.refl _
  | p :: L, P, V, D => by
    rw [bldA]
    split
    · have h := bldA_sub T L (bldP T P V p) (bldV T P V p) (bldD T P V D p)
      refine h.trans ?_
      unfold bldP
      split
      · rw [List.append_assoc]; exact List.Sublist.refl _
      · exact (List.Sublist.refl P).append (List.sublist_cons_self p L)
    · exact List.sublist_append_left P (p :: L)

/-- what came into a ledger is in order -/
theorem into_ord {M : List TP} (h : intoE T P V M = 0) : Ord (intoP T P V M) ∧ ordE (intoP T P V M) = 0 := by
  obtain ⟨h1, h2, h3, h4, -, e2, -, -⟩ := into_right h
  obtain ⟨o1, o2, o3⟩ := ordE_right h3
  have hs : (intoP T P V M).Sublist (srt (P ++ M)) := by
    rw [e2]
    exact bldA_sub T (srt (P ++ M)) [] [] []
  have hO : Ord (srt (P ++ M)) := srt_ord o3
  have hD : DistP (srt (P ++ M)) := srt_dist o3
  refine ⟨List.Pairwise.sublist hs hO, ?_⟩
  have hl := hs.length_le
  rw [srt_len] at hl
  have hd : DistP (intoP T P V M) := List.Pairwise.sublist hs hD
  have hc : ∀ p ∈ intoP T P V M, chkT p = 0 := fun p hp => o2 p ((srt_perm _).mem_iff.1 (hs.subset hp))
  rcases ordE_ways (intoP T P V M) with ⟨e, -⟩ | ⟨-, e, -⟩ | ⟨-, -, e, -⟩ | ⟨-, -, -, e, -⟩
  · omega
  · have : firstE ((intoP T P V M).map chkT) = 0 := by
      generalize intoP T P V M = L at hc
      induction L with
      | nil => rfl
      | cons x L ih =>
        rw [List.map_cons, firstE, if_pos (hc x (List.mem_cons_self ..))]
        exact ih (fun y hy => hc y (List.mem_cons_of_mem _ hy))
    rw [this] at e
    cases e
  · rw [(dupB_false _).2 hd] at e
    cases e
  · exact e

/-- with nothing more, again -/
theorem into_again {M : List TP} (h : intoE T P V M = 0) : intoE T (intoP T P V M) (intoV T P V M) [] = 0 ∧ intoT T (intoP T P V M) (intoV T P V M) [] = T ∧ intoP T (intoP T P V M) (intoV T P V M) [] = intoP T P V M ∧ intoV T (intoP T P V M) (intoV T P V M) [] = intoV T P V M ∧ intoD T (intoP T P V M) (intoV T P V M) [] = [] := by
  obtain ⟨hO, hE⟩ := into_ord h
  have hc := into_chk h
  rw [(into_right h).2.2.2.2.1] at hc
  have hnx : ∀ i p q, (intoP T P V M)[i]? = some p → (intoP T P V M)[i + 1]? = some q → befP p q := by
    intro i p q hp hq
    obtain ⟨l1, rfl⟩ := List.getElem?_eq_some_iff.1 hp
    obtain ⟨l2, rfl⟩ := List.getElem?_eq_some_iff.1 hq
    exact List.pairwise_iff_getElem.1 hO i (i + 1) l1 l2 (by omega)
  have hs : srt (intoP T P V M) = intoP T P V M := (srt_eq hO (List.Perm.refl _) (ordE_right hE).2.2).symm
  have hb : (intoB T (intoP T P V M) []).1 = 0 := by
    unfold intoB
    rw [List.append_nil, hs]
    have := bldA_again hc (chkL_lens hc).2.2 (intoP T P V M).length 0 (by omega)
    simp only [List.drop_zero, List.take_zero] at this
    rw [this]
  have h0 : intoE T (intoP T P V M) (intoV T P V M) [] = 0 := by
    rw [intoE, if_pos hc, List.append_nil, if_pos hE, hb]
    rfl
  obtain ⟨e1, e2, e3, e4⟩ := into_none h0 hnx
  exact ⟨h0, e1, e2, e3, e4⟩

theorem sync_gate {q : Nat} {g : GT} {m : Int} (hg : gateE dv P q g = 0) (hm : wi m 0 9999 = true) {v' : Int} {D' : List Int} {P' : List TP} (hD' : chkD v' D' = 0) (hP : ∀ p ∈ P', p.g = g.i → ¬ g.s < p.s) : gatePE v' P' q (gSync g.p v' D' m) = 0 := by
  obtain ⟨g1, g2, g3, g4⟩ := gateE_right hg
  obtain ⟨c1, c2, c3, c4⟩ := chkG_right g1
  obtain ⟨s1, s2, s3, s4⟩ := errS_right c1
  have hm' := (wi_iff _ _ _).1 hm
  refine gatePE_of (chkG_of (errS_zero s1 s2 s3 (Nat.zero_le _)) rfl hD' (errB_zero.2 ⟨by show (0 : Int) ≤ 9 ∧ (9 : Int) ≤ 9; omega, by show 0 ≤ m + 100 ∧ m + 100 ≤ 10099; omega⟩)) g2 (by show ¬ v' < v'; omega) (twi_of (fun p hp hpi => ⟨hP p hp hpi, fun y hy => by cases hy⟩))

/-- A SYNC THAT GIVES NO ERROR LEAVES THE STATION RIGHT -/
theorem sync_chk {q : Nat} {g : GT} {m : Int} (hc : chkS T P V dv D G W = 0) (hg : G[q]? = some g) (hm : wi m 0 9999 = true) (hI : intoE T P V g.A = 0) :
    chkPS (intoT T P V g.A) (intoP T P V g.A) (intoV T P V g.A) (denA (intoD T P V g.A) dv D).1 (denA (intoD T P V g.A) dv D).2 ((G.map GT.p).set q (gSync g.p (denA (intoD T P V g.A) dv D).1 (denA (intoD T P V g.A) dv D).2 m)) W = 0 := by
  obtain ⟨hL, hD, hG3, hGs, hW0, -⟩ := chkS_right hc
  obtain ⟨d1, d2, -⟩ := denA_chk (intoD T P V g.A) dv D hD
  have hpm := into_perm hI
  have hq3 := (List.getElem?_eq_some_iff.1 hg).1
  obtain ⟨g1, g2, g3, g4⟩ := gateE_right (hGs q g hg)
  have hal := alone_own (chkG_right g1).2.1
  have hmem : ∀ p ∈ intoP T P V g.A, p ∈ P ∨ p ∈ g.A := fun p hp => List.mem_append.1 (hpm.mem_iff.1 (List.mem_append_left _ hp))
  refine chkPS_of (into_chk hI) d1 (by simp [hG3]) (fun j e hj => ?_) hW0
  by_cases hjq : j = q
  · subst hjq
    rw [List.getElem?_set_self (by simp; omega)] at hj
    obtain rfl := Option.some.inj hj
    refine sync_gate (hGs j g hg) hm d1 (fun p hp hpi => ?_)
    rcases hmem p hp with hp | hp
    · exact (any_twi g4 hp hpi).1
    · have := (hal p hp).2.1
      omega
  · rw [List.getElem?_set_ne (fun e => hjq e.symm), List.getElem?_map, Option.map_eq_some_iff] at hj
    obtain ⟨e', he, rfl⟩ := hj
    obtain ⟨b1, b2, b3, b4⟩ := gateE_right (hGs j e' he)
    refine gatePE_of b1 b2 (by show ¬ _ < e'.v; omega) (twi_of (fun p hp hpi => ?_))
    rcases hmem p hp with hp | hp
    · exact any_twi b4 hp hpi
    · have h1 := (hal p hp).1
      have h2 : p.g = e'.i := hpi
      omega

def eqT (x p : TP) : Bool := x.a == p.a && x.g == p.g && x.s == p.s && x.m == p.m && x.z == p.z

theorem eqT_iff {x p : TP} : eqT x p = true ↔ x = p := by
  obtain ⟨a, b, c, d, e⟩ := x
  obtain ⟨a', b', c', d', e'⟩ := p
  simp [eqT, and_assoc]

/-- each tap that was alone is there once -/
theorem sync_once {M : List TP} (h : intoE T P V M = 0) : ∀ p ∈ M, (intoP T P V M ++ intoD T P V M).countP (fun x => eqT x p) = 1 := by
  intro p hp
  have hpm := into_perm h
  obtain ⟨-, -, hd⟩ := ordE_right (into_right h).2.2.1
  have hd' : DistP (intoP T P V M ++ intoD T P V M) := hd.perm hpm.symm
  have hm : p ∈ intoP T P V M ++ intoD T P V M := hpm.mem_iff.2 (List.mem_append_right _ hp)
  generalize intoP T P V M ++ intoD T P V M = L at hd' hm
  induction L with
  | nil => cases hm
  | cons x L ih =>
    unfold DistP at hd'
    rw [List.pairwise_cons] at hd'
    obtain ⟨h1, h2⟩ := hd'
    by_cases hx : x = p
    · subst hx
      rw [List.countP_cons_of_pos (by simp [eqT_iff])]
      have : L.countP (fun y => eqT y x) = 0 := by
        rw [List.countP_eq_zero]
        intro y hy he
        have : y = x := eqT_iff.1 he
        subst this
        exact h1 y hy ⟨rfl, rfl⟩
      rw [this]
    · rw [List.countP_cons_of_neg (by rw [eqT_iff]; exact hx)]
      rcases List.mem_cons.1 hm with rfl | hm
      · exact absurd rfl hx
      · exact ih h2 hm

end

end Go.Proofs.YtcjfmbeemdcklaaGreat

/-
  'post', 'gateBegun' (package leeboardlaw).
-/
namespace Go.Proofs.YtcjfmbeemdcklaaGreat

open Go.RowKit

theorem t1 : tapG 1 2 4 [] 1 [7] 2 90 ⟨1, 1, 10, 500, 15, 0⟩ 50 = 0 := by decide +kernel

theorem t2 : tapG 1 2 5 [⟨1, 1, 5, 50, 2⟩] 1 [7] 1 90 ⟨1, 1, 10, 500, 15, 0⟩ 60 = 10 := by decide +kernel

theorem t3 : tapG 1 2 4 [] 1 [7] 2 90 ⟨7, 1, 10, 500, 15, 0⟩ 50 = 11 := by decide +kernel

theorem t4 : tapG 1 2 4 [] 1 [7] 2 90 ⟨1, 1, 10, 500, 15, 0⟩ 91 = 8 := by decide +kernel

theorem t5 : syncG 1 2 5 [⟨1, 1, 5, 50, 2⟩] 1 [7] 1 90 5 [] 60 = 0 := by decide +kernel

theorem t6 : chkG 1 2 5 [⟨1, 1, 5, 50, 2⟩] 1 [7] 1 90 = 0 := by decide +kernel

end Go.Proofs.YtcjfmbeemdcklaaGreat

/-
  'SameInts' (package leeboardref), of the same ones.
-/
namespace Go.Proofs.YtcjfmbeemdcklaaGreat

open Go.RowKit

set_option maxHeartbeats 3200000 in
set_option maxRecDepth 100000 in
theorem sameInts_same (L : List Int) (o o' : Option Addr) (c c' : Nat) (w : World) (hL : IntsAt w o L) (hM : IntsAt w o' L) (hlen : L.length ≤ 100) :
    Calls Tryz.prog 73 #[.slice o L.length c, .slice o' L.length c'] w fun e w' => e = .returned (.bool true) ∧ Below w.heap.size w w' := by
  have HL := hide hL
  have HM := hide hM
  clear hL hM
  go_enter Tryz.func73, Tryz.ntmps73
  go_wp2_with fail
  go_loopw [5] (fun j wr => ∃ (q : Nat), q ≤ L.length ∧ j = .int .i64 q ∧ Below w.heap.size w wr) (fun j _ => L.length - (intOf j).toNat)
  case atStart => exact ⟨0, Nat.zero_le _, rfl, Below.refl _ _⟩
  case round =>
    obtain ⟨q, hq, rfl, hbr⟩ := hrel
    by_cases hgo : q < L.length
    · obtain ⟨p, hp⟩ : ∃ p, L[q]? = some p := ⟨L[q], by simp [hgo]⟩
      obtain ⟨A, rfl, c0⟩ := (HL.out.below hbr) q p hp
      obtain ⟨A', rfl, d0⟩ := (HM.out.below hbr) q p hp
      clear hp
      go_wp2_with fail
      go_region
      go_wp2_with fail
      exact ⟨⟨q + 1, by omega, by simp, hbr.drew⟩, by simp [intOf]; omega⟩
    · go_wp2_with fail
      go_ret
      exact ⟨rfl, hbr⟩

end Go.Proofs.YtcjfmbeemdcklaaGreat

/-
  'SameDenied' (package leeboardref) of the same ones; 'deniedBegun' (package leeboardlaw).
-/
namespace Go.Proofs.YtcjfmbeemdcklaaGreat

open Go.RowKit

theorem sameDenied_same (v : Int) (L : List Int) (o o' : Option Addr) (c c' : Nat) (w : World) (hL : IntsAt w o L) (hM : IntsAt w o' L) (hlen : L.length ≤ 100) :
    Calls Tryz.prog 25 #[dn v o L.length c, dn v o' L.length c'] w fun e w' => e = .returned (.bool true) ∧ Below w.heap.size w w' := by
  have HB := hide (((Blks.nil w).more (.cells #[.int .i64 v, .slice o L.length c] 28) (by simp)).more (.cells #[.int .i64 v, .slice o' L.length c'] 28) (by simp))
  have HL := hide hL
  have HM := hide hM
  clear hL hM
  go_enter Tryz.func25, Tryz.ntmps25
  go_wp2_with fail
  refine (sameInts_same L o o' c c' _ (HL.out.below HB.out.2.2) (HM.out.below HB.out.2.2) hlen).mono ?_
  rintro e w1 ⟨rfl, hb⟩
  have HB1 := hide (HB.out.on hb)
  clear hb HB
  go_wp2_with fail
  go_ret
  exact ⟨rfl, HB1.out.2.2⟩

theorem intsAt_two {w : World} {b : Nat} {x y : Int} (h0 : w.cell? ⟨b, 0, none⟩ = some (.int .i64 x)) (h1 : w.cell? ⟨b, 1, none⟩ = some (.int .i64 y)) : IntsAt w (some ⟨b, 0, none⟩) [x, y] := by
  intro i v hv
  match i, hv with
  | 0, hv =>
    simp at hv
    subst hv
    exact ⟨_, rfl, by simpa [Addr.add] using h0⟩
  | 1, hv =>
    simp at hv
    subst hv
    exact ⟨_, rfl, by simpa [Addr.add] using h1⟩
  | i + 2, hv => simp at hv

set_option maxHeartbeats 3200000 in
theorem deniedBegun_any (w : World) : Calls Tryz.prog 24 #[] w fun e w' => e = .returned (.bool true) ∧ Below w.heap.size w w' := by
  have e1 : addE 2 [3, 9] 5 = 0 := by decide +kernel
  have e2 : addI [3, 9] 5 = [3, 5, 9] := by decide +kernel
  have e3 : newE 0 [] 3 [3, 5, 9] = 0 := by decide +kernel
  have e4 : unfD 3 [3, 5, 9] 5 = 0 := by decide +kernel
  have e5 : hasI [3, 5, 9] 5 = true := by decide +kernel
  have e6 : addE 3 [3, 5, 9] 5 = 6 := by decide +kernel
  have e7 : chkD 3 [3, 5, 9] = 0 := by decide +kernel
  have HA := hide (fun W o c (h : IntsAt W o [3, 9]) (h1 : 2 ≤ c) (h2 : o = none → c = 0) => add_any 2 5 [3, 9] o c W h (by simp) h1 h2)
  have HA' := hide (fun W o c (h : IntsAt W o [3, 5, 9]) (h1 : 3 ≤ c) (h2 : o = none → c = 0) => add_any 3 5 [3, 5, 9] o c W h (by simp) h1 h2)
  have HN := hide (fun W o c (h : IntsAt W o [3, 5, 9]) => newer_any 0 3 [] [3, 5, 9] none o 0 c W (fun i p h => by simp at h) h (by simp) (by simp))
  have HH := hide (fun W o c (h : IntsAt W o [3, 5, 9]) => has_any 3 5 [3, 5, 9] o c W h (by simp))
  have HC := hide (fun W o c (h : IntsAt W o [3, 5, 9]) => denCheck_any 3 [3, 5, 9] o c W h (by simp))
  have HS := hide (fun W o o' c c' (h : IntsAt W o [3, 5, 9]) (h' : IntsAt W o' [3, 5, 9]) => sameDenied_same 3 [3, 5, 9] o o' c c' W h h' (by simp))
  rw [e1, e2, if_pos rfl, if_pos rfl, show (2 : Int) + 1 = 3 from rfl] at HA
  rw [e3, if_pos rfl, if_pos rfl, if_pos (by decide), if_pos (by decide)] at HN
  rw [e4, e5] at HH
  rw [e6, if_neg (by decide), if_neg (by decide)] at HA'
  rw [e7] at HC
  clear e1 e2 e3 e4 e5 e6 e7
  go_enter Tryz.func24, Tryz.ntmps24
  go_wp2_with fail
  have HB0 := hide ((Blks.nil w).more (.cells #[.int .i64 3, .int .i64 9] 3) (by simp))
  refine (HA.out _ _ _ (intsAt_two (HB0.out.cell 0 0 _ _ _ _ rfl rfl rfl) (HB0.out.cell 0 1 _ _ _ _ rfl rfl rfl)) (Nat.le_refl _) (fun h => by cases h)).mono ?_
  rintro e w1 ⟨⟨u, rfl, ⟨-, rfl, o, c, rfl, hI, hc, hn⟩⟩, hb1⟩
  have HB1 := hide (HB0.out.on hb1)
  have HI := hide (And.intro hI (And.intro hc hn))
  clear hb1 hI hc hn HB0 HA
  go_wp2_with fail
  have HD := hide ((Blks.nil w1).more (.cells #[.int .i64 3, .slice o 3 c] 28) (by simp))
  refine (HN.out _ o c (HI.out.1.below HD.out.2.2)).mono ?_
  rintro e w2 ⟨⟨u, rfl, ⟨-, rfl, o2, c2, rfl, hI2, -, -⟩⟩, hb2⟩
  have HD2 := hide (HD.out.on hb2)
  have HI2 := hide hI2
  have x0 := HD2.out.cell 0 0 w1.heap.size _ _ _ rfl rfl rfl
  have x1 := HD2.out.cell 0 1 w1.heap.size _ _ _ rfl rfl rfl
  have hlt : w1.heap.size < w2.heap.size := by have := HD2.out.2.1; simp at this; omega
  clear hb2 hI2 HD HN
  go_wp2_with fail
  have HE := hide ((Blks.nil w2).more (.cells #[.int .i64 3, .slice o2 3 c2] 28) (by simp))
  refine (HH.out _ o c (HI.out.1.below (HD2.out.on HE.out.2.2).2.2)).mono ?_
  rintro e w3 ⟨rfl, hb3⟩
  have HE3 := hide (HE.out.on hb3)
  have HD3 := hide (HD2.out.on HE3.out.2.2)
  clear hb3 x0 x1 HE HD2 HH
  have x0 := HD3.out.cell 0 0 w1.heap.size _ _ _ rfl rfl rfl
  have x1 := HD3.out.cell 0 1 w1.heap.size _ _ _ rfl rfl rfl
  go_wp2_with fail
  refine (HA'.out _ o c (HI.out.1.below HD3.out.2.2) HI.out.2.1 HI.out.2.2).mono ?_
  rintro e w4 ⟨⟨u, rfl, ⟨-, rfl, o4, c4, rfl, -, -, -⟩⟩, hb4⟩
  have HE4 := hide (HE3.out.on hb4)
  have HD4 := hide (HD3.out.on hb4)
  clear hb4 x0 x1 HE3 HD3 HA'
  have x0 := HD4.out.cell 0 0 w1.heap.size _ _ _ rfl rfl rfl
  have x1 := HD4.out.cell 0 1 w1.heap.size _ _ _ rfl rfl rfl
  have hl1 : w1.heap.size < w4.heap.size := by have := HD4.out.2.1; simp at this; omega
  have hl2 : w2.heap.size < w4.heap.size := by have := HE4.out.2.1; simp at this; omega
  go_wp2_with fail
  have HF := hide ((Below.refl w4.heap.size w4).alloc (Nat.le_refl _) (.cells #[.int .i64 0, .slice o4 0 c4] 28))
  refine (HC.out _ o c (HI.out.1.below (HD4.out.on HF.out).2.2)).mono ?_
  rintro e w5 ⟨rfl, hb5⟩
  have HE5 := hide ((HE4.out.on HF.out).on hb5)
  have HD5 := hide ((HD4.out.on HF.out).on hb5)
  clear hb5 x0 x1 HE4 HD4 HC HF
  have x0 := HD5.out.cell 0 0 w1.heap.size _ _ _ rfl rfl rfl
  have x1 := HD5.out.cell 0 1 w1.heap.size _ _ _ rfl rfl rfl
  have y0 := HE5.out.cell 0 0 w2.heap.size _ _ _ rfl rfl rfl
  have y1 := HE5.out.cell 0 1 w2.heap.size _ _ _ rfl rfl rfl
  obtain ⟨A, hA, z1⟩ := (HI.out.1.below HD5.out.2.2) 1 5 rfl
  subst hA
  simp [Addr.add] at z1
  go_wp2_with fail
  refine (HS.out _ o2 (some A) c2 c (HI2.out.below HE5.out.2.2) (HI.out.1.below HD5.out.2.2)).mono ?_
  rintro e w6 ⟨rfl, hb6⟩
  have HB6 := hide (HB1.out.on (HD5.out.on hb6).2.2)
  clear hb6 x0 x1 y0 y1
  go_wp2_with fail
  go_ret
  exact ⟨rfl, HB6.out.2.2⟩

end Go.Proofs.YtcjfmbeemdcklaaGreat

/-
  'SameTaps' (package leeboardref), of the same taps.
-/
namespace Go.Proofs.YtcjfmbeemdcklaaGreat

open Go.RowKit

set_option maxHeartbeats 3200000 in
set_option maxRecDepth 100000 in
theorem sameTaps_same (L : List TP) (o o' : Option Addr) (c c' : Nat) (w : World) (hL : TapsAt w o L) (hM : TapsAt w o' L) (hlen : L.length ≤ 100) :
    Calls Tryz.prog 66 #[.slice o L.length c, .slice o' L.length c'] w fun e w' => e = .returned (.bool true) ∧ Below w.heap.size w w' := by
  have HL := hide hL
  have HM := hide hM
  clear hL hM
  go_enter Tryz.func66, Tryz.ntmps66
  go_wp2_with fail
  go_loopw [5] (fun j wr => ∃ (q : Nat), q ≤ L.length ∧ j = .int .i64 q ∧ Below w.heap.size w wr) (fun j _ => L.length - (intOf j).toNat)
  case atStart => exact ⟨0, Nat.zero_le _, rfl, Below.refl _ _⟩
  case round =>
    obtain ⟨q, hq, rfl, hbr⟩ := hrel
    by_cases hgo : q < L.length
    · obtain ⟨p, hp⟩ : ∃ p, L[q]? = some p := ⟨L[q], by simp [hgo]⟩
      obtain ⟨A, rfl, c0, c1, c2, c3, c4⟩ := (HL.out.below hbr) q p hp
      obtain ⟨A', rfl, d0, d1, d2, d3, d4⟩ := (HM.out.below hbr) q p hp
      clear hp
      go_wp2_with fail
      go_region
      go_wp2_with fail
      exact ⟨⟨q + 1, by omega, by simp, hbr.drew⟩, by simp [intOf]; omega⟩
    · go_wp2_with fail
      go_ret
      exact ⟨rfl, hbr⟩

end Go.Proofs.YtcjfmbeemdcklaaGreat

/-
  'SameGate' (package leeboardref) of the same ones; the walk of GateTold.
-/
namespace Go.Proofs.YtcjfmbeemdcklaaGreat

open Go.RowKit

set_option maxHeartbeats 1600000 in
theorem sameGate_same (i z s : Int) (P : List TP) (v : Int) (D : List Int) (l u : Int) (oa oa' od od' : Option Addr) (ca ca' cd cd' : Nat) (w : World) (h1 : TapsAt w oa P) (h2 : TapsAt w oa' P) (h3 : IntsAt w od D) (h4 : IntsAt w od' D) (hP : P.length ≤ 100) (hD : D.length ≤ 100) :
    Calls Tryz.prog 29 #[gtV i z s oa P.length ca v od D.length cd l u, gtV i z s oa' P.length ca' v od' D.length cd' l u] w fun e w' => e = .returned (.bool true) ∧ Below w.heap.size w w' := by
  have HA := hide (fun W (h : TapsAt W oa P) (h' : TapsAt W oa' P) => sameTaps_same P oa oa' ca ca' W h h' hP)
  have HB := hide (fun W (h : IntsAt W od D) (h' : IntsAt W od' D) => sameDenied_same v D od od' cd cd' W h h' hD)
  have H1 := hide h1
  have H2 := hide h2
  have H3 := hide h3
  have H4 := hide h4
  clear h1 h2 h3 h4
  go_enter Tryz.func29, Tryz.ntmps29
  go_wp2_with fail
  have HG1 := hide (((Blks.nil w).more (.cells #[.int .i64 i, .int .i64 z, .int .i64 s, .slice oa P.length ca, .int .i64 v, .slice od D.length cd, .int .i64 l, .int .i64 u] 49) (by simp)).more (.cells #[.int .i64 i, .int .i64 z, .int .i64 s, .slice oa' P.length ca', .int .i64 v, .slice od' D.length cd', .int .i64 l, .int .i64 u] 49) (by simp))
  refine (HA.out _ (H1.out.below HG1.out.2.2) (H2.out.below HG1.out.2.2)).mono ?_
  rintro e w1 ⟨rfl, hb⟩
  have HG1w1 := hide (HG1.out.on hb)
  clear hb HG1
  have lG1_0 := HG1w1.out.lt 0 w.heap.size (by simp) rfl
  have cG1_0_0 := HG1w1.out.cell 0 0 w.heap.size _ _ _ rfl rfl rfl
  have cG1_0_1 := HG1w1.out.cell 0 1 w.heap.size _ _ _ rfl rfl rfl
  have cG1_0_2 := HG1w1.out.cell 0 2 w.heap.size _ _ _ rfl rfl rfl
  have cG1_0_3 := HG1w1.out.cell 0 3 w.heap.size _ _ _ rfl rfl rfl
  have cG1_0_4 := HG1w1.out.cell 0 4 w.heap.size _ _ _ rfl rfl rfl
  have cG1_0_5 := HG1w1.out.cell 0 5 w.heap.size _ _ _ rfl rfl rfl
  have cG1_0_6 := HG1w1.out.cell 0 6 w.heap.size _ _ _ rfl rfl rfl
  have cG1_0_7 := HG1w1.out.cell 0 7 w.heap.size _ _ _ rfl rfl rfl
  have lG1_1 := HG1w1.out.lt 1 (w.heap.size + 1) (by simp) rfl
  have cG1_1_0 := HG1w1.out.cell 1 0 (w.heap.size + 1) _ _ _ rfl rfl rfl
  have cG1_1_1 := HG1w1.out.cell 1 1 (w.heap.size + 1) _ _ _ rfl rfl rfl
  have cG1_1_2 := HG1w1.out.cell 1 2 (w.heap.size + 1) _ _ _ rfl rfl rfl
  have cG1_1_3 := HG1w1.out.cell 1 3 (w.heap.size + 1) _ _ _ rfl rfl rfl
  have cG1_1_4 := HG1w1.out.cell 1 4 (w.heap.size + 1) _ _ _ rfl rfl rfl
  have cG1_1_5 := HG1w1.out.cell 1 5 (w.heap.size + 1) _ _ _ rfl rfl rfl
  have cG1_1_6 := HG1w1.out.cell 1 6 (w.heap.size + 1) _ _ _ rfl rfl rfl
  have cG1_1_7 := HG1w1.out.cell 1 7 (w.heap.size + 1) _ _ _ rfl rfl rfl
  go_wp2_with fail
  refine (HB.out _ (H3.out.below HG1w1.out.2.2) (H4.out.below HG1w1.out.2.2)).mono ?_
  rintro e w2 ⟨rfl, hb⟩
  have HG1w2 := hide (HG1w1.out.on hb)
  clear lG1_0 cG1_0_0 cG1_0_1 cG1_0_2 cG1_0_3 cG1_0_4 cG1_0_5 cG1_0_6 cG1_0_7 lG1_1 cG1_1_0 cG1_1_1 cG1_1_2 cG1_1_3 cG1_1_4 cG1_1_5 cG1_1_6 cG1_1_7
  clear hb HG1w1
  have lG1_0 := HG1w2.out.lt 0 w.heap.size (by simp) rfl
  have cG1_0_0 := HG1w2.out.cell 0 0 w.heap.size _ _ _ rfl rfl rfl
  have cG1_0_1 := HG1w2.out.cell 0 1 w.heap.size _ _ _ rfl rfl rfl
  have cG1_0_2 := HG1w2.out.cell 0 2 w.heap.size _ _ _ rfl rfl rfl
  have cG1_0_3 := HG1w2.out.cell 0 3 w.heap.size _ _ _ rfl rfl rfl
  have cG1_0_4 := HG1w2.out.cell 0 4 w.heap.size _ _ _ rfl rfl rfl
  have cG1_0_5 := HG1w2.out.cell 0 5 w.heap.size _ _ _ rfl rfl rfl
  have cG1_0_6 := HG1w2.out.cell 0 6 w.heap.size _ _ _ rfl rfl rfl
  have cG1_0_7 := HG1w2.out.cell 0 7 w.heap.size _ _ _ rfl rfl rfl
  have lG1_1 := HG1w2.out.lt 1 (w.heap.size + 1) (by simp) rfl
  have cG1_1_0 := HG1w2.out.cell 1 0 (w.heap.size + 1) _ _ _ rfl rfl rfl
  have cG1_1_1 := HG1w2.out.cell 1 1 (w.heap.size + 1) _ _ _ rfl rfl rfl
  have cG1_1_2 := HG1w2.out.cell 1 2 (w.heap.size + 1) _ _ _ rfl rfl rfl
  have cG1_1_3 := HG1w2.out.cell 1 3 (w.heap.size + 1) _ _ _ rfl rfl rfl
  have cG1_1_4 := HG1w2.out.cell 1 4 (w.heap.size + 1) _ _ _ rfl rfl rfl
  have cG1_1_5 := HG1w2.out.cell 1 5 (w.heap.size + 1) _ _ _ rfl rfl rfl
  have cG1_1_6 := HG1w2.out.cell 1 6 (w.heap.size + 1) _ _ _ rfl rfl rfl
  have cG1_1_7 := HG1w2.out.cell 1 7 (w.heap.size + 1) _ _ _ rfl rfl rfl
  go_wp2_with fail
  go_ret
  exact ⟨rfl, HG1w2.out.2.2⟩

end Go.Proofs.YtcjfmbeemdcklaaGreat
