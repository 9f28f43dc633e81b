/-
  The walk of GateTells.
-/
import Derived.Test.YtcakfmpckbmdeacY5
namespace Go.Proofs.Ytcakfmpckbmdeac
open Go.RowKit

theorem syncG_of {i z s : Int} {P : List TP} {v : Int} {D : List Int} {l u v' : Int} {D' : List Int} {m : Int} (h : chkG i z s P v D l u = 0) : syncG i z s P v D l u v' D' m = if chkD v' D' = 0 then (if wi m 0 9999 = true then 0 else 3) else chkD v' D' := by
  have h3 := (chkG_right h).2.2.1
  unfold syncG newE
  rw [if_pos h, if_pos h3]

theorem tapG_of1 {i z s : Int} {P : List TP} {v : Int} {D : List Int} {l u : Int} {x : TK} {m : Int} (h : chkG i z s P v D l u ≠ 0) : tapG i z s P v D l u x m = chkG i z s P v D l u := by
  have hu : unfG i z s P v D l u x m = chkG i z s P v D l u := by unfold unfG; rw [if_neg h]
  unfold tapG
  rw [hu, if_neg h]

theorem tapG_of2 {i z s : Int} {P : List TP} {v : Int} {D : List Int} {l u : Int} {x : TK} {m : Int} (h : chkG i z s P v D l u = 0) (h2 : chkK x ≠ 0) : tapG i z s P v D l u x m = chkK x := by
  have hu : unfG i z s P v D l u x m = chkK x := by unfold unfG; rw [if_pos h, if_neg h2]
  unfold tapG
  rw [hu, if_neg h2]

set_option maxHeartbeats 12800000 in
set_option maxRecDepth 100000 in
theorem gateTells_walk (i z s : Int) (oa : Option Addr) (P : List TP) (ca : Nat) (v : Int) (od : Option Addr) (D : List Int) (cd : Nat) (l u : Int) (ti k f t y r m : Int) (v' : Int) (od' : Option Addr) (D' : List Int) (cd' : Nat) (w : World) (hP : TapsOk w oa P ca) (hD : IntsOk w od D cd) (hD' : IntsOk w od' D' cd') :
    Calls Try.prog 8 #[gtV i z s oa P.length ca v od D.length cd l u, tk ti k f t y r, .int .i64 m, dn v' od' D'.length cd'] w fun e w' => e = .returned (.bool true) ∧ Below w.heap.size w w' := by
  obtain ⟨hP1, hP2, hP3, hP4⟩ := hP
  obtain ⟨hD1, hD2, hD3, hD4⟩ := hD
  obtain ⟨hE1, hE2, hE3, hE4⟩ := hD'
  have HPa := hide hP1
  have HDa := hide hD1
  have HEa := hide hE1
  have HTap := hide (fun W (h1 : TapsAt W oa P) (h2 : IntsAt W od D) => gateTapR i z s oa P ca v od D cd l u ti k f t y r m W h1 h2 hP2 hD2 hP4)
  have HSyn := hide (fun W (h1 : TapsAt W oa P) (h2 : IntsAt W od D) (h3 : IntsAt W od' D') => gateSyncR i z s oa P ca v od D cd l u v' od' D' cd' m W h1 h2 h3 hD2 hE2)
  have HChk := hide (fun W (h1 : TapsAt W oa P) (h2 : IntsAt W od D) => checkGate_any i z s oa P ca v od D cd l u W h1 h2 hD2)
  have HGck := hide (fun W (h1 : TapsAt W oa P) (h2 : IntsAt W od D) => gateCheck_any i z s oa P ca v od D cd l u W h1 h2 hD2)
  have HK := hide (fun W => checkT_any ti k f t y r W)
  have HCD := hide (fun W (h : IntsAt W od' D') => checkDenied_any v' D' od' cd' W h hE2)
  have HTo := hide (fun (h1 : chkG i z s P v D l u = 0) (h2 : chk ti k f t y r = 0) W (h3 : TapsAt W oa P) (h4 : IntsAt W od D) => tapOfR i z s oa P ca v od D cd l u ti k f t y r m W h3 h4 hP4 h1 h2)
  have HSo := hide (fun (hm : 0 ≤ m ∧ m ≤ 9999) W => syncOfR i z s oa P ca v od D cd l u v' od' D' cd' m W hm)
  have HDN : Hid (∀ W, Below w.heap.size w W → IntsV W (.slice (if v < v' then od' else od) (if v < v' then D' else D).length (if v < v' then cd' else cd)) (if v < v' then D' else D)) := hide (fun W hb => by
    split
    · exact ⟨od', cd', rfl, HEa.out.below hb, hE3, hE4⟩
    · exact ⟨od, cd, rfl, HDa.out.below hb, hD3, hD4⟩)
  have HT1 := hide (fun (h : chkG i z s P v D l u ≠ 0) => tapG_of1 (x := (⟨ti, k, f, t, y, r⟩ : TK)) (m := m) h)
  have HT2 := hide (fun (h : chkG i z s P v D l u = 0) (h2 : chk ti k f t y r ≠ 0) => tapG_of2 (x := (⟨ti, k, f, t, y, r⟩ : TK)) (m := m) h h2)
  have HS1 : Hid (chkG i z s P v D l u ≠ 0 → syncG i z s P v D l u v' D' m = chkG i z s P v D l u) := hide (fun h => by unfold syncG; rw [if_neg h])
  have HS2 := hide (fun (h : chkG i z s P v D l u = 0) => syncG_of (v' := v') (D' := D') (m := m) h)
  have HLn : Hid ((tapG i z s P v D l u (⟨ti, k, f, t, y, r⟩ : TK) m = 0 → (P ++ [(⟨ti, i, s + 1, m, z⟩ : TP)]).length ≤ 100 ∧ D.length ≤ 100) ∧ (syncG i z s P v D l u v' D' m = 0 → P.length ≤ 100 ∧ (if v < v' then D' else D).length ≤ 100)) := by
    refine hide ⟨fun h => ?_, fun h => ?_⟩
    · have h1 := chkG_right (unfG_right (tapG_right h).1).1
      have h2 := errS_right h1.1
      have h3 := chkD_right h1.2.2.1
      rw [List.length_append, List.length_singleton]
      omega
    · have h0 := syncG_right h
      have h1 := chkG_right h0.1
      have h2 := errS_right h1.1
      have h3 := chkD_right h1.2.2.1
      have h4 := newE_right h0.2.1
      have h5 := chkD_right h4.2
      split <;> omega
  clear hP1 hD1 hE1
  generalize (P ++ [(⟨ti, i, s + 1, m, z⟩ : TP)]) = PX at *
  generalize (if v < v' then v' else v) = VN at *
  generalize (if v < v' then D' else D) = DN at *
  generalize (if v < v' then od' else od) = ON at *
  generalize (if v < v' then cd' else cd) = CN at *
  generalize tapG i z s P v D l u (⟨ti, k, f, t, y, r⟩ : TK) m = TE at *
  generalize syncG i z s P v D l u v' D' m = SE at *
  generalize chkG i z s P v D l u = X at *
  generalize chkD v' D' = C at *
  have hKK : chk ti k f t y r = chkK (⟨ti, k, f, t, y, r⟩ : TK) := rfl
  rw [← hKK] at HT2
  clear hKK
  generalize chk ti k f t y r = K at *
  go_enter Try.func8, Try.ntmps8
  go_wp2_with fail
  have HG1 := hide ((((Blks.nil w).more (.cells #[.int .i64 i, .int .i64 z, .int .i64 s, .slice oa P.length ca, .int .i64 v, .slice od D.length cd, .int .i64 l, .int .i64 u] 61) (by simp)).more (.cells #[.int .i64 ti, .int .i64 k, .int .i64 f, .int .i64 t, .int .i64 y, .int .i64 r] 28) (by simp)).more (.cells #[.int .i64 v', .slice od' D'.length cd'] 45) (by simp))
  refine (HTap.out _ (HPa.out.below HG1.out.2.2) (HDa.out.below HG1.out.2.2)).mono ?_
  rintro e w1 ⟨⟨ai, az, aq, ao, an, ac, av, ad, am, ae, al, au, p1, p2, p3, p4, p5, rfl, hva⟩, hb⟩
  have HG1w1 := hide (HG1.out.on hb)
  have HVa := hide hva
  clear hva
  clear hb HG1
  have lG1_0 := HG1w1.out.lt 0 w.heap.size (by simp) rfl
  have cG1_0_0 := HG1w1.out.cell 0 0 w.heap.size _ _ _ rfl rfl rfl
  have cG1_0_1 := HG1w1.out.cell 0 1 w.heap.size _ _ _ rfl rfl rfl
  have cG1_0_2 := HG1w1.out.cell 0 2 w.heap.size _ _ _ rfl rfl rfl
  have cG1_0_3 := HG1w1.out.cell 0 3 w.heap.size _ _ _ rfl rfl rfl
  have cG1_0_4 := HG1w1.out.cell 0 4 w.heap.size _ _ _ rfl rfl rfl
  have cG1_0_5 := HG1w1.out.cell 0 5 w.heap.size _ _ _ rfl rfl rfl
  have cG1_0_6 := HG1w1.out.cell 0 6 w.heap.size _ _ _ rfl rfl rfl
  have cG1_0_7 := HG1w1.out.cell 0 7 w.heap.size _ _ _ rfl rfl rfl
  have lG1_1 := HG1w1.out.lt 1 (w.heap.size + 1) (by simp) rfl
  have cG1_1_0 := HG1w1.out.cell 1 0 (w.heap.size + 1) _ _ _ rfl rfl rfl
  have cG1_1_1 := HG1w1.out.cell 1 1 (w.heap.size + 1) _ _ _ rfl rfl rfl
  have cG1_1_2 := HG1w1.out.cell 1 2 (w.heap.size + 1) _ _ _ rfl rfl rfl
  have cG1_1_3 := HG1w1.out.cell 1 3 (w.heap.size + 1) _ _ _ rfl rfl rfl
  have cG1_1_4 := HG1w1.out.cell 1 4 (w.heap.size + 1) _ _ _ rfl rfl rfl
  have cG1_1_5 := HG1w1.out.cell 1 5 (w.heap.size + 1) _ _ _ rfl rfl rfl
  have lG1_2 := HG1w1.out.lt 2 (w.heap.size + 1 + 1) (by simp) rfl
  have cG1_2_0 := HG1w1.out.cell 2 0 (w.heap.size + 1 + 1) _ _ _ rfl rfl rfl
  have cG1_2_1 := HG1w1.out.cell 2 1 (w.heap.size + 1 + 1) _ _ _ rfl rfl rfl
  go_wp2_with fail
  have HG2 := hide (((Blks.nil w1).more (.cells #[.int .i64 ai, .int .i64 az, .int .i64 aq, .slice ao an ac, .int .i64 av, .slice ad am ae, .int .i64 al, .int .i64 au] 61) (by simp)).more (.cells #[.int .i64 p1, .int .i64 p2, .int .i64 p3, .int .i64 p4, .int .i64 p5] 38) (by simp))
  refine (HSyn.out _ (HPa.out.below (HG1w1.out.on HG2.out.2.2).2.2) (HDa.out.below (HG1w1.out.on HG2.out.2.2).2.2) (HEa.out.below (HG1w1.out.on HG2.out.2.2).2.2)).mono ?_
  rintro e w2 ⟨⟨bi, bz, bq, bo, bn, bc, bv, bd, bm, be, bl, bu, lo, ln, lc, rfl, hvb⟩, hb⟩
  have HG2w2 := hide (HG2.out.on hb)
  have HG1w2 := hide (HG1w1.out.on HG2w2.out.2.2)
  have HVb := hide hvb
  clear hvb
  clear lG1_0 cG1_0_0 cG1_0_1 cG1_0_2 cG1_0_3 cG1_0_4 cG1_0_5 cG1_0_6 cG1_0_7 lG1_1 cG1_1_0 cG1_1_1 cG1_1_2 cG1_1_3 cG1_1_4 cG1_1_5 lG1_2 cG1_2_0 cG1_2_1
  clear hb HG1w1 HG2
  have lG1_0 := HG1w2.out.lt 0 w.heap.size (by simp) rfl
  have cG1_0_0 := HG1w2.out.cell 0 0 w.heap.size _ _ _ rfl rfl rfl
  have cG1_0_1 := HG1w2.out.cell 0 1 w.heap.size _ _ _ rfl rfl rfl
  have cG1_0_2 := HG1w2.out.cell 0 2 w.heap.size _ _ _ rfl rfl rfl
  have cG1_0_3 := HG1w2.out.cell 0 3 w.heap.size _ _ _ rfl rfl rfl
  have cG1_0_4 := HG1w2.out.cell 0 4 w.heap.size _ _ _ rfl rfl rfl
  have cG1_0_5 := HG1w2.out.cell 0 5 w.heap.size _ _ _ rfl rfl rfl
  have cG1_0_6 := HG1w2.out.cell 0 6 w.heap.size _ _ _ rfl rfl rfl
  have cG1_0_7 := HG1w2.out.cell 0 7 w.heap.size _ _ _ rfl rfl rfl
  have lG1_1 := HG1w2.out.lt 1 (w.heap.size + 1) (by simp) rfl
  have cG1_1_0 := HG1w2.out.cell 1 0 (w.heap.size + 1) _ _ _ rfl rfl rfl
  have cG1_1_1 := HG1w2.out.cell 1 1 (w.heap.size + 1) _ _ _ rfl rfl rfl
  have cG1_1_2 := HG1w2.out.cell 1 2 (w.heap.size + 1) _ _ _ rfl rfl rfl
  have cG1_1_3 := HG1w2.out.cell 1 3 (w.heap.size + 1) _ _ _ rfl rfl rfl
  have cG1_1_4 := HG1w2.out.cell 1 4 (w.heap.size + 1) _ _ _ rfl rfl rfl
  have cG1_1_5 := HG1w2.out.cell 1 5 (w.heap.size + 1) _ _ _ rfl rfl rfl
  have lG1_2 := HG1w2.out.lt 2 (w.heap.size + 1 + 1) (by simp) rfl
  have cG1_2_0 := HG1w2.out.cell 2 0 (w.heap.size + 1 + 1) _ _ _ rfl rfl rfl
  have cG1_2_1 := HG1w2.out.cell 2 1 (w.heap.size + 1 + 1) _ _ _ rfl rfl rfl
  have lG2_0 := HG2w2.out.lt 0 w1.heap.size (by simp) rfl
  have cG2_0_0 := HG2w2.out.cell 0 0 w1.heap.size _ _ _ rfl rfl rfl
  have cG2_0_1 := HG2w2.out.cell 0 1 w1.heap.size _ _ _ rfl rfl rfl
  have cG2_0_2 := HG2w2.out.cell 0 2 w1.heap.size _ _ _ rfl rfl rfl
  have cG2_0_3 := HG2w2.out.cell 0 3 w1.heap.size _ _ _ rfl rfl rfl
  have cG2_0_4 := HG2w2.out.cell 0 4 w1.heap.size _ _ _ rfl rfl rfl
  have cG2_0_5 := HG2w2.out.cell 0 5 w1.heap.size _ _ _ rfl rfl rfl
  have cG2_0_6 := HG2w2.out.cell 0 6 w1.heap.size _ _ _ rfl rfl rfl
  have cG2_0_7 := HG2w2.out.cell 0 7 w1.heap.size _ _ _ rfl rfl rfl
  have lG2_1 := HG2w2.out.lt 1 (w1.heap.size + 1) (by simp) rfl
  have cG2_1_0 := HG2w2.out.cell 1 0 (w1.heap.size + 1) _ _ _ rfl rfl rfl
  have cG2_1_1 := HG2w2.out.cell 1 1 (w1.heap.size + 1) _ _ _ rfl rfl rfl
  have cG2_1_2 := HG2w2.out.cell 1 2 (w1.heap.size + 1) _ _ _ rfl rfl rfl
  have cG2_1_3 := HG2w2.out.cell 1 3 (w1.heap.size + 1) _ _ _ rfl rfl rfl
  have cG2_1_4 := HG2w2.out.cell 1 4 (w1.heap.size + 1) _ _ _ rfl rfl rfl
  go_wp2_with fail
  have HG3 := hide ((Blks.nil w2).more (.cells #[.int .i64 bi, .int .i64 bz, .int .i64 bq, .slice bo bn bc, .int .i64 bv, .slice bd bm be, .int .i64 bl, .int .i64 bu] 61) (by simp))
  refine (HChk.out _ (HPa.out.below (HG1w2.out.on HG3.out.2.2).2.2) (HDa.out.below (HG1w2.out.on HG3.out.2.2).2.2)).mono ?_
  rintro e w3 ⟨rfl, hb⟩
  have HG3w3 := hide (HG3.out.on hb)
  have HG1w3 := hide (HG1w2.out.on HG3w3.out.2.2)
  have HG2w3 := hide (HG2w2.out.on HG3w3.out.2.2)
  clear lG1_0 cG1_0_0 cG1_0_1 cG1_0_2 cG1_0_3 cG1_0_4 cG1_0_5 cG1_0_6 cG1_0_7 lG1_1 cG1_1_0 cG1_1_1 cG1_1_2 cG1_1_3 cG1_1_4 cG1_1_5 lG1_2 cG1_2_0 cG1_2_1 lG2_0 cG2_0_0 cG2_0_1 cG2_0_2 cG2_0_3 cG2_0_4 cG2_0_5 cG2_0_6 cG2_0_7 lG2_1 cG2_1_0 cG2_1_1 cG2_1_2 cG2_1_3 cG2_1_4
  clear hb HG1w2 HG2w2 HG3
  have lG1_0 := HG1w3.out.lt 0 w.heap.size (by simp) rfl
  have cG1_0_0 := HG1w3.out.cell 0 0 w.heap.size _ _ _ rfl rfl rfl
  have cG1_0_1 := HG1w3.out.cell 0 1 w.heap.size _ _ _ rfl rfl rfl
  have cG1_0_2 := HG1w3.out.cell 0 2 w.heap.size _ _ _ rfl rfl rfl
  have cG1_0_3 := HG1w3.out.cell 0 3 w.heap.size _ _ _ rfl rfl rfl
  have cG1_0_4 := HG1w3.out.cell 0 4 w.heap.size _ _ _ rfl rfl rfl
  have cG1_0_5 := HG1w3.out.cell 0 5 w.heap.size _ _ _ rfl rfl rfl
  have cG1_0_6 := HG1w3.out.cell 0 6 w.heap.size _ _ _ rfl rfl rfl
  have cG1_0_7 := HG1w3.out.cell 0 7 w.heap.size _ _ _ rfl rfl rfl
  have lG1_1 := HG1w3.out.lt 1 (w.heap.size + 1) (by simp) rfl
  have cG1_1_0 := HG1w3.out.cell 1 0 (w.heap.size + 1) _ _ _ rfl rfl rfl
  have cG1_1_1 := HG1w3.out.cell 1 1 (w.heap.size + 1) _ _ _ rfl rfl rfl
  have cG1_1_2 := HG1w3.out.cell 1 2 (w.heap.size + 1) _ _ _ rfl rfl rfl
  have cG1_1_3 := HG1w3.out.cell 1 3 (w.heap.size + 1) _ _ _ rfl rfl rfl
  have cG1_1_4 := HG1w3.out.cell 1 4 (w.heap.size + 1) _ _ _ rfl rfl rfl
  have cG1_1_5 := HG1w3.out.cell 1 5 (w.heap.size + 1) _ _ _ rfl rfl rfl
  have lG1_2 := HG1w3.out.lt 2 (w.heap.size + 1 + 1) (by simp) rfl
  have cG1_2_0 := HG1w3.out.cell 2 0 (w.heap.size + 1 + 1) _ _ _ rfl rfl rfl
  have cG1_2_1 := HG1w3.out.cell 2 1 (w.heap.size + 1 + 1) _ _ _ rfl rfl rfl
  have lG2_0 := HG2w3.out.lt 0 w1.heap.size (by simp) rfl
  have cG2_0_0 := HG2w3.out.cell 0 0 w1.heap.size _ _ _ rfl rfl rfl
  have cG2_0_1 := HG2w3.out.cell 0 1 w1.heap.size _ _ _ rfl rfl rfl
  have cG2_0_2 := HG2w3.out.cell 0 2 w1.heap.size _ _ _ rfl rfl rfl
  have cG2_0_3 := HG2w3.out.cell 0 3 w1.heap.size _ _ _ rfl rfl rfl
  have cG2_0_4 := HG2w3.out.cell 0 4 w1.heap.size _ _ _ rfl rfl rfl
  have cG2_0_5 := HG2w3.out.cell 0 5 w1.heap.size _ _ _ rfl rfl rfl
  have cG2_0_6 := HG2w3.out.cell 0 6 w1.heap.size _ _ _ rfl rfl rfl
  have cG2_0_7 := HG2w3.out.cell 0 7 w1.heap.size _ _ _ rfl rfl rfl
  have lG2_1 := HG2w3.out.lt 1 (w1.heap.size + 1) (by simp) rfl
  have cG2_1_0 := HG2w3.out.cell 1 0 (w1.heap.size + 1) _ _ _ rfl rfl rfl
  have cG2_1_1 := HG2w3.out.cell 1 1 (w1.heap.size + 1) _ _ _ rfl rfl rfl
  have cG2_1_2 := HG2w3.out.cell 1 2 (w1.heap.size + 1) _ _ _ rfl rfl rfl
  have cG2_1_3 := HG2w3.out.cell 1 3 (w1.heap.size + 1) _ _ _ rfl rfl rfl
  have cG2_1_4 := HG2w3.out.cell 1 4 (w1.heap.size + 1) _ _ _ rfl rfl rfl
  have lG3_0 := HG3w3.out.lt 0 w2.heap.size (by simp) rfl
  have cG3_0_0 := HG3w3.out.cell 0 0 w2.heap.size _ _ _ rfl rfl rfl
  have cG3_0_1 := HG3w3.out.cell 0 1 w2.heap.size _ _ _ rfl rfl rfl
  have cG3_0_2 := HG3w3.out.cell 0 2 w2.heap.size _ _ _ rfl rfl rfl
  have cG3_0_3 := HG3w3.out.cell 0 3 w2.heap.size _ _ _ rfl rfl rfl
  have cG3_0_4 := HG3w3.out.cell 0 4 w2.heap.size _ _ _ rfl rfl rfl
  have cG3_0_5 := HG3w3.out.cell 0 5 w2.heap.size _ _ _ rfl rfl rfl
  have cG3_0_6 := HG3w3.out.cell 0 6 w2.heap.size _ _ _ rfl rfl rfl
  have cG3_0_7 := HG3w3.out.cell 0 7 w2.heap.size _ _ _ rfl rfl rfl
  clear lG1_0 cG1_0_0 cG1_0_1 cG1_0_2 cG1_0_3 cG1_0_4 cG1_0_5 cG1_0_6 cG1_0_7 lG1_1 cG1_1_0 cG1_1_1 cG1_1_2 cG1_1_3 cG1_1_4 cG1_1_5 lG1_2 cG1_2_0 cG1_2_1 lG2_0 cG2_0_0 cG2_0_1 cG2_0_2 cG2_0_3 cG2_0_4 cG2_0_5 cG2_0_6 cG2_0_7 lG2_1 cG2_1_0 cG2_1_1 cG2_1_2 cG2_1_3 cG2_1_4 lG3_0 cG3_0_0 cG3_0_1 cG3_0_2 cG3_0_3 cG3_0_4 cG3_0_5 cG3_0_6 cG3_0_7
  go_upto_if 43 with fail
  go_cut [16] from 22 (fun s16 wx => s16 = .int .i64 (if X = 0 then K else X) ∧ Blks w wx ([] ++ [.cells #[.int .i64 i, .int .i64 z, .int .i64 s, .slice oa P.length ca, .int .i64 v, .slice od D.length cd, .int .i64 l, .int .i64 u] 61] ++ [.cells #[.int .i64 ti, .int .i64 k, .int .i64 f, .int .i64 t, .int .i64 y, .int .i64 r] 28] ++ [.cells #[.int .i64 v', .slice od' D'.length cd'] 45]) ∧ Blks w1 wx ([] ++ [.cells #[.int .i64 ai, .int .i64 az, .int .i64 aq, .slice ao an ac, .int .i64 av, .slice ad am ae, .int .i64 al, .int .i64 au] 61] ++ [.cells #[.int .i64 p1, .int .i64 p2, .int .i64 p3, .int .i64 p4, .int .i64 p5] 38]) ∧ Blks w2 wx ([] ++ [.cells #[.int .i64 bi, .int .i64 bz, .int .i64 bq, .slice bo bn bc, .int .i64 bv, .slice bd bm be, .int .i64 bl, .int .i64 bu] 61]))
  case first =>
    by_cases hX : X = 0
    · have hX' : (X == 0) = true := by simpa using hX
      have HX := hide hX
      clear hX HT1 HT2 HS1 HS2 HTo
      have x0 := HG1w3.out.cell 0 0 w.heap.size _ _ _ rfl rfl rfl
      have x1 := HG1w3.out.cell 0 1 w.heap.size _ _ _ rfl rfl rfl
      have x2 := HG1w3.out.cell 0 2 w.heap.size _ _ _ rfl rfl rfl
      have x3 := HG1w3.out.cell 0 3 w.heap.size _ _ _ rfl rfl rfl
      have x4 := HG1w3.out.cell 0 4 w.heap.size _ _ _ rfl rfl rfl
      have x5 := HG1w3.out.cell 0 5 w.heap.size _ _ _ rfl rfl rfl
      have x6 := HG1w3.out.cell 0 6 w.heap.size _ _ _ rfl rfl rfl
      have x7 := HG1w3.out.cell 0 7 w.heap.size _ _ _ rfl rfl rfl
      have k0 := HG1w3.out.cell 1 0 (w.heap.size + 1) _ _ _ rfl rfl rfl
      have k1 := HG1w3.out.cell 1 1 (w.heap.size + 1) _ _ _ rfl rfl rfl
      have k2 := HG1w3.out.cell 1 2 (w.heap.size + 1) _ _ _ rfl rfl rfl
      have k3 := HG1w3.out.cell 1 3 (w.heap.size + 1) _ _ _ rfl rfl rfl
      have k4 := HG1w3.out.cell 1 4 (w.heap.size + 1) _ _ _ rfl rfl rfl
      have k5 := HG1w3.out.cell 1 5 (w.heap.size + 1) _ _ _ rfl rfl rfl
      have d0 := HG1w3.out.cell 2 0 (w.heap.size + 1 + 1) _ _ _ rfl rfl rfl
      have d1 := HG1w3.out.cell 2 1 (w.heap.size + 1 + 1) _ _ _ rfl rfl rfl
      go_wp2_with fail
      refine (HK.out _).mono ?_
      rintro e w4 ⟨rfl, hb⟩
      have b1 := hide (HG1w3.out.on hb)
      have b2 := hide (HG2w3.out.on hb)
      have b3 := hide (HG3w3.out.on hb)
      clear hb
      go_wp2_with fail
      go_meet
      case rel => exact ⟨by rw [if_pos HX.out], b1.out, b2.out, b3.out⟩
    · have hX' : (X == 0) = false := by simpa using hX
      have HX := hide hX
      clear hX HT1 HT2 HS1 HS2 HTo
      go_wp2_with fail
      go_meet
      case rel => exact ⟨by rw [if_neg HX.out], HG1w3.out, HG2w3.out, HG3w3.out⟩
  case rest =>
    obtain ⟨rfl, c1, c2, c3⟩ := hcut
    have A1 := hide c1
    have A2 := hide c2
    have A3 := hide c3
    clear c1 c2 c3 HG1w3 HG2w3 HG3w3 HK
    have HV1 : Hid ((if X = 0 then K else X) ≠ 0 → TE = if X = 0 then K else X) := hide (by
      by_cases h0 : X = 0
      · rw [if_pos h0]
        exact fun h => HT2.out h0 h
      · rw [if_neg h0]
        exact fun h => HT1.out h)
    have HV0 : Hid ((if X = 0 then K else X) = 0 → X = 0 ∧ K = 0) := hide (by
      by_cases h0 : X = 0
      · rw [if_pos h0]
        exact fun h => ⟨h0, h⟩
      · rw [if_neg h0]
        exact fun h => absurd h h0)
    generalize (if X = 0 then K else X) = V1 at *
    go_upto_if 47 with fail
    go_cut [17] from 22 (fun s17 wx => s17 = .int .i64 (if X = 0 then C else X) ∧ Blks w wx ([] ++ [.cells #[.int .i64 i, .int .i64 z, .int .i64 s, .slice oa P.length ca, .int .i64 v, .slice od D.length cd, .int .i64 l, .int .i64 u] 61] ++ [.cells #[.int .i64 ti, .int .i64 k, .int .i64 f, .int .i64 t, .int .i64 y, .int .i64 r] 28] ++ [.cells #[.int .i64 v', .slice od' D'.length cd'] 45]) ∧ Blks w1 wx ([] ++ [.cells #[.int .i64 ai, .int .i64 az, .int .i64 aq, .slice ao an ac, .int .i64 av, .slice ad am ae, .int .i64 al, .int .i64 au] 61] ++ [.cells #[.int .i64 p1, .int .i64 p2, .int .i64 p3, .int .i64 p4, .int .i64 p5] 38]) ∧ Blks w2 wx ([] ++ [.cells #[.int .i64 bi, .int .i64 bz, .int .i64 bq, .slice bo bn bc, .int .i64 bv, .slice bd bm be, .int .i64 bl, .int .i64 bu] 61]))
    case first =>
      by_cases hX : X = 0
      · have hX' : (X == 0) = true := by simpa using hX
        have HX := hide hX
        clear hX HT1 HT2 HS1 HS2 HTo
        have x0 := A1.out.cell 0 0 w.heap.size _ _ _ rfl rfl rfl
        have x1 := A1.out.cell 0 1 w.heap.size _ _ _ rfl rfl rfl
        have x2 := A1.out.cell 0 2 w.heap.size _ _ _ rfl rfl rfl
        have x3 := A1.out.cell 0 3 w.heap.size _ _ _ rfl rfl rfl
        have x4 := A1.out.cell 0 4 w.heap.size _ _ _ rfl rfl rfl
        have x5 := A1.out.cell 0 5 w.heap.size _ _ _ rfl rfl rfl
        have x6 := A1.out.cell 0 6 w.heap.size _ _ _ rfl rfl rfl
        have x7 := A1.out.cell 0 7 w.heap.size _ _ _ rfl rfl rfl
        have k0 := A1.out.cell 1 0 (w.heap.size + 1) _ _ _ rfl rfl rfl
        have k1 := A1.out.cell 1 1 (w.heap.size + 1) _ _ _ rfl rfl rfl
        have k2 := A1.out.cell 1 2 (w.heap.size + 1) _ _ _ rfl rfl rfl
        have k3 := A1.out.cell 1 3 (w.heap.size + 1) _ _ _ rfl rfl rfl
        have k4 := A1.out.cell 1 4 (w.heap.size + 1) _ _ _ rfl rfl rfl
        have k5 := A1.out.cell 1 5 (w.heap.size + 1) _ _ _ rfl rfl rfl
        have d0 := A1.out.cell 2 0 (w.heap.size + 1 + 1) _ _ _ rfl rfl rfl
        have d1 := A1.out.cell 2 1 (w.heap.size + 1 + 1) _ _ _ rfl rfl rfl
        go_wp2_with fail
        refine (HCD.out _ (HEa.out.below A1.out.2.2)).mono ?_
        rintro e w4 ⟨rfl, hb⟩
        have b1 := hide (A1.out.on hb)
        have b2 := hide (A2.out.on hb)
        have b3 := hide (A3.out.on hb)
        clear hb
        go_wp2_with fail
        go_meet
        case rel => exact ⟨by rw [if_pos HX.out], b1.out, b2.out, b3.out⟩
      · have hX' : (X == 0) = false := by simpa using hX
        have HX := hide hX
        clear hX HT1 HT2 HS1 HS2 HTo
        go_wp2_with fail
        go_meet
        case rel => exact ⟨by rw [if_neg HX.out], A1.out, A2.out, A3.out⟩
    case rest =>
      obtain ⟨rfl, c1, c2, c3⟩ := hcut
      have E1 := hide c1
      have E2 := hide c2
      have E3 := hide c3
      clear c1 c2 c3 A1 A2 A3 HCD HT1 HT2
      have HW1 : Hid (((if X = 0 then C else X) ≠ 0 → SE = if X = 0 then C else X) ∧ ((if X = 0 then C else X) = 0 → SE = if wi m 0 9999 = true then 0 else 3)) := hide (by
        by_cases h0 : X = 0
        · rw [if_pos h0]
          have h1 := HS2.out h0
          exact ⟨fun h => by rw [h1, if_neg h], fun h => by rw [h1, if_pos h]⟩
        · rw [if_neg h0]
          exact ⟨fun h => HS1.out h, fun h => absurd h h0⟩)
      generalize (if X = 0 then C else X) = W1 at *
      clear HS1 HS2
      go_upto_region 9 with fail
      go_cut [17, 59] from 22 (fun s17 s59 wx => s17 = .int .i64 W1 ∧ s59 = .bool ((W1 == 0) && !(wi m 0 9999)) ∧ Blks w wx ([] ++ [.cells #[.int .i64 i, .int .i64 z, .int .i64 s, .slice oa P.length ca, .int .i64 v, .slice od D.length cd, .int .i64 l, .int .i64 u] 61] ++ [.cells #[.int .i64 ti, .int .i64 k, .int .i64 f, .int .i64 t, .int .i64 y, .int .i64 r] 28] ++ [.cells #[.int .i64 v', .slice od' D'.length cd'] 45]) ∧ Blks w1 wx ([] ++ [.cells #[.int .i64 ai, .int .i64 az, .int .i64 aq, .slice ao an ac, .int .i64 av, .slice ad am ae, .int .i64 al, .int .i64 au] 61] ++ [.cells #[.int .i64 p1, .int .i64 p2, .int .i64 p3, .int .i64 p4, .int .i64 p5] 38]) ∧ Blks w2 wx ([] ++ [.cells #[.int .i64 bi, .int .i64 bz, .int .i64 bq, .slice bo bn bc, .int .i64 bv, .slice bd bm be, .int .i64 bl, .int .i64 bu] 61]))
      case first =>
        have hw : (W1 == 0) = false ∨ ((W1 == 0) = true ∧ ((m < 0 ∧ wi m 0 9999 = false) ∨ (¬ m < 0 ∧ 9999 < m ∧ wi m 0 9999 = false) ∨ (¬ m < 0 ∧ ¬ 9999 < m ∧ wi m 0 9999 = true))) := by
          cases W1 == 0
          · exact Or.inl rfl
          · right
            refine ⟨rfl, ?_⟩
            have h1 := wi_iff m 0 9999
            cases e : wi m 0 9999
            · rw [e] at h1
              simp at h1
              by_cases hm : m < 0
              · exact Or.inl ⟨hm, rfl⟩
              · exact Or.inr (Or.inl ⟨hm, by omega, rfl⟩)
            · have := h1.1 e
              exact Or.inr (Or.inr ⟨by omega, by omega, rfl⟩)
        clear HTo HSo
        rcases hw with g1 | ⟨g1, ⟨g2, g3⟩ | ⟨g2, g3, g4⟩ | ⟨g2, g3, g4⟩⟩
        · go_wp2_with fail
          go_meet
          case rel => exact ⟨rfl, by rw [g1]; rfl, E1.out, E2.out, E3.out⟩
        · go_wp2_with fail
          go_meet
          case rel => exact ⟨rfl, by rw [g1, g3]; rfl, E1.out, E2.out, E3.out⟩
        · go_wp2_with fail
          go_meet
          case rel => exact ⟨rfl, by rw [g1, g4]; rfl, E1.out, E2.out, E3.out⟩
        · go_wp2_with fail
          go_meet
          case rel => exact ⟨rfl, by rw [g1, g4]; rfl, E1.out, E2.out, E3.out⟩
      case rest =>
        obtain ⟨rfl, rfl, c1, c2, c3⟩ := hcut
        have F1 := hide c1
        have F2 := hide c2
        have F3 := hide c3
        clear c1 c2 c3 E1 E2 E3
        go_upto_if 59 with fail
        go_cut [17] from 22 (fun s17 wx => s17 = .int .i64 SE ∧ Blks w wx ([] ++ [.cells #[.int .i64 i, .int .i64 z, .int .i64 s, .slice oa P.length ca, .int .i64 v, .slice od D.length cd, .int .i64 l, .int .i64 u] 61] ++ [.cells #[.int .i64 ti, .int .i64 k, .int .i64 f, .int .i64 t, .int .i64 y, .int .i64 r] 28] ++ [.cells #[.int .i64 v', .slice od' D'.length cd'] 45]) ∧ Blks w1 wx ([] ++ [.cells #[.int .i64 ai, .int .i64 az, .int .i64 aq, .slice ao an ac, .int .i64 av, .slice ad am ae, .int .i64 al, .int .i64 au] 61] ++ [.cells #[.int .i64 p1, .int .i64 p2, .int .i64 p3, .int .i64 p4, .int .i64 p5] 38]) ∧ Blks w2 wx ([] ++ [.cells #[.int .i64 bi, .int .i64 bz, .int .i64 bq, .slice bo bn bc, .int .i64 bv, .slice bd bm be, .int .i64 bl, .int .i64 bu] 61]))
        case first =>
          have hw : ((W1 == 0) && !(wi m 0 9999)) = true ∧ SE = 3 ∨ ((W1 == 0) && !(wi m 0 9999)) = false ∧ SE = W1 := by
            by_cases h0 : W1 = 0
            · have e := HW1.out.2 h0
              cases hm : wi m 0 9999
              · left; rw [hm] at e; exact ⟨by simp [h0], e⟩
              · right; rw [hm] at e; exact ⟨by simp, by rw [e, h0]; rfl⟩
            · right; exact ⟨by simp [h0], HW1.out.1 h0⟩
          clear HTo HSo
          rcases hw with ⟨g1, g2⟩ | ⟨g1, g2⟩
          all_goals
            have HE := hide g2
            clear g2
            rw [g1]
            go_wp2_with fail
            go_meet
            case rel => exact ⟨by rw [HE.out], F1.out, F2.out, F3.out⟩
        case rest =>
          obtain ⟨rfl, c1, c2, c3⟩ := hcut
          have H1 := hide c1
          have H2 := hide c2
          have H3 := hide c3
          clear c1 c2 c3 F1 F2 F3
          have HM : Hid (SE = 0 → 0 ≤ m ∧ m ≤ 9999) := hide (fun h => by
            by_cases h0 : W1 = 0
            · have e := HW1.out.2 h0
              cases hm : wi m 0 9999
              · rw [hm] at e; rw [e] at h; cases h
              · exact (wi_iff _ _ _).1 hm
            · have e := HW1.out.1 h0
              exact absurd (e.symm.trans h) h0)
          clear HW1
          have hs1 := H1.out.2.1
          have hs2 := H2.out.2.1
          have hs3 := H3.out.2.1
          simp only [List.length_append, List.length_cons, List.length_nil] at hs1 hs2 hs3
          obtain ⟨wq, hwq⟩ : ∃ wq, wq = wc := ⟨_, rfl⟩
          subst hwq
          go_upto_if 61 with fail
          have Z4 := hide ((((Blks.nil wq).more (.cells #[.int .i64 0, .int .i64 0, .int .i64 0, .slice none 0 0, .int .i64 0, .slice none 0 0, .int .i64 0, .int .i64 0] 61) (by simp)).more (.cells #[.int .i64 0, .int .i64 0, .int .i64 0, .slice none 0 0, .int .i64 0, .slice none 0 0, .int .i64 0, .int .i64 0] 61) (by simp)).more (.cells #[.int .i64 0, .int .i64 0, .int .i64 0, .int .i64 0, .int .i64 0] 38) (by simp))
          have Q1 := hide (H1.out.on Z4.out.2.2)
          have Q2 := hide (H2.out.on Z4.out.2.2)
          have Q3 := hide (H3.out.on Z4.out.2.2)
          clear H1 H2 H3
          go_cut [16] from 22 (fun s16 wx => s16 = .int .i64 TE ∧ Blks w wx ([] ++ [.cells #[.int .i64 i, .int .i64 z, .int .i64 s, .slice oa P.length ca, .int .i64 v, .slice od D.length cd, .int .i64 l, .int .i64 u] 61] ++ [.cells #[.int .i64 ti, .int .i64 k, .int .i64 f, .int .i64 t, .int .i64 y, .int .i64 r] 28] ++ [.cells #[.int .i64 v', .slice od' D'.length cd'] 45]) ∧ Blks w1 wx ([] ++ [.cells #[.int .i64 ai, .int .i64 az, .int .i64 aq, .slice ao an ac, .int .i64 av, .slice ad am ae, .int .i64 al, .int .i64 au] 61] ++ [.cells #[.int .i64 p1, .int .i64 p2, .int .i64 p3, .int .i64 p4, .int .i64 p5] 38]) ∧ Blks w2 wx ([] ++ [.cells #[.int .i64 bi, .int .i64 bz, .int .i64 bq, .slice bo bn bc, .int .i64 bv, .slice bd bm be, .int .i64 bl, .int .i64 bu] 61]) ∧ ∃ gi gz gq go gn gc gv gd gm ge gl gu tw1 tw2 tw3 tw4 tw5, Blks wq wx ([] ++ [.cells #[.int .i64 gi, .int .i64 gz, .int .i64 gq, .slice go gn gc, .int .i64 gv, .slice gd gm ge, .int .i64 gl, .int .i64 gu] 61] ++ [.cells #[.int .i64 0, .int .i64 0, .int .i64 0, .slice none 0 0, .int .i64 0, .slice none 0 0, .int .i64 0, .int .i64 0] 61] ++ [.cells #[.int .i64 tw1, .int .i64 tw2, .int .i64 tw3, .int .i64 tw4, .int .i64 tw5] 38]) ∧ TofR wx (wq.heap.size + 1 + 1 + 1) TE gi gz gq go gn gc gv gd gm ge gl gu tw1 tw2 tw3 tw4 tw5 i z (s + 1) PX v od D.length cd (l - 1) u ⟨ti, i, s + 1, m, z⟩)
          case first =>
            by_cases hV : V1 = 0
            · have hV' : (V1 == 0) = true := by simpa using hV
              obtain ⟨hX0, hK0⟩ := HV0.out hV
              have HTo' := hide (HTo.out hX0 hK0)
              clear hV hX0 hK0 HTo HSo HV0 HV1 HM
              have x0 := Q1.out.cell 0 0 w.heap.size _ _ _ rfl rfl rfl
              have x1 := Q1.out.cell 0 1 w.heap.size _ _ _ rfl rfl rfl
              have x2 := Q1.out.cell 0 2 w.heap.size _ _ _ rfl rfl rfl
              have x3 := Q1.out.cell 0 3 w.heap.size _ _ _ rfl rfl rfl
              have x4 := Q1.out.cell 0 4 w.heap.size _ _ _ rfl rfl rfl
              have x5 := Q1.out.cell 0 5 w.heap.size _ _ _ rfl rfl rfl
              have x6 := Q1.out.cell 0 6 w.heap.size _ _ _ rfl rfl rfl
              have x7 := Q1.out.cell 0 7 w.heap.size _ _ _ rfl rfl rfl
              have k0 := Q1.out.cell 1 0 (w.heap.size + 1) _ _ _ rfl rfl rfl
              have k1 := Q1.out.cell 1 1 (w.heap.size + 1) _ _ _ rfl rfl rfl
              have k2 := Q1.out.cell 1 2 (w.heap.size + 1) _ _ _ rfl rfl rfl
              have k3 := Q1.out.cell 1 3 (w.heap.size + 1) _ _ _ rfl rfl rfl
              have k4 := Q1.out.cell 1 4 (w.heap.size + 1) _ _ _ rfl rfl rfl
              have k5 := Q1.out.cell 1 5 (w.heap.size + 1) _ _ _ rfl rfl rfl
              have d0 := Q1.out.cell 2 0 (w.heap.size + 1 + 1) _ _ _ rfl rfl rfl
              have d1 := Q1.out.cell 2 1 (w.heap.size + 1 + 1) _ _ _ rfl rfl rfl
              go_wp2_with fail
              refine (HTo'.out _ (HPa.out.below Q1.out.2.2) (HDa.out.below Q1.out.2.2)).mono ?_
              rintro e w5 ⟨⟨gi, gz, gq, go, gn, gc, gv, gd, gm, ge, gl, gu, tw1, tw2, tw3, tw4, tw5, rfl, hto⟩, hb⟩
              rw [show (((wq.alloc (.cells #[.int .i64 0, .int .i64 0, .int .i64 0, .slice none 0 0, .int .i64 0, .slice none 0 0, .int .i64 0, .int .i64 0] 61)).alloc (.cells #[.int .i64 0, .int .i64 0, .int .i64 0, .slice none 0 0, .int .i64 0, .slice none 0 0, .int .i64 0, .int .i64 0] 61)).alloc (.cells #[.int .i64 0, .int .i64 0, .int .i64 0, .int .i64 0, .int .i64 0] 38)).heap.size = wq.heap.size + 1 + 1 + 1 by simp] at hto
              have T5 := hide hto
              have Z5 := hide (Z4.out.on hb)
              have b1 := hide (Q1.out.on hb)
              have b2 := hide (Q2.out.on hb)
              have b3 := hide (Q3.out.on hb)
              clear hto hb Z4 Q1 Q2 Q3 x0 x1 x2 x3 x4 x5 x6 x7 k0 k1 k2 k3 k4 k5 d0 d1
              have r0 := Z5.out.cell 0 0 wq.heap.size _ _ _ rfl rfl rfl
              have r1 := Z5.out.cell 0 1 wq.heap.size _ _ _ rfl rfl rfl
              have r2 := Z5.out.cell 0 2 wq.heap.size _ _ _ rfl rfl rfl
              have r3 := Z5.out.cell 0 3 wq.heap.size _ _ _ rfl rfl rfl
              have r4 := Z5.out.cell 0 4 wq.heap.size _ _ _ rfl rfl rfl
              have r5 := Z5.out.cell 0 5 wq.heap.size _ _ _ rfl rfl rfl
              have r6 := Z5.out.cell 0 6 wq.heap.size _ _ _ rfl rfl rfl
              have r7 := Z5.out.cell 0 7 wq.heap.size _ _ _ rfl rfl rfl
              have q0 := Z5.out.frozen 0 0 wq.heap.size _ _ rfl rfl
              have q1 := Z5.out.frozen 0 1 wq.heap.size _ _ rfl rfl
              have q2 := Z5.out.frozen 0 2 wq.heap.size _ _ rfl rfl
              have q3 := Z5.out.frozen 0 3 wq.heap.size _ _ rfl rfl
              have q4 := Z5.out.frozen 0 4 wq.heap.size _ _ rfl rfl
              have q5 := Z5.out.frozen 0 5 wq.heap.size _ _ rfl rfl
              have q6 := Z5.out.frozen 0 6 wq.heap.size _ _ rfl rfl
              have q7 := Z5.out.frozen 0 7 wq.heap.size _ _ rfl rfl
              have o0 := Z5.out.cell 2 0 (wq.heap.size + 1 + 1) _ _ _ rfl rfl rfl
              have o1 := Z5.out.cell 2 1 (wq.heap.size + 1 + 1) _ _ _ rfl rfl rfl
              have o2 := Z5.out.cell 2 2 (wq.heap.size + 1 + 1) _ _ _ rfl rfl rfl
              have o3 := Z5.out.cell 2 3 (wq.heap.size + 1 + 1) _ _ _ rfl rfl rfl
              have o4 := Z5.out.cell 2 4 (wq.heap.size + 1 + 1) _ _ _ rfl rfl rfl
              have n0 := Z5.out.frozen 2 0 (wq.heap.size + 1 + 1) _ _ rfl rfl
              have n1 := Z5.out.frozen 2 1 (wq.heap.size + 1 + 1) _ _ rfl rfl
              have n2 := Z5.out.frozen 2 2 (wq.heap.size + 1 + 1) _ _ rfl rfl
              have n3 := Z5.out.frozen 2 3 (wq.heap.size + 1 + 1) _ _ rfl rfl
              have n4 := Z5.out.frozen 2 4 (wq.heap.size + 1 + 1) _ _ rfl rfl
              go_wp2_with fail
              go_meet
              case rel => exact ⟨rfl, (((((((((((((b1.out.set ⟨wq.heap.size, 0, none⟩ (by simp; try omega) (.int .i64 gi)).set ⟨wq.heap.size, 1, none⟩ (by simp; try omega) (.int .i64 gz)).set ⟨wq.heap.size, 2, none⟩ (by simp; try omega) (.int .i64 gq)).set ⟨wq.heap.size, 3, none⟩ (by simp; try omega) (.slice go gn gc)).set ⟨wq.heap.size, 4, none⟩ (by simp; try omega) (.int .i64 gv)).set ⟨wq.heap.size, 5, none⟩ (by simp; try omega) (.slice gd gm ge)).set ⟨wq.heap.size, 6, none⟩ (by simp; try omega) (.int .i64 gl)).set ⟨wq.heap.size, 7, none⟩ (by simp; try omega) (.int .i64 gu)).set ⟨wq.heap.size + 1 + 1, 0, none⟩ (by simp; try omega) (.int .i64 tw1)).set ⟨wq.heap.size + 1 + 1, 1, none⟩ (by simp; try omega) (.int .i64 tw2)).set ⟨wq.heap.size + 1 + 1, 2, none⟩ (by simp; try omega) (.int .i64 tw3)).set ⟨wq.heap.size + 1 + 1, 3, none⟩ (by simp; try omega) (.int .i64 tw4)).set ⟨wq.heap.size + 1 + 1, 4, none⟩ (by simp; try omega) (.int .i64 tw5)), (((((((((((((b2.out.set ⟨wq.heap.size, 0, none⟩ (by simp; try omega) (.int .i64 gi)).set ⟨wq.heap.size, 1, none⟩ (by simp; try omega) (.int .i64 gz)).set ⟨wq.heap.size, 2, none⟩ (by simp; try omega) (.int .i64 gq)).set ⟨wq.heap.size, 3, none⟩ (by simp; try omega) (.slice go gn gc)).set ⟨wq.heap.size, 4, none⟩ (by simp; try omega) (.int .i64 gv)).set ⟨wq.heap.size, 5, none⟩ (by simp; try omega) (.slice gd gm ge)).set ⟨wq.heap.size, 6, none⟩ (by simp; try omega) (.int .i64 gl)).set ⟨wq.heap.size, 7, none⟩ (by simp; try omega) (.int .i64 gu)).set ⟨wq.heap.size + 1 + 1, 0, none⟩ (by simp; try omega) (.int .i64 tw1)).set ⟨wq.heap.size + 1 + 1, 1, none⟩ (by simp; try omega) (.int .i64 tw2)).set ⟨wq.heap.size + 1 + 1, 2, none⟩ (by simp; try omega) (.int .i64 tw3)).set ⟨wq.heap.size + 1 + 1, 3, none⟩ (by simp; try omega) (.int .i64 tw4)).set ⟨wq.heap.size + 1 + 1, 4, none⟩ (by simp; try omega) (.int .i64 tw5)), (((((((((((((b3.out.set ⟨wq.heap.size, 0, none⟩ (by simp; try omega) (.int .i64 gi)).set ⟨wq.heap.size, 1, none⟩ (by simp; try omega) (.int .i64 gz)).set ⟨wq.heap.size, 2, none⟩ (by simp; try omega) (.int .i64 gq)).set ⟨wq.heap.size, 3, none⟩ (by simp; try omega) (.slice go gn gc)).set ⟨wq.heap.size, 4, none⟩ (by simp; try omega) (.int .i64 gv)).set ⟨wq.heap.size, 5, none⟩ (by simp; try omega) (.slice gd gm ge)).set ⟨wq.heap.size, 6, none⟩ (by simp; try omega) (.int .i64 gl)).set ⟨wq.heap.size, 7, none⟩ (by simp; try omega) (.int .i64 gu)).set ⟨wq.heap.size + 1 + 1, 0, none⟩ (by simp; try omega) (.int .i64 tw1)).set ⟨wq.heap.size + 1 + 1, 1, none⟩ (by simp; try omega) (.int .i64 tw2)).set ⟨wq.heap.size + 1 + 1, 2, none⟩ (by simp; try omega) (.int .i64 tw3)).set ⟨wq.heap.size + 1 + 1, 3, none⟩ (by simp; try omega) (.int .i64 tw4)).set ⟨wq.heap.size + 1 + 1, 4, none⟩ (by simp; try omega) (.int .i64 tw5)), gi, gz, gq, go, gn, gc, gv, gd, gm, ge, gl, gu, tw1, tw2, tw3, tw4, tw5, (((((((((((((Z5.out.put 0 0 wq.heap.size _ _ (.int .i64 gi) rfl rfl).put 0 1 wq.heap.size _ _ (.int .i64 gz) rfl rfl).put 0 2 wq.heap.size _ _ (.int .i64 gq) rfl rfl).put 0 3 wq.heap.size _ _ (.slice go gn gc) rfl rfl).put 0 4 wq.heap.size _ _ (.int .i64 gv) rfl rfl).put 0 5 wq.heap.size _ _ (.slice gd gm ge) rfl rfl).put 0 6 wq.heap.size _ _ (.int .i64 gl) rfl rfl).put 0 7 wq.heap.size _ _ (.int .i64 gu) rfl rfl).put 2 0 (wq.heap.size + 1 + 1) _ _ (.int .i64 tw1) rfl rfl).put 2 1 (wq.heap.size + 1 + 1) _ _ (.int .i64 tw2) rfl rfl).put 2 2 (wq.heap.size + 1 + 1) _ _ (.int .i64 tw3) rfl rfl).put 2 3 (wq.heap.size + 1 + 1) _ _ (.int .i64 tw4) rfl rfl).put 2 4 (wq.heap.size + 1 + 1) _ _ (.int .i64 tw5) rfl rfl), (((((((((((((T5.out.setD ⟨wq.heap.size, 0, none⟩ (by simp; try omega) (.int .i64 gi)).setD ⟨wq.heap.size, 1, none⟩ (by simp; try omega) (.int .i64 gz)).setD ⟨wq.heap.size, 2, none⟩ (by simp; try omega) (.int .i64 gq)).setD ⟨wq.heap.size, 3, none⟩ (by simp; try omega) (.slice go gn gc)).setD ⟨wq.heap.size, 4, none⟩ (by simp; try omega) (.int .i64 gv)).setD ⟨wq.heap.size, 5, none⟩ (by simp; try omega) (.slice gd gm ge)).setD ⟨wq.heap.size, 6, none⟩ (by simp; try omega) (.int .i64 gl)).setD ⟨wq.heap.size, 7, none⟩ (by simp; try omega) (.int .i64 gu)).setD ⟨wq.heap.size + 1 + 1, 0, none⟩ (by simp; try omega) (.int .i64 tw1)).setD ⟨wq.heap.size + 1 + 1, 1, none⟩ (by simp; try omega) (.int .i64 tw2)).setD ⟨wq.heap.size + 1 + 1, 2, none⟩ (by simp; try omega) (.int .i64 tw3)).setD ⟨wq.heap.size + 1 + 1, 3, none⟩ (by simp; try omega) (.int .i64 tw4)).setD ⟨wq.heap.size + 1 + 1, 4, none⟩ (by simp; try omega) (.int .i64 tw5))⟩
            · have hV' : (V1 == 0) = false := by simpa using hV
              have HE := hide (And.intro hV (HV1.out hV))
              clear hV HTo HSo HV0 HV1 HM
              go_wp2_with fail
              go_meet
              case rel => exact ⟨by rw [HE.out.2], Q1.out, Q2.out, Q3.out, 0, 0, 0, none, 0, 0, 0, none, 0, 0, 0, 0, 0, 0, 0, 0, 0, Z4.out, ⟨fun _ => rfl, fun h => absurd (HE.out.2.symm.trans h) HE.out.1⟩⟩
          case rest =>
            obtain ⟨rfl, c1, c2, c3, gi, gz, gq, go, gn, gc, gv, gd, gm, ge, gl, gu, tw1, tw2, tw3, tw4, tw5, c4, c5⟩ := hcut
            have M1 := hide c1
            have M2 := hide c2
            have M3 := hide c3
            have M4 := hide c4
            have M5 := hide c5
            clear c1 c2 c3 c4 c5 Z4 Q1 Q2 Q3 HTo HV0 HV1
            go_upto_if 71 with fail
            go_cut [21] from 22 (fun s21 wx => ∃ uo un uc, s21 = .slice uo un uc ∧ Blks w wx ([] ++ [.cells #[.int .i64 i, .int .i64 z, .int .i64 s, .slice oa P.length ca, .int .i64 v, .slice od D.length cd, .int .i64 l, .int .i64 u] 61] ++ [.cells #[.int .i64 ti, .int .i64 k, .int .i64 f, .int .i64 t, .int .i64 y, .int .i64 r] 28] ++ [.cells #[.int .i64 v', .slice od' D'.length cd'] 45]) ∧ Blks w1 wx ([] ++ [.cells #[.int .i64 ai, .int .i64 az, .int .i64 aq, .slice ao an ac, .int .i64 av, .slice ad am ae, .int .i64 al, .int .i64 au] 61] ++ [.cells #[.int .i64 p1, .int .i64 p2, .int .i64 p3, .int .i64 p4, .int .i64 p5] 38]) ∧ Blks w2 wx ([] ++ [.cells #[.int .i64 bi, .int .i64 bz, .int .i64 bq, .slice bo bn bc, .int .i64 bv, .slice bd bm be, .int .i64 bl, .int .i64 bu] 61]) ∧ ∃ hi hz hq ho hn hc hv hd hm he hl hu, Blks wq wx ([] ++ [.cells #[.int .i64 gi, .int .i64 gz, .int .i64 gq, .slice go gn gc, .int .i64 gv, .slice gd gm ge, .int .i64 gl, .int .i64 gu] 61] ++ [.cells #[.int .i64 hi, .int .i64 hz, .int .i64 hq, .slice ho hn hc, .int .i64 hv, .slice hd hm he, .int .i64 hl, .int .i64 hu] 61] ++ [.cells #[.int .i64 tw1, .int .i64 tw2, .int .i64 tw3, .int .i64 tw4, .int .i64 tw5] 38]) ∧ TofR wx (wq.heap.size + 1 + 1 + 1) TE gi gz gq go gn gc gv gd gm ge gl gu tw1 tw2 tw3 tw4 tw5 i z (s + 1) PX v od D.length cd (l - 1) u ⟨ti, i, s + 1, m, z⟩ ∧ (SE = 0 → gtV hi hz hq ho hn hc hv hd hm he hl hu = gtV i z s none 0 0 VN ON DN.length CN 9 (m + 100) ∧ (.slice uo un uc : Value) = .slice oa P.length ca) ∧ (SE ≠ 0 → (.slice uo un uc : Value) = .slice none 0 0))
            case first =>
              by_cases hS : SE = 0
              · have hS' : (SE == 0) = true := by simpa using hS
                have HSo' := hide (HSo.out (HM.out hS))
                have HE := hide hS
                clear hS HSo HM
                have x0 := M1.out.cell 0 0 w.heap.size _ _ _ rfl rfl rfl
                have x1 := M1.out.cell 0 1 w.heap.size _ _ _ rfl rfl rfl
                have x2 := M1.out.cell 0 2 w.heap.size _ _ _ rfl rfl rfl
                have x3 := M1.out.cell 0 3 w.heap.size _ _ _ rfl rfl rfl
                have x4 := M1.out.cell 0 4 w.heap.size _ _ _ rfl rfl rfl
                have x5 := M1.out.cell 0 5 w.heap.size _ _ _ rfl rfl rfl
                have x6 := M1.out.cell 0 6 w.heap.size _ _ _ rfl rfl rfl
                have x7 := M1.out.cell 0 7 w.heap.size _ _ _ rfl rfl rfl
                have k0 := M1.out.cell 1 0 (w.heap.size + 1) _ _ _ rfl rfl rfl
                have k1 := M1.out.cell 1 1 (w.heap.size + 1) _ _ _ rfl rfl rfl
                have k2 := M1.out.cell 1 2 (w.heap.size + 1) _ _ _ rfl rfl rfl
                have k3 := M1.out.cell 1 3 (w.heap.size + 1) _ _ _ rfl rfl rfl
                have k4 := M1.out.cell 1 4 (w.heap.size + 1) _ _ _ rfl rfl rfl
                have k5 := M1.out.cell 1 5 (w.heap.size + 1) _ _ _ rfl rfl rfl
                have d0 := M1.out.cell 2 0 (w.heap.size + 1 + 1) _ _ _ rfl rfl rfl
                have d1 := M1.out.cell 2 1 (w.heap.size + 1 + 1) _ _ _ rfl rfl rfl
                go_wp2_with fail
                refine (HSo'.out _).mono ?_
                rintro e w6 ⟨rfl, hb⟩
                have Z6 := hide (M4.out.on hb)
                have b1 := hide (M1.out.on hb)
                have b2 := hide (M2.out.on hb)
                have b3 := hide (M3.out.on hb)
                have T6 := hide (M5.out.below hb)
                clear hb M1 M2 M3 M4 M5 x0 x1 x2 x3 x4 x5 x6 x7 k0 k1 k2 k3 k4 k5 d0 d1
                have r0 := Z6.out.cell 1 0 (wq.heap.size + 1) _ _ _ rfl rfl rfl
                have r1 := Z6.out.cell 1 1 (wq.heap.size + 1) _ _ _ rfl rfl rfl
                have r2 := Z6.out.cell 1 2 (wq.heap.size + 1) _ _ _ rfl rfl rfl
                have r3 := Z6.out.cell 1 3 (wq.heap.size + 1) _ _ _ rfl rfl rfl
                have r4 := Z6.out.cell 1 4 (wq.heap.size + 1) _ _ _ rfl rfl rfl
                have r5 := Z6.out.cell 1 5 (wq.heap.size + 1) _ _ _ rfl rfl rfl
                have r6 := Z6.out.cell 1 6 (wq.heap.size + 1) _ _ _ rfl rfl rfl
                have r7 := Z6.out.cell 1 7 (wq.heap.size + 1) _ _ _ rfl rfl rfl
                have q0 := Z6.out.frozen 1 0 (wq.heap.size + 1) _ _ rfl rfl
                have q1 := Z6.out.frozen 1 1 (wq.heap.size + 1) _ _ rfl rfl
                have q2 := Z6.out.frozen 1 2 (wq.heap.size + 1) _ _ rfl rfl
                have q3 := Z6.out.frozen 1 3 (wq.heap.size + 1) _ _ rfl rfl
                have q4 := Z6.out.frozen 1 4 (wq.heap.size + 1) _ _ rfl rfl
                have q5 := Z6.out.frozen 1 5 (wq.heap.size + 1) _ _ rfl rfl
                have q6 := Z6.out.frozen 1 6 (wq.heap.size + 1) _ _ rfl rfl
                have q7 := Z6.out.frozen 1 7 (wq.heap.size + 1) _ _ rfl rfl
                go_wp2_with fail
                go_meet
                case rel => exact ⟨oa, P.length, ca, rfl, ((((((((b1.out.set ⟨wq.heap.size + 1, 0, none⟩ (by simp; try omega) (.int .i64 i)).set ⟨wq.heap.size + 1, 1, none⟩ (by simp; try omega) (.int .i64 z)).set ⟨wq.heap.size + 1, 2, none⟩ (by simp; try omega) (.int .i64 s)).set ⟨wq.heap.size + 1, 3, none⟩ (by simp; try omega) (.slice none 0 0)).set ⟨wq.heap.size + 1, 4, none⟩ (by simp; try omega) (.int .i64 VN)).set ⟨wq.heap.size + 1, 5, none⟩ (by simp; try omega) (.slice ON DN.length CN)).set ⟨wq.heap.size + 1, 6, none⟩ (by simp; try omega) (.int .i64 9)).set ⟨wq.heap.size + 1, 7, none⟩ (by simp; try omega) (.int .i64 (m + 100))), ((((((((b2.out.set ⟨wq.heap.size + 1, 0, none⟩ (by simp; try omega) (.int .i64 i)).set ⟨wq.heap.size + 1, 1, none⟩ (by simp; try omega) (.int .i64 z)).set ⟨wq.heap.size + 1, 2, none⟩ (by simp; try omega) (.int .i64 s)).set ⟨wq.heap.size + 1, 3, none⟩ (by simp; try omega) (.slice none 0 0)).set ⟨wq.heap.size + 1, 4, none⟩ (by simp; try omega) (.int .i64 VN)).set ⟨wq.heap.size + 1, 5, none⟩ (by simp; try omega) (.slice ON DN.length CN)).set ⟨wq.heap.size + 1, 6, none⟩ (by simp; try omega) (.int .i64 9)).set ⟨wq.heap.size + 1, 7, none⟩ (by simp; try omega) (.int .i64 (m + 100))), ((((((((b3.out.set ⟨wq.heap.size + 1, 0, none⟩ (by simp; try omega) (.int .i64 i)).set ⟨wq.heap.size + 1, 1, none⟩ (by simp; try omega) (.int .i64 z)).set ⟨wq.heap.size + 1, 2, none⟩ (by simp; try omega) (.int .i64 s)).set ⟨wq.heap.size + 1, 3, none⟩ (by simp; try omega) (.slice none 0 0)).set ⟨wq.heap.size + 1, 4, none⟩ (by simp; try omega) (.int .i64 VN)).set ⟨wq.heap.size + 1, 5, none⟩ (by simp; try omega) (.slice ON DN.length CN)).set ⟨wq.heap.size + 1, 6, none⟩ (by simp; try omega) (.int .i64 9)).set ⟨wq.heap.size + 1, 7, none⟩ (by simp; try omega) (.int .i64 (m + 100))), i, z, s, none, 0, 0, VN, ON, DN.length, CN, 9, m + 100, ((((((((Z6.out.put 1 0 (wq.heap.size + 1) _ _ (.int .i64 i) rfl rfl).put 1 1 (wq.heap.size + 1) _ _ (.int .i64 z) rfl rfl).put 1 2 (wq.heap.size + 1) _ _ (.int .i64 s) rfl rfl).put 1 3 (wq.heap.size + 1) _ _ (.slice none 0 0) rfl rfl).put 1 4 (wq.heap.size + 1) _ _ (.int .i64 VN) rfl rfl).put 1 5 (wq.heap.size + 1) _ _ (.slice ON DN.length CN) rfl rfl).put 1 6 (wq.heap.size + 1) _ _ (.int .i64 9) rfl rfl).put 1 7 (wq.heap.size + 1) _ _ (.int .i64 (m + 100)) rfl rfl), ((((((((T6.out.setD ⟨wq.heap.size + 1, 0, none⟩ (by simp; try omega) (.int .i64 i)).setD ⟨wq.heap.size + 1, 1, none⟩ (by simp; try omega) (.int .i64 z)).setD ⟨wq.heap.size + 1, 2, none⟩ (by simp; try omega) (.int .i64 s)).setD ⟨wq.heap.size + 1, 3, none⟩ (by simp; try omega) (.slice none 0 0)).setD ⟨wq.heap.size + 1, 4, none⟩ (by simp; try omega) (.int .i64 VN)).setD ⟨wq.heap.size + 1, 5, none⟩ (by simp; try omega) (.slice ON DN.length CN)).setD ⟨wq.heap.size + 1, 6, none⟩ (by simp; try omega) (.int .i64 9)).setD ⟨wq.heap.size + 1, 7, none⟩ (by simp; try omega) (.int .i64 (m + 100))), fun _ => ⟨rfl, rfl⟩, fun h => absurd HE.out h⟩
              · have hS' : (SE == 0) = false := by simpa using hS
                have HE := hide hS
                clear hS HSo HM
                go_wp2_with fail
                go_meet
                case rel => exact ⟨none, 0, 0, rfl, M1.out, M2.out, M3.out, 0, 0, 0, none, 0, 0, 0, none, 0, 0, 0, 0, M4.out, M5.out, fun h => absurd h HE.out, fun _ => rfl⟩
            case rest =>
              obtain ⟨uo, un, uc, rfl, c1, c2, c3, hi, hz, hq, ho, hn, hc, hv, hd, hm, he, hl, hu, c4, c5, c6, c7⟩ := hcut
              have N1 := hide c1
              have N2 := hide c2
              have N3 := hide c3
              have N4 := hide c4
              have N5 := hide c5
              have C6 := hide c6
              have C7 := hide c7
              clear c1 c2 c3 c4 c5 c6 c7 M1 M2 M3 M4 M5 HSo HM
              have hpw : tp p1 p2 p3 p4 p5 = tp tw1 tw2 tw3 tw4 tw5 := by
                by_cases hE : TE = 0
                · exact (HVa.out.2 hE).2.trans (N5.out.2 hE).2.symm
                · exact (HVa.out.1 hE).2.trans (N5.out.1 hE).symm
              simp only [Value.agg.injEq, Array.mk.injEq, List.cons.injEq, Value.int.injEq, and_true, true_and] at hpw
              obtain ⟨rfl, rfl, rfl, rfl, rfl⟩ := hpw
              go_wp2_with fail
              refine (gateBegun_any _).mono ?_
              rintro e v1 ⟨rfl, hb⟩
              have HG1v1 := hide (N1.out.on hb)
              have HG2v1 := hide (N2.out.on hb)
              have HG3v1 := hide (N3.out.on hb)
              have HG4v1 := hide (N4.out.on hb)
              have N5a := hide (N5.out.below hb)
              clear N5
              clear hb N1 N2 N3 N4
              have lG1_0 := HG1v1.out.lt 0 w.heap.size (by simp) rfl
              have cG1_0_0 := HG1v1.out.cell 0 0 w.heap.size _ _ _ rfl rfl rfl
              have cG1_0_1 := HG1v1.out.cell 0 1 w.heap.size _ _ _ rfl rfl rfl
              have cG1_0_2 := HG1v1.out.cell 0 2 w.heap.size _ _ _ rfl rfl rfl
              have cG1_0_3 := HG1v1.out.cell 0 3 w.heap.size _ _ _ rfl rfl rfl
              have cG1_0_4 := HG1v1.out.cell 0 4 w.heap.size _ _ _ rfl rfl rfl
              have cG1_0_5 := HG1v1.out.cell 0 5 w.heap.size _ _ _ rfl rfl rfl
              have cG1_0_6 := HG1v1.out.cell 0 6 w.heap.size _ _ _ rfl rfl rfl
              have cG1_0_7 := HG1v1.out.cell 0 7 w.heap.size _ _ _ rfl rfl rfl
              have lG1_1 := HG1v1.out.lt 1 (w.heap.size + 1) (by simp) rfl
              have cG1_1_0 := HG1v1.out.cell 1 0 (w.heap.size + 1) _ _ _ rfl rfl rfl
              have cG1_1_1 := HG1v1.out.cell 1 1 (w.heap.size + 1) _ _ _ rfl rfl rfl
              have cG1_1_2 := HG1v1.out.cell 1 2 (w.heap.size + 1) _ _ _ rfl rfl rfl
              have cG1_1_3 := HG1v1.out.cell 1 3 (w.heap.size + 1) _ _ _ rfl rfl rfl
              have cG1_1_4 := HG1v1.out.cell 1 4 (w.heap.size + 1) _ _ _ rfl rfl rfl
              have cG1_1_5 := HG1v1.out.cell 1 5 (w.heap.size + 1) _ _ _ rfl rfl rfl
              have lG1_2 := HG1v1.out.lt 2 (w.heap.size + 1 + 1) (by simp) rfl
              have cG1_2_0 := HG1v1.out.cell 2 0 (w.heap.size + 1 + 1) _ _ _ rfl rfl rfl
              have cG1_2_1 := HG1v1.out.cell 2 1 (w.heap.size + 1 + 1) _ _ _ rfl rfl rfl
              have lG2_0 := HG2v1.out.lt 0 w1.heap.size (by simp) rfl
              have cG2_0_0 := HG2v1.out.cell 0 0 w1.heap.size _ _ _ rfl rfl rfl
              have cG2_0_1 := HG2v1.out.cell 0 1 w1.heap.size _ _ _ rfl rfl rfl
              have cG2_0_2 := HG2v1.out.cell 0 2 w1.heap.size _ _ _ rfl rfl rfl
              have cG2_0_3 := HG2v1.out.cell 0 3 w1.heap.size _ _ _ rfl rfl rfl
              have cG2_0_4 := HG2v1.out.cell 0 4 w1.heap.size _ _ _ rfl rfl rfl
              have cG2_0_5 := HG2v1.out.cell 0 5 w1.heap.size _ _ _ rfl rfl rfl
              have cG2_0_6 := HG2v1.out.cell 0 6 w1.heap.size _ _ _ rfl rfl rfl
              have cG2_0_7 := HG2v1.out.cell 0 7 w1.heap.size _ _ _ rfl rfl rfl
              have lG2_1 := HG2v1.out.lt 1 (w1.heap.size + 1) (by simp) rfl
              have cG2_1_0 := HG2v1.out.cell 1 0 (w1.heap.size + 1) _ _ _ rfl rfl rfl
              have cG2_1_1 := HG2v1.out.cell 1 1 (w1.heap.size + 1) _ _ _ rfl rfl rfl
              have cG2_1_2 := HG2v1.out.cell 1 2 (w1.heap.size + 1) _ _ _ rfl rfl rfl
              have cG2_1_3 := HG2v1.out.cell 1 3 (w1.heap.size + 1) _ _ _ rfl rfl rfl
              have cG2_1_4 := HG2v1.out.cell 1 4 (w1.heap.size + 1) _ _ _ rfl rfl rfl
              have lG3_0 := HG3v1.out.lt 0 w2.heap.size (by simp) rfl
              have cG3_0_0 := HG3v1.out.cell 0 0 w2.heap.size _ _ _ rfl rfl rfl
              have cG3_0_1 := HG3v1.out.cell 0 1 w2.heap.size _ _ _ rfl rfl rfl
              have cG3_0_2 := HG3v1.out.cell 0 2 w2.heap.size _ _ _ rfl rfl rfl
              have cG3_0_3 := HG3v1.out.cell 0 3 w2.heap.size _ _ _ rfl rfl rfl
              have cG3_0_4 := HG3v1.out.cell 0 4 w2.heap.size _ _ _ rfl rfl rfl
              have cG3_0_5 := HG3v1.out.cell 0 5 w2.heap.size _ _ _ rfl rfl rfl
              have cG3_0_6 := HG3v1.out.cell 0 6 w2.heap.size _ _ _ rfl rfl rfl
              have cG3_0_7 := HG3v1.out.cell 0 7 w2.heap.size _ _ _ rfl rfl rfl
              have lG4_0 := HG4v1.out.lt 0 wq.heap.size (by simp) rfl
              have cG4_0_0 := HG4v1.out.cell 0 0 wq.heap.size _ _ _ rfl rfl rfl
              have cG4_0_1 := HG4v1.out.cell 0 1 wq.heap.size _ _ _ rfl rfl rfl
              have cG4_0_2 := HG4v1.out.cell 0 2 wq.heap.size _ _ _ rfl rfl rfl
              have cG4_0_3 := HG4v1.out.cell 0 3 wq.heap.size _ _ _ rfl rfl rfl
              have cG4_0_4 := HG4v1.out.cell 0 4 wq.heap.size _ _ _ rfl rfl rfl
              have cG4_0_5 := HG4v1.out.cell 0 5 wq.heap.size _ _ _ rfl rfl rfl
              have cG4_0_6 := HG4v1.out.cell 0 6 wq.heap.size _ _ _ rfl rfl rfl
              have cG4_0_7 := HG4v1.out.cell 0 7 wq.heap.size _ _ _ rfl rfl rfl
              have lG4_1 := HG4v1.out.lt 1 (wq.heap.size + 1) (by simp) rfl
              have cG4_1_0 := HG4v1.out.cell 1 0 (wq.heap.size + 1) _ _ _ rfl rfl rfl
              have cG4_1_1 := HG4v1.out.cell 1 1 (wq.heap.size + 1) _ _ _ rfl rfl rfl
              have cG4_1_2 := HG4v1.out.cell 1 2 (wq.heap.size + 1) _ _ _ rfl rfl rfl
              have cG4_1_3 := HG4v1.out.cell 1 3 (wq.heap.size + 1) _ _ _ rfl rfl rfl
              have cG4_1_4 := HG4v1.out.cell 1 4 (wq.heap.size + 1) _ _ _ rfl rfl rfl
              have cG4_1_5 := HG4v1.out.cell 1 5 (wq.heap.size + 1) _ _ _ rfl rfl rfl
              have cG4_1_6 := HG4v1.out.cell 1 6 (wq.heap.size + 1) _ _ _ rfl rfl rfl
              have cG4_1_7 := HG4v1.out.cell 1 7 (wq.heap.size + 1) _ _ _ rfl rfl rfl
              have lG4_2 := HG4v1.out.lt 2 (wq.heap.size + 1 + 1) (by simp) rfl
              have cG4_2_0 := HG4v1.out.cell 2 0 (wq.heap.size + 1 + 1) _ _ _ rfl rfl rfl
              have cG4_2_1 := HG4v1.out.cell 2 1 (wq.heap.size + 1 + 1) _ _ _ rfl rfl rfl
              have cG4_2_2 := HG4v1.out.cell 2 2 (wq.heap.size + 1 + 1) _ _ _ rfl rfl rfl
              have cG4_2_3 := HG4v1.out.cell 2 3 (wq.heap.size + 1 + 1) _ _ _ rfl rfl rfl
              have cG4_2_4 := HG4v1.out.cell 2 4 (wq.heap.size + 1 + 1) _ _ _ rfl rfl rfl
              go_wp2_with fail
              refine (HGck.out _ (HPa.out.below HG1v1.out.2.2) (HDa.out.below HG1v1.out.2.2)).mono ?_
              rintro e v2 ⟨rfl, hb⟩
              have HG1v2 := hide (HG1v1.out.on hb)
              have HG2v2 := hide (HG2v1.out.on hb)
              have HG3v2 := hide (HG3v1.out.on hb)
              have HG4v2 := hide (HG4v1.out.on hb)
              have N5b := hide (N5a.out.below hb)
              clear N5a
              clear lG1_0 cG1_0_0 cG1_0_1 cG1_0_2 cG1_0_3 cG1_0_4 cG1_0_5 cG1_0_6 cG1_0_7 lG1_1 cG1_1_0 cG1_1_1 cG1_1_2 cG1_1_3 cG1_1_4 cG1_1_5 lG1_2 cG1_2_0 cG1_2_1 lG2_0 cG2_0_0 cG2_0_1 cG2_0_2 cG2_0_3 cG2_0_4 cG2_0_5 cG2_0_6 cG2_0_7 lG2_1 cG2_1_0 cG2_1_1 cG2_1_2 cG2_1_3 cG2_1_4 lG3_0 cG3_0_0 cG3_0_1 cG3_0_2 cG3_0_3 cG3_0_4 cG3_0_5 cG3_0_6 cG3_0_7 lG4_0 cG4_0_0 cG4_0_1 cG4_0_2 cG4_0_3 cG4_0_4 cG4_0_5 cG4_0_6 cG4_0_7 lG4_1 cG4_1_0 cG4_1_1 cG4_1_2 cG4_1_3 cG4_1_4 cG4_1_5 cG4_1_6 cG4_1_7 lG4_2 cG4_2_0 cG4_2_1 cG4_2_2 cG4_2_3 cG4_2_4
              clear hb HG1v1 HG2v1 HG3v1 HG4v1
              have lG1_0 := HG1v2.out.lt 0 w.heap.size (by simp) rfl
              have cG1_0_0 := HG1v2.out.cell 0 0 w.heap.size _ _ _ rfl rfl rfl
              have cG1_0_1 := HG1v2.out.cell 0 1 w.heap.size _ _ _ rfl rfl rfl
              have cG1_0_2 := HG1v2.out.cell 0 2 w.heap.size _ _ _ rfl rfl rfl
              have cG1_0_3 := HG1v2.out.cell 0 3 w.heap.size _ _ _ rfl rfl rfl
              have cG1_0_4 := HG1v2.out.cell 0 4 w.heap.size _ _ _ rfl rfl rfl
              have cG1_0_5 := HG1v2.out.cell 0 5 w.heap.size _ _ _ rfl rfl rfl
              have cG1_0_6 := HG1v2.out.cell 0 6 w.heap.size _ _ _ rfl rfl rfl
              have cG1_0_7 := HG1v2.out.cell 0 7 w.heap.size _ _ _ rfl rfl rfl
              have lG1_1 := HG1v2.out.lt 1 (w.heap.size + 1) (by simp) rfl
              have cG1_1_0 := HG1v2.out.cell 1 0 (w.heap.size + 1) _ _ _ rfl rfl rfl
              have cG1_1_1 := HG1v2.out.cell 1 1 (w.heap.size + 1) _ _ _ rfl rfl rfl
              have cG1_1_2 := HG1v2.out.cell 1 2 (w.heap.size + 1) _ _ _ rfl rfl rfl
              have cG1_1_3 := HG1v2.out.cell 1 3 (w.heap.size + 1) _ _ _ rfl rfl rfl
              have cG1_1_4 := HG1v2.out.cell 1 4 (w.heap.size + 1) _ _ _ rfl rfl rfl
              have cG1_1_5 := HG1v2.out.cell 1 5 (w.heap.size + 1) _ _ _ rfl rfl rfl
              have lG1_2 := HG1v2.out.lt 2 (w.heap.size + 1 + 1) (by simp) rfl
              have cG1_2_0 := HG1v2.out.cell 2 0 (w.heap.size + 1 + 1) _ _ _ rfl rfl rfl
              have cG1_2_1 := HG1v2.out.cell 2 1 (w.heap.size + 1 + 1) _ _ _ rfl rfl rfl
              have lG2_0 := HG2v2.out.lt 0 w1.heap.size (by simp) rfl
              have cG2_0_0 := HG2v2.out.cell 0 0 w1.heap.size _ _ _ rfl rfl rfl
              have cG2_0_1 := HG2v2.out.cell 0 1 w1.heap.size _ _ _ rfl rfl rfl
              have cG2_0_2 := HG2v2.out.cell 0 2 w1.heap.size _ _ _ rfl rfl rfl
              have cG2_0_3 := HG2v2.out.cell 0 3 w1.heap.size _ _ _ rfl rfl rfl
              have cG2_0_4 := HG2v2.out.cell 0 4 w1.heap.size _ _ _ rfl rfl rfl
              have cG2_0_5 := HG2v2.out.cell 0 5 w1.heap.size _ _ _ rfl rfl rfl
              have cG2_0_6 := HG2v2.out.cell 0 6 w1.heap.size _ _ _ rfl rfl rfl
              have cG2_0_7 := HG2v2.out.cell 0 7 w1.heap.size _ _ _ rfl rfl rfl
              have lG2_1 := HG2v2.out.lt 1 (w1.heap.size + 1) (by simp) rfl
              have cG2_1_0 := HG2v2.out.cell 1 0 (w1.heap.size + 1) _ _ _ rfl rfl rfl
              have cG2_1_1 := HG2v2.out.cell 1 1 (w1.heap.size + 1) _ _ _ rfl rfl rfl
              have cG2_1_2 := HG2v2.out.cell 1 2 (w1.heap.size + 1) _ _ _ rfl rfl rfl
              have cG2_1_3 := HG2v2.out.cell 1 3 (w1.heap.size + 1) _ _ _ rfl rfl rfl
              have cG2_1_4 := HG2v2.out.cell 1 4 (w1.heap.size + 1) _ _ _ rfl rfl rfl
              have lG3_0 := HG3v2.out.lt 0 w2.heap.size (by simp) rfl
              have cG3_0_0 := HG3v2.out.cell 0 0 w2.heap.size _ _ _ rfl rfl rfl
              have cG3_0_1 := HG3v2.out.cell 0 1 w2.heap.size _ _ _ rfl rfl rfl
              have cG3_0_2 := HG3v2.out.cell 0 2 w2.heap.size _ _ _ rfl rfl rfl
              have cG3_0_3 := HG3v2.out.cell 0 3 w2.heap.size _ _ _ rfl rfl rfl
              have cG3_0_4 := HG3v2.out.cell 0 4 w2.heap.size _ _ _ rfl rfl rfl
              have cG3_0_5 := HG3v2.out.cell 0 5 w2.heap.size _ _ _ rfl rfl rfl
              have cG3_0_6 := HG3v2.out.cell 0 6 w2.heap.size _ _ _ rfl rfl rfl
              have cG3_0_7 := HG3v2.out.cell 0 7 w2.heap.size _ _ _ rfl rfl rfl
              have lG4_0 := HG4v2.out.lt 0 wq.heap.size (by simp) rfl
              have cG4_0_0 := HG4v2.out.cell 0 0 wq.heap.size _ _ _ rfl rfl rfl
              have cG4_0_1 := HG4v2.out.cell 0 1 wq.heap.size _ _ _ rfl rfl rfl
              have cG4_0_2 := HG4v2.out.cell 0 2 wq.heap.size _ _ _ rfl rfl rfl
              have cG4_0_3 := HG4v2.out.cell 0 3 wq.heap.size _ _ _ rfl rfl rfl
              have cG4_0_4 := HG4v2.out.cell 0 4 wq.heap.size _ _ _ rfl rfl rfl
              have cG4_0_5 := HG4v2.out.cell 0 5 wq.heap.size _ _ _ rfl rfl rfl
              have cG4_0_6 := HG4v2.out.cell 0 6 wq.heap.size _ _ _ rfl rfl rfl
              have cG4_0_7 := HG4v2.out.cell 0 7 wq.heap.size _ _ _ rfl rfl rfl
              have lG4_1 := HG4v2.out.lt 1 (wq.heap.size + 1) (by simp) rfl
              have cG4_1_0 := HG4v2.out.cell 1 0 (wq.heap.size + 1) _ _ _ rfl rfl rfl
              have cG4_1_1 := HG4v2.out.cell 1 1 (wq.heap.size + 1) _ _ _ rfl rfl rfl
              have cG4_1_2 := HG4v2.out.cell 1 2 (wq.heap.size + 1) _ _ _ rfl rfl rfl
              have cG4_1_3 := HG4v2.out.cell 1 3 (wq.heap.size + 1) _ _ _ rfl rfl rfl
              have cG4_1_4 := HG4v2.out.cell 1 4 (wq.heap.size + 1) _ _ _ rfl rfl rfl
              have cG4_1_5 := HG4v2.out.cell 1 5 (wq.heap.size + 1) _ _ _ rfl rfl rfl
              have cG4_1_6 := HG4v2.out.cell 1 6 (wq.heap.size + 1) _ _ _ rfl rfl rfl
              have cG4_1_7 := HG4v2.out.cell 1 7 (wq.heap.size + 1) _ _ _ rfl rfl rfl
              have lG4_2 := HG4v2.out.lt 2 (wq.heap.size + 1 + 1) (by simp) rfl
              have cG4_2_0 := HG4v2.out.cell 2 0 (wq.heap.size + 1 + 1) _ _ _ rfl rfl rfl
              have cG4_2_1 := HG4v2.out.cell 2 1 (wq.heap.size + 1 + 1) _ _ _ rfl rfl rfl
              have cG4_2_2 := HG4v2.out.cell 2 2 (wq.heap.size + 1 + 1) _ _ _ rfl rfl rfl
              have cG4_2_3 := HG4v2.out.cell 2 3 (wq.heap.size + 1 + 1) _ _ _ rfl rfl rfl
              have cG4_2_4 := HG4v2.out.cell 2 4 (wq.heap.size + 1 + 1) _ _ _ rfl rfl rfl
              go_wp2_with fail
              have hA : Calls Try.prog 35 #[gtV ai az aq ao an ac av ad am ae al au, .int .i64 TE, .int .i64 TE, gtV gi gz gq go gn gc gv gd gm ge gl gu] v2 fun e w' => e = .returned (.bool true) ∧ Below v2.heap.size v2 w' :=
                gateIsR TE (fun h => (HVa.out.1 h).1) (fun h => ((HVa.out.below HG2v2.out.2.2).2 h).1) (fun h => N5b.out.gate ⟨od, cd, rfl, HDa.out.below HG1v2.out.2.2, hD3, hD4⟩ h) (fun h => (HLn.out.1 h).1) (fun h => (HLn.out.1 h).2)
              refine (hA).mono ?_
              rintro e v3 ⟨rfl, hb⟩
              have HG1v3 := hide (HG1v2.out.on hb)
              have HG2v3 := hide (HG2v2.out.on hb)
              have HG3v3 := hide (HG3v2.out.on hb)
              have HG4v3 := hide (HG4v2.out.on hb)
              have N5c := hide (N5b.out.below hb)
              clear N5b
              clear hA
              clear lG1_0 cG1_0_0 cG1_0_1 cG1_0_2 cG1_0_3 cG1_0_4 cG1_0_5 cG1_0_6 cG1_0_7 lG1_1 cG1_1_0 cG1_1_1 cG1_1_2 cG1_1_3 cG1_1_4 cG1_1_5 lG1_2 cG1_2_0 cG1_2_1 lG2_0 cG2_0_0 cG2_0_1 cG2_0_2 cG2_0_3 cG2_0_4 cG2_0_5 cG2_0_6 cG2_0_7 lG2_1 cG2_1_0 cG2_1_1 cG2_1_2 cG2_1_3 cG2_1_4 lG3_0 cG3_0_0 cG3_0_1 cG3_0_2 cG3_0_3 cG3_0_4 cG3_0_5 cG3_0_6 cG3_0_7 lG4_0 cG4_0_0 cG4_0_1 cG4_0_2 cG4_0_3 cG4_0_4 cG4_0_5 cG4_0_6 cG4_0_7 lG4_1 cG4_1_0 cG4_1_1 cG4_1_2 cG4_1_3 cG4_1_4 cG4_1_5 cG4_1_6 cG4_1_7 lG4_2 cG4_2_0 cG4_2_1 cG4_2_2 cG4_2_3 cG4_2_4
              clear hb HG1v2 HG2v2 HG3v2 HG4v2
              have lG1_0 := HG1v3.out.lt 0 w.heap.size (by simp) rfl
              have cG1_0_0 := HG1v3.out.cell 0 0 w.heap.size _ _ _ rfl rfl rfl
              have cG1_0_1 := HG1v3.out.cell 0 1 w.heap.size _ _ _ rfl rfl rfl
              have cG1_0_2 := HG1v3.out.cell 0 2 w.heap.size _ _ _ rfl rfl rfl
              have cG1_0_3 := HG1v3.out.cell 0 3 w.heap.size _ _ _ rfl rfl rfl
              have cG1_0_4 := HG1v3.out.cell 0 4 w.heap.size _ _ _ rfl rfl rfl
              have cG1_0_5 := HG1v3.out.cell 0 5 w.heap.size _ _ _ rfl rfl rfl
              have cG1_0_6 := HG1v3.out.cell 0 6 w.heap.size _ _ _ rfl rfl rfl
              have cG1_0_7 := HG1v3.out.cell 0 7 w.heap.size _ _ _ rfl rfl rfl
              have lG1_1 := HG1v3.out.lt 1 (w.heap.size + 1) (by simp) rfl
              have cG1_1_0 := HG1v3.out.cell 1 0 (w.heap.size + 1) _ _ _ rfl rfl rfl
              have cG1_1_1 := HG1v3.out.cell 1 1 (w.heap.size + 1) _ _ _ rfl rfl rfl
              have cG1_1_2 := HG1v3.out.cell 1 2 (w.heap.size + 1) _ _ _ rfl rfl rfl
              have cG1_1_3 := HG1v3.out.cell 1 3 (w.heap.size + 1) _ _ _ rfl rfl rfl
              have cG1_1_4 := HG1v3.out.cell 1 4 (w.heap.size + 1) _ _ _ rfl rfl rfl
              have cG1_1_5 := HG1v3.out.cell 1 5 (w.heap.size + 1) _ _ _ rfl rfl rfl
              have lG1_2 := HG1v3.out.lt 2 (w.heap.size + 1 + 1) (by simp) rfl
              have cG1_2_0 := HG1v3.out.cell 2 0 (w.heap.size + 1 + 1) _ _ _ rfl rfl rfl
              have cG1_2_1 := HG1v3.out.cell 2 1 (w.heap.size + 1 + 1) _ _ _ rfl rfl rfl
              have lG2_0 := HG2v3.out.lt 0 w1.heap.size (by simp) rfl
              have cG2_0_0 := HG2v3.out.cell 0 0 w1.heap.size _ _ _ rfl rfl rfl
              have cG2_0_1 := HG2v3.out.cell 0 1 w1.heap.size _ _ _ rfl rfl rfl
              have cG2_0_2 := HG2v3.out.cell 0 2 w1.heap.size _ _ _ rfl rfl rfl
              have cG2_0_3 := HG2v3.out.cell 0 3 w1.heap.size _ _ _ rfl rfl rfl
              have cG2_0_4 := HG2v3.out.cell 0 4 w1.heap.size _ _ _ rfl rfl rfl
              have cG2_0_5 := HG2v3.out.cell 0 5 w1.heap.size _ _ _ rfl rfl rfl
              have cG2_0_6 := HG2v3.out.cell 0 6 w1.heap.size _ _ _ rfl rfl rfl
              have cG2_0_7 := HG2v3.out.cell 0 7 w1.heap.size _ _ _ rfl rfl rfl
              have lG2_1 := HG2v3.out.lt 1 (w1.heap.size + 1) (by simp) rfl
              have cG2_1_0 := HG2v3.out.cell 1 0 (w1.heap.size + 1) _ _ _ rfl rfl rfl
              have cG2_1_1 := HG2v3.out.cell 1 1 (w1.heap.size + 1) _ _ _ rfl rfl rfl
              have cG2_1_2 := HG2v3.out.cell 1 2 (w1.heap.size + 1) _ _ _ rfl rfl rfl
              have cG2_1_3 := HG2v3.out.cell 1 3 (w1.heap.size + 1) _ _ _ rfl rfl rfl
              have cG2_1_4 := HG2v3.out.cell 1 4 (w1.heap.size + 1) _ _ _ rfl rfl rfl
              have lG3_0 := HG3v3.out.lt 0 w2.heap.size (by simp) rfl
              have cG3_0_0 := HG3v3.out.cell 0 0 w2.heap.size _ _ _ rfl rfl rfl
              have cG3_0_1 := HG3v3.out.cell 0 1 w2.heap.size _ _ _ rfl rfl rfl
              have cG3_0_2 := HG3v3.out.cell 0 2 w2.heap.size _ _ _ rfl rfl rfl
              have cG3_0_3 := HG3v3.out.cell 0 3 w2.heap.size _ _ _ rfl rfl rfl
              have cG3_0_4 := HG3v3.out.cell 0 4 w2.heap.size _ _ _ rfl rfl rfl
              have cG3_0_5 := HG3v3.out.cell 0 5 w2.heap.size _ _ _ rfl rfl rfl
              have cG3_0_6 := HG3v3.out.cell 0 6 w2.heap.size _ _ _ rfl rfl rfl
              have cG3_0_7 := HG3v3.out.cell 0 7 w2.heap.size _ _ _ rfl rfl rfl
              have lG4_0 := HG4v3.out.lt 0 wq.heap.size (by simp) rfl
              have cG4_0_0 := HG4v3.out.cell 0 0 wq.heap.size _ _ _ rfl rfl rfl
              have cG4_0_1 := HG4v3.out.cell 0 1 wq.heap.size _ _ _ rfl rfl rfl
              have cG4_0_2 := HG4v3.out.cell 0 2 wq.heap.size _ _ _ rfl rfl rfl
              have cG4_0_3 := HG4v3.out.cell 0 3 wq.heap.size _ _ _ rfl rfl rfl
              have cG4_0_4 := HG4v3.out.cell 0 4 wq.heap.size _ _ _ rfl rfl rfl
              have cG4_0_5 := HG4v3.out.cell 0 5 wq.heap.size _ _ _ rfl rfl rfl
              have cG4_0_6 := HG4v3.out.cell 0 6 wq.heap.size _ _ _ rfl rfl rfl
              have cG4_0_7 := HG4v3.out.cell 0 7 wq.heap.size _ _ _ rfl rfl rfl
              have lG4_1 := HG4v3.out.lt 1 (wq.heap.size + 1) (by simp) rfl
              have cG4_1_0 := HG4v3.out.cell 1 0 (wq.heap.size + 1) _ _ _ rfl rfl rfl
              have cG4_1_1 := HG4v3.out.cell 1 1 (wq.heap.size + 1) _ _ _ rfl rfl rfl
              have cG4_1_2 := HG4v3.out.cell 1 2 (wq.heap.size + 1) _ _ _ rfl rfl rfl
              have cG4_1_3 := HG4v3.out.cell 1 3 (wq.heap.size + 1) _ _ _ rfl rfl rfl
              have cG4_1_4 := HG4v3.out.cell 1 4 (wq.heap.size + 1) _ _ _ rfl rfl rfl
              have cG4_1_5 := HG4v3.out.cell 1 5 (wq.heap.size + 1) _ _ _ rfl rfl rfl
              have cG4_1_6 := HG4v3.out.cell 1 6 (wq.heap.size + 1) _ _ _ rfl rfl rfl
              have cG4_1_7 := HG4v3.out.cell 1 7 (wq.heap.size + 1) _ _ _ rfl rfl rfl
              have lG4_2 := HG4v3.out.lt 2 (wq.heap.size + 1 + 1) (by simp) rfl
              have cG4_2_0 := HG4v3.out.cell 2 0 (wq.heap.size + 1 + 1) _ _ _ rfl rfl rfl
              have cG4_2_1 := HG4v3.out.cell 2 1 (wq.heap.size + 1 + 1) _ _ _ rfl rfl rfl
              have cG4_2_2 := HG4v3.out.cell 2 2 (wq.heap.size + 1 + 1) _ _ _ rfl rfl rfl
              have cG4_2_3 := HG4v3.out.cell 2 3 (wq.heap.size + 1 + 1) _ _ _ rfl rfl rfl
              have cG4_2_4 := HG4v3.out.cell 2 4 (wq.heap.size + 1 + 1) _ _ _ rfl rfl rfl
              go_wp2_with fail
              have hA : Calls Try.prog 35 #[gtV bi bz bq bo bn bc bv bd bm be bl bu, .int .i64 SE, .int .i64 SE, gtV hi hz hq ho hn hc hv hd hm he hl hu] v3 fun e w' => e = .returned (.bool true) ∧ Below v3.heap.size v3 w' :=
                gateIsR SE (fun h => (HVb.out.1 h).1) (fun h => ((HVb.out.below HG3v3.out.2.2).2 h).1) (fun h => by rw [(C6.out h).1]; exact gateV_of (tapsV_nilG _) (HDN.out _ HG1v3.out.2.2)) (fun _ => by simp) (fun h => (HLn.out.2 h).2)
              refine (hA).mono ?_
              rintro e v4 ⟨rfl, hb⟩
              have HG1v4 := hide (HG1v3.out.on hb)
              have HG2v4 := hide (HG2v3.out.on hb)
              have HG3v4 := hide (HG3v3.out.on hb)
              have HG4v4 := hide (HG4v3.out.on hb)
              clear hA N5c
              clear lG1_0 cG1_0_0 cG1_0_1 cG1_0_2 cG1_0_3 cG1_0_4 cG1_0_5 cG1_0_6 cG1_0_7 lG1_1 cG1_1_0 cG1_1_1 cG1_1_2 cG1_1_3 cG1_1_4 cG1_1_5 lG1_2 cG1_2_0 cG1_2_1 lG2_0 cG2_0_0 cG2_0_1 cG2_0_2 cG2_0_3 cG2_0_4 cG2_0_5 cG2_0_6 cG2_0_7 lG2_1 cG2_1_0 cG2_1_1 cG2_1_2 cG2_1_3 cG2_1_4 lG3_0 cG3_0_0 cG3_0_1 cG3_0_2 cG3_0_3 cG3_0_4 cG3_0_5 cG3_0_6 cG3_0_7 lG4_0 cG4_0_0 cG4_0_1 cG4_0_2 cG4_0_3 cG4_0_4 cG4_0_5 cG4_0_6 cG4_0_7 lG4_1 cG4_1_0 cG4_1_1 cG4_1_2 cG4_1_3 cG4_1_4 cG4_1_5 cG4_1_6 cG4_1_7 lG4_2 cG4_2_0 cG4_2_1 cG4_2_2 cG4_2_3 cG4_2_4
              clear hb HG1v3 HG2v3 HG3v3 HG4v3
              have lG1_0 := HG1v4.out.lt 0 w.heap.size (by simp) rfl
              have cG1_0_0 := HG1v4.out.cell 0 0 w.heap.size _ _ _ rfl rfl rfl
              have cG1_0_1 := HG1v4.out.cell 0 1 w.heap.size _ _ _ rfl rfl rfl
              have cG1_0_2 := HG1v4.out.cell 0 2 w.heap.size _ _ _ rfl rfl rfl
              have cG1_0_3 := HG1v4.out.cell 0 3 w.heap.size _ _ _ rfl rfl rfl
              have cG1_0_4 := HG1v4.out.cell 0 4 w.heap.size _ _ _ rfl rfl rfl
              have cG1_0_5 := HG1v4.out.cell 0 5 w.heap.size _ _ _ rfl rfl rfl
              have cG1_0_6 := HG1v4.out.cell 0 6 w.heap.size _ _ _ rfl rfl rfl
              have cG1_0_7 := HG1v4.out.cell 0 7 w.heap.size _ _ _ rfl rfl rfl
              have lG1_1 := HG1v4.out.lt 1 (w.heap.size + 1) (by simp) rfl
              have cG1_1_0 := HG1v4.out.cell 1 0 (w.heap.size + 1) _ _ _ rfl rfl rfl
              have cG1_1_1 := HG1v4.out.cell 1 1 (w.heap.size + 1) _ _ _ rfl rfl rfl
              have cG1_1_2 := HG1v4.out.cell 1 2 (w.heap.size + 1) _ _ _ rfl rfl rfl
              have cG1_1_3 := HG1v4.out.cell 1 3 (w.heap.size + 1) _ _ _ rfl rfl rfl
              have cG1_1_4 := HG1v4.out.cell 1 4 (w.heap.size + 1) _ _ _ rfl rfl rfl
              have cG1_1_5 := HG1v4.out.cell 1 5 (w.heap.size + 1) _ _ _ rfl rfl rfl
              have lG1_2 := HG1v4.out.lt 2 (w.heap.size + 1 + 1) (by simp) rfl
              have cG1_2_0 := HG1v4.out.cell 2 0 (w.heap.size + 1 + 1) _ _ _ rfl rfl rfl
              have cG1_2_1 := HG1v4.out.cell 2 1 (w.heap.size + 1 + 1) _ _ _ rfl rfl rfl
              have lG2_0 := HG2v4.out.lt 0 w1.heap.size (by simp) rfl
              have cG2_0_0 := HG2v4.out.cell 0 0 w1.heap.size _ _ _ rfl rfl rfl
              have cG2_0_1 := HG2v4.out.cell 0 1 w1.heap.size _ _ _ rfl rfl rfl
              have cG2_0_2 := HG2v4.out.cell 0 2 w1.heap.size _ _ _ rfl rfl rfl
              have cG2_0_3 := HG2v4.out.cell 0 3 w1.heap.size _ _ _ rfl rfl rfl
              have cG2_0_4 := HG2v4.out.cell 0 4 w1.heap.size _ _ _ rfl rfl rfl
              have cG2_0_5 := HG2v4.out.cell 0 5 w1.heap.size _ _ _ rfl rfl rfl
              have cG2_0_6 := HG2v4.out.cell 0 6 w1.heap.size _ _ _ rfl rfl rfl
              have cG2_0_7 := HG2v4.out.cell 0 7 w1.heap.size _ _ _ rfl rfl rfl
              have lG2_1 := HG2v4.out.lt 1 (w1.heap.size + 1) (by simp) rfl
              have cG2_1_0 := HG2v4.out.cell 1 0 (w1.heap.size + 1) _ _ _ rfl rfl rfl
              have cG2_1_1 := HG2v4.out.cell 1 1 (w1.heap.size + 1) _ _ _ rfl rfl rfl
              have cG2_1_2 := HG2v4.out.cell 1 2 (w1.heap.size + 1) _ _ _ rfl rfl rfl
              have cG2_1_3 := HG2v4.out.cell 1 3 (w1.heap.size + 1) _ _ _ rfl rfl rfl
              have cG2_1_4 := HG2v4.out.cell 1 4 (w1.heap.size + 1) _ _ _ rfl rfl rfl
              have lG3_0 := HG3v4.out.lt 0 w2.heap.size (by simp) rfl
              have cG3_0_0 := HG3v4.out.cell 0 0 w2.heap.size _ _ _ rfl rfl rfl
              have cG3_0_1 := HG3v4.out.cell 0 1 w2.heap.size _ _ _ rfl rfl rfl
              have cG3_0_2 := HG3v4.out.cell 0 2 w2.heap.size _ _ _ rfl rfl rfl
              have cG3_0_3 := HG3v4.out.cell 0 3 w2.heap.size _ _ _ rfl rfl rfl
              have cG3_0_4 := HG3v4.out.cell 0 4 w2.heap.size _ _ _ rfl rfl rfl
              have cG3_0_5 := HG3v4.out.cell 0 5 w2.heap.size _ _ _ rfl rfl rfl
              have cG3_0_6 := HG3v4.out.cell 0 6 w2.heap.size _ _ _ rfl rfl rfl
              have cG3_0_7 := HG3v4.out.cell 0 7 w2.heap.size _ _ _ rfl rfl rfl
              have lG4_0 := HG4v4.out.lt 0 wq.heap.size (by simp) rfl
              have cG4_0_0 := HG4v4.out.cell 0 0 wq.heap.size _ _ _ rfl rfl rfl
              have cG4_0_1 := HG4v4.out.cell 0 1 wq.heap.size _ _ _ rfl rfl rfl
              have cG4_0_2 := HG4v4.out.cell 0 2 wq.heap.size _ _ _ rfl rfl rfl
              have cG4_0_3 := HG4v4.out.cell 0 3 wq.heap.size _ _ _ rfl rfl rfl
              have cG4_0_4 := HG4v4.out.cell 0 4 wq.heap.size _ _ _ rfl rfl rfl
              have cG4_0_5 := HG4v4.out.cell 0 5 wq.heap.size _ _ _ rfl rfl rfl
              have cG4_0_6 := HG4v4.out.cell 0 6 wq.heap.size _ _ _ rfl rfl rfl
              have cG4_0_7 := HG4v4.out.cell 0 7 wq.heap.size _ _ _ rfl rfl rfl
              have lG4_1 := HG4v4.out.lt 1 (wq.heap.size + 1) (by simp) rfl
              have cG4_1_0 := HG4v4.out.cell 1 0 (wq.heap.size + 1) _ _ _ rfl rfl rfl
              have cG4_1_1 := HG4v4.out.cell 1 1 (wq.heap.size + 1) _ _ _ rfl rfl rfl
              have cG4_1_2 := HG4v4.out.cell 1 2 (wq.heap.size + 1) _ _ _ rfl rfl rfl
              have cG4_1_3 := HG4v4.out.cell 1 3 (wq.heap.size + 1) _ _ _ rfl rfl rfl
              have cG4_1_4 := HG4v4.out.cell 1 4 (wq.heap.size + 1) _ _ _ rfl rfl rfl
              have cG4_1_5 := HG4v4.out.cell 1 5 (wq.heap.size + 1) _ _ _ rfl rfl rfl
              have cG4_1_6 := HG4v4.out.cell 1 6 (wq.heap.size + 1) _ _ _ rfl rfl rfl
              have cG4_1_7 := HG4v4.out.cell 1 7 (wq.heap.size + 1) _ _ _ rfl rfl rfl
              have lG4_2 := HG4v4.out.lt 2 (wq.heap.size + 1 + 1) (by simp) rfl
              have cG4_2_0 := HG4v4.out.cell 2 0 (wq.heap.size + 1 + 1) _ _ _ rfl rfl rfl
              have cG4_2_1 := HG4v4.out.cell 2 1 (wq.heap.size + 1 + 1) _ _ _ rfl rfl rfl
              have cG4_2_2 := HG4v4.out.cell 2 2 (wq.heap.size + 1 + 1) _ _ _ rfl rfl rfl
              have cG4_2_3 := HG4v4.out.cell 2 3 (wq.heap.size + 1 + 1) _ _ _ rfl rfl rfl
              have cG4_2_4 := HG4v4.out.cell 2 4 (wq.heap.size + 1 + 1) _ _ _ rfl rfl rfl
              go_wp2_with fail
              have hA : Calls Try.prog 12 #[.slice lo ln lc, .slice uo un uc] v4 fun e w' => e = .returned (.bool true) ∧ Below v4.heap.size v4 w' := by
                by_cases hS : SE = 0
                · obtain ⟨o, c, e1, hT, -⟩ := ((HVb.out.below HG3v4.out.2.2).2 hS).2
                  rw [e1, (C6.out hS).2]
                  exact sameTaps_same P o oa c ca v4 hT (HPa.out.below HG1v4.out.2.2) (HLn.out.2 hS).1
                · rw [(HVb.out.1 hS).2, C7.out hS]
                  exact sameTaps_same [] none none 0 0 v4 (fun i p h => by simp at h) (fun i p h => by simp at h) (by simp)
              refine (hA).mono ?_
              rintro e v5 ⟨rfl, hb⟩
              have HG1v5 := hide (HG1v4.out.on hb)
              have HG2v5 := hide (HG2v4.out.on hb)
              have HG3v5 := hide (HG3v4.out.on hb)
              have HG4v5 := hide (HG4v4.out.on hb)
              clear hA
              clear lG1_0 cG1_0_0 cG1_0_1 cG1_0_2 cG1_0_3 cG1_0_4 cG1_0_5 cG1_0_6 cG1_0_7 lG1_1 cG1_1_0 cG1_1_1 cG1_1_2 cG1_1_3 cG1_1_4 cG1_1_5 lG1_2 cG1_2_0 cG1_2_1 lG2_0 cG2_0_0 cG2_0_1 cG2_0_2 cG2_0_3 cG2_0_4 cG2_0_5 cG2_0_6 cG2_0_7 lG2_1 cG2_1_0 cG2_1_1 cG2_1_2 cG2_1_3 cG2_1_4 lG3_0 cG3_0_0 cG3_0_1 cG3_0_2 cG3_0_3 cG3_0_4 cG3_0_5 cG3_0_6 cG3_0_7 lG4_0 cG4_0_0 cG4_0_1 cG4_0_2 cG4_0_3 cG4_0_4 cG4_0_5 cG4_0_6 cG4_0_7 lG4_1 cG4_1_0 cG4_1_1 cG4_1_2 cG4_1_3 cG4_1_4 cG4_1_5 cG4_1_6 cG4_1_7 lG4_2 cG4_2_0 cG4_2_1 cG4_2_2 cG4_2_3 cG4_2_4
              clear hb HG1v4 HG2v4 HG3v4 HG4v4
              go_wp2_with fail
              go_ret
              exact ⟨rfl, HG1v5.out.2.2⟩
end Go.Proofs.Ytcakfmpckbmdeac
