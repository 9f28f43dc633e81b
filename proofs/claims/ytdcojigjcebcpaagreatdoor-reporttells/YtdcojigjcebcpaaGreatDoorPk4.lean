/-
  Texts joined: RB13.
-/
import Derived.Test.YtdcojigjcebcpaaGreatDoorPk3
set_option maxHeartbeats 12800000
set_option maxRecDepth 100000
namespace Go.Proofs.YtdcojigjcebcpaaGreatDoor
section
open Go.RowKit
theorem lineV_err {T : List TK} {P : List TP} {V : List Int} {id : Int} (h : zK T P V ≠ 0) : lineV T P V id = ([], zK T P V) := by rw [lineV, if_pos h]
theorem lineV_none {T : List TK} {P : List TP} {V : List Int} {id : Int} (h : zK T P V = 0) (h2 : zX T id < 0) : lineV T P V id = ([], 5) := by rw [lineV, if_neg (by simp [h]), if_pos h2]
theorem lineV_ok {T : List TK} {P : List TP} {V : List Int} {id : Int} {k : Nat} {x : TK} (h : zK T P V = 0) (h2 : zX T id = k) (h3 : T[k]? = some x) : lineV T P V id = (yN (P.zip V) x, 0) := by
 have e1 : (zX T id).toNat = k := by omega
 have e2 : T.getD k tk0 = x := by rw [List.getD_eq_getElem?_getD, h3]; rfl
 rw [lineV, if_neg (by simp [h]), if_neg (by omega), e1, e2]
theorem reportTells_walk (o1 o2 o3 : Option Addr) (T : List TK) (P : List TP) (V : List Int) (c1 c2 c3 : Nat) (id : Int) (T' : List TK) (P' : List TP) (V' : List Int) (dv : Int) (D : List Int) (G : List GT) (W : List VW) (s1 s2 s3 sd sg sv : Option Addr) (y1 y2 y3 yd yg yv : Nat) (w : World)
  (h : LedV w (lg o1 o2 o3 T.length c1 P.length c2 V.length c3) T P V) (hl : LensOk T P V) (hs : StW w s1 s2 s3 y1 y2 y3 T' P' V' sd yd D sg yg G sv yv W) (hI : ItoaOk w) :
  Calls Tryz.prog 3 #[lg o1 o2 o3 T.length c1 P.length c2 V.length c3, .int .i64 id, stV s1 s2 s3 T'.length y1 P'.length y2 V'.length y3 dv sd D.length yd sg G.length yg sv W.length yv] w fun e w' => e = .returned (.bool true) ∧ Below w.heap.size w w' := by
 have hat := h.at4
 have HI := zA hI
 have HLi := zA (fun X (hb : Below w.heap.size w X) => lineVv (h.below hb) hl (hI.on hb) id)
 have HTx := zA (fun X (hb : Below w.heap.size w X) => text_any T' P' V' dv D G W s1 s2 s3 sd sg sv y1 y2 y3 yd yg yv X (hI.on hb) (hs.below hb))
 have HC := zA (fun X (hb : Below w.heap.size w X) => checkLedger_any o1 o2 o3 c1 c2 c3 T P V X (hat.1.below hb) (hat.2.1.below hb) (hat.2.2.1.below hb))
 have HS := zA (fun X (hb : Below w.heap.size w X) => checkStation_any T' P' V' dv D G W s1 s2 s3 sd sg sv y1 y2 y3 yd yg yv X (hs.below hb))
 have HA := zA (fun X (hb : Below w.heap.size w X) => yG o1 c1 T id X (hat.1.below hb) hl.1)
 have HLo := zA (fun (h0 : zK T P V = 0) X (hb : Below w.heap.size w X) (k : Nat) (x : TK) (hx : T[k]? = some x) => lineOf_any T P V o1 o2 o3 c1 c2 c3 k x X (hat.1.below hb) (hat.2.1.below hb) (hat.2.2.1.below hb) h0 hx)
 have HTo := zA (fun (h0 : chkS T' P' V' dv D G W = 0) X (hb : Below w.heap.size w X) => textOf_any T' P' V' dv D G W s1 s2 s3 sd sg sv y1 y2 y3 yd yg yv X (hs.below hb) h0)
 obtain ⟨a, e1, ha⟩ : ∃ a e1, lineV T P V id = (a, e1) := ⟨_, _, rfl⟩
 obtain ⟨b, f1, hbf⟩ : ∃ b f1, textV T' P' V' dv D G W = (b, f1) := ⟨_, _, rfl⟩
 rw [ha] at HLi
 rw [hbf] at HTx
 have F1 : Hid (zK T P V ≠ 0 → a = [] ∧ e1 = zK T P V) := zA (fun h0 => by rw [lineV_err h0] at ha; exact ⟨(Prod.mk.inj ha).1.symm, (Prod.mk.inj ha).2.symm⟩)
 have F2 : Hid (zK T P V = 0 → zX T id < 0 → a = [] ∧ e1 = 5) := zA (fun h0 h2 => by rw [lineV_none h0 h2] at ha; exact ⟨(Prod.mk.inj ha).1.symm, (Prod.mk.inj ha).2.symm⟩)
 have F3 : Hid (zK T P V = 0 → ∀ (k : Nat) (x : TK), zX T id = k → T[k]? = some x → a = yN (P.zip V) x ∧ e1 = 0) := zA (fun h0 k x h2 h3 => by rw [lineV_ok h0 h2 h3] at ha; exact ⟨(Prod.mk.inj ha).1.symm, (Prod.mk.inj ha).2.symm⟩)
 have G1 : Hid (chkS T' P' V' dv D G W ≠ 0 → b = [] ∧ f1 = chkS T' P' V' dv D G W) := zA (fun h0 => by rw [textV, if_pos h0] at hbf; exact ⟨(Prod.mk.inj hbf).1.symm, (Prod.mk.inj hbf).2.symm⟩)
 have G2 : Hid (chkS T' P' V' dv D G W = 0 → b = topB W ++ zN (P'.zip V') D T' ∧ f1 = 0) := zA (fun h0 => by rw [textV, if_neg (by simp [h0])] at hbf; exact ⟨(Prod.mk.inj hbf).1.symm, (Prod.mk.inj hbf).2.symm⟩)
 clear ha hbf hat h hl hs hI
 generalize topB W ++ zN (P'.zip V') D T' = bt at *
 obtain ⟨EL, hEL⟩ : ∃ EL, EL = zK T P V := ⟨_, rfl⟩
 obtain ⟨ES, hES⟩ : ∃ ES, ES = chkS T' P' V' dv D G W := ⟨_, rfl⟩
 rw [← hEL] at HC F1 F2 F3 HLo
 rw [← hES] at HS G1 G2 HTo
 clear hEL hES
 have HG0 := zA (((zM.nil w).more (.cells #[.slice o1 T.length c1, .slice o2 P.length c2, .slice o3 V.length c3] 26) (by simp)).more (.cells #[.slice s1 T'.length y1, .slice s2 P'.length y2, .slice s3 V'.length y3, .int .i64 dv, .slice sd D.length yd, .slice sg G.length yg, .slice sv W.length yv] 32) (by simp))
 have HB0 := zA HG0.out.2.2
 have la0 : ((w.alloc (.cells #[.slice o1 T.length c1, .slice o2 P.length c2, .slice o3 V.length c3] 26)).alloc (.cells #[.slice s1 T'.length y1, .slice s2 P'.length y2, .slice s3 V'.length y3, .int .i64 dv, .slice sd D.length yd, .slice sg G.length yg, .slice sv W.length yv] 32)).cell? ⟨w.heap.size, 0, none⟩ = some (.slice o1 T.length c1) := HG0.out.cell 0 0 _ _ _ _ rfl rfl rfl
 have la1 : ((w.alloc (.cells #[.slice o1 T.length c1, .slice o2 P.length c2, .slice o3 V.length c3] 26)).alloc (.cells #[.slice s1 T'.length y1, .slice s2 P'.length y2, .slice s3 V'.length y3, .int .i64 dv, .slice sd D.length yd, .slice sg G.length yg, .slice sv W.length yv] 32)).cell? ⟨w.heap.size, 1, none⟩ = some (.slice o2 P.length c2) := HG0.out.cell 0 1 _ _ _ _ rfl rfl rfl
 have la2 : ((w.alloc (.cells #[.slice o1 T.length c1, .slice o2 P.length c2, .slice o3 V.length c3] 26)).alloc (.cells #[.slice s1 T'.length y1, .slice s2 P'.length y2, .slice s3 V'.length y3, .int .i64 dv, .slice sd D.length yd, .slice sg G.length yg, .slice sv W.length yv] 32)).cell? ⟨w.heap.size, 2, none⟩ = some (.slice o3 V.length c3) := HG0.out.cell 0 2 _ _ _ _ rfl rfl rfl
 have ma0 : ((w.alloc (.cells #[.slice o1 T.length c1, .slice o2 P.length c2, .slice o3 V.length c3] 26)).alloc (.cells #[.slice s1 T'.length y1, .slice s2 P'.length y2, .slice s3 V'.length y3, .int .i64 dv, .slice sd D.length yd, .slice sg G.length yg, .slice sv W.length yv] 32)).cell? ⟨w.heap.size + 1, 0, none⟩ = some (.slice s1 T'.length y1) := HG0.out.cell 1 0 _ _ _ _ rfl rfl rfl
 have ma1 : ((w.alloc (.cells #[.slice o1 T.length c1, .slice o2 P.length c2, .slice o3 V.length c3] 26)).alloc (.cells #[.slice s1 T'.length y1, .slice s2 P'.length y2, .slice s3 V'.length y3, .int .i64 dv, .slice sd D.length yd, .slice sg G.length yg, .slice sv W.length yv] 32)).cell? ⟨w.heap.size + 1, 1, none⟩ = some (.slice s2 P'.length y2) := HG0.out.cell 1 1 _ _ _ _ rfl rfl rfl
 have ma2 : ((w.alloc (.cells #[.slice o1 T.length c1, .slice o2 P.length c2, .slice o3 V.length c3] 26)).alloc (.cells #[.slice s1 T'.length y1, .slice s2 P'.length y2, .slice s3 V'.length y3, .int .i64 dv, .slice sd D.length yd, .slice sg G.length yg, .slice sv W.length yv] 32)).cell? ⟨w.heap.size + 1, 2, none⟩ = some (.slice s3 V'.length y3) := HG0.out.cell 1 2 _ _ _ _ rfl rfl rfl
 have ma3 : ((w.alloc (.cells #[.slice o1 T.length c1, .slice o2 P.length c2, .slice o3 V.length c3] 26)).alloc (.cells #[.slice s1 T'.length y1, .slice s2 P'.length y2, .slice s3 V'.length y3, .int .i64 dv, .slice sd D.length yd, .slice sg G.length yg, .slice sv W.length yv] 32)).cell? ⟨w.heap.size + 1, 3, none⟩ = some (.int .i64 dv) := HG0.out.cell 1 3 _ _ _ _ rfl rfl rfl
 have ma4 : ((w.alloc (.cells #[.slice o1 T.length c1, .slice o2 P.length c2, .slice o3 V.length c3] 26)).alloc (.cells #[.slice s1 T'.length y1, .slice s2 P'.length y2, .slice s3 V'.length y3, .int .i64 dv, .slice sd D.length yd, .slice sg G.length yg, .slice sv W.length yv] 32)).cell? ⟨w.heap.size + 1, 4, none⟩ = some (.slice sd D.length yd) := HG0.out.cell 1 4 _ _ _ _ rfl rfl rfl
 have ma5 : ((w.alloc (.cells #[.slice o1 T.length c1, .slice o2 P.length c2, .slice o3 V.length c3] 26)).alloc (.cells #[.slice s1 T'.length y1, .slice s2 P'.length y2, .slice s3 V'.length y3, .int .i64 dv, .slice sd D.length yd, .slice sg G.length yg, .slice sv W.length yv] 32)).cell? ⟨w.heap.size + 1, 5, none⟩ = some (.slice sg G.length yg) := HG0.out.cell 1 5 _ _ _ _ rfl rfl rfl
 have ma6 : ((w.alloc (.cells #[.slice o1 T.length c1, .slice o2 P.length c2, .slice o3 V.length c3] 26)).alloc (.cells #[.slice s1 T'.length y1, .slice s2 P'.length y2, .slice s3 V'.length y3, .int .i64 dv, .slice sd D.length yd, .slice sg G.length yg, .slice sv W.length yv] 32)).cell? ⟨w.heap.size + 1, 6, none⟩ = some (.slice sv W.length yv) := HG0.out.cell 1 6 _ _ _ _ rfl rfl rfl
 go_enter Tryz.func3, Tryz.ntmps3
 go_wp2_with fail
 clear la0 la1 la2 ma0 ma1 ma2 ma3 ma4 ma5 ma6
 generalize (w.alloc (.cells #[.slice o1 T.length c1, .slice o2 P.length c2, .slice o3 V.length c3] 26)).alloc (.cells #[.slice s1 T'.length y1, .slice s2 P'.length y2, .slice s3 V'.length y3, .int .i64 dv, .slice sd D.length yd, .slice sg G.length yg, .slice sv W.length yv] 32) = w1 at *
 refine (HLi.out w1 HB0.out).mono ?_
 rintro e w2 ⟨rfl, hb⟩
 have HG2 := zA (HG0.out.on hb)
 have HB2 := zA HG2.out.2.2
 clear hb HG0 HB0 HLi
 have lb0 : w2.cell? ⟨w.heap.size, 0, none⟩ = some (.slice o1 T.length c1) := HG2.out.cell 0 0 _ _ _ _ rfl rfl rfl
 have lb1 : w2.cell? ⟨w.heap.size, 1, none⟩ = some (.slice o2 P.length c2) := HG2.out.cell 0 1 _ _ _ _ rfl rfl rfl
 have lb2 : w2.cell? ⟨w.heap.size, 2, none⟩ = some (.slice o3 V.length c3) := HG2.out.cell 0 2 _ _ _ _ rfl rfl rfl
 have mb0 : w2.cell? ⟨w.heap.size + 1, 0, none⟩ = some (.slice s1 T'.length y1) := HG2.out.cell 1 0 _ _ _ _ rfl rfl rfl
 have mb1 : w2.cell? ⟨w.heap.size + 1, 1, none⟩ = some (.slice s2 P'.length y2) := HG2.out.cell 1 1 _ _ _ _ rfl rfl rfl
 have mb2 : w2.cell? ⟨w.heap.size + 1, 2, none⟩ = some (.slice s3 V'.length y3) := HG2.out.cell 1 2 _ _ _ _ rfl rfl rfl
 have mb3 : w2.cell? ⟨w.heap.size + 1, 3, none⟩ = some (.int .i64 dv) := HG2.out.cell 1 3 _ _ _ _ rfl rfl rfl
 have mb4 : w2.cell? ⟨w.heap.size + 1, 4, none⟩ = some (.slice sd D.length yd) := HG2.out.cell 1 4 _ _ _ _ rfl rfl rfl
 have mb5 : w2.cell? ⟨w.heap.size + 1, 5, none⟩ = some (.slice sg G.length yg) := HG2.out.cell 1 5 _ _ _ _ rfl rfl rfl
 have mb6 : w2.cell? ⟨w.heap.size + 1, 6, none⟩ = some (.slice sv W.length yv) := HG2.out.cell 1 6 _ _ _ _ rfl rfl rfl
 go_wp2_with fail
 clear lb0 lb1 lb2 mb0 mb1 mb2 mb3 mb4 mb5 mb6
 refine (HTx.out w2 HB2.out).mono ?_
 rintro e w3 ⟨rfl, hb⟩
 have HG3 := zA (HG2.out.on hb)
 have HB3 := zA HG3.out.2.2
 clear hb HG2 HB2 HTx
 have lc0 : w3.cell? ⟨w.heap.size, 0, none⟩ = some (.slice o1 T.length c1) := HG3.out.cell 0 0 _ _ _ _ rfl rfl rfl
 have lc1 : w3.cell? ⟨w.heap.size, 1, none⟩ = some (.slice o2 P.length c2) := HG3.out.cell 0 1 _ _ _ _ rfl rfl rfl
 have lc2 : w3.cell? ⟨w.heap.size, 2, none⟩ = some (.slice o3 V.length c3) := HG3.out.cell 0 2 _ _ _ _ rfl rfl rfl
 have mc0 : w3.cell? ⟨w.heap.size + 1, 0, none⟩ = some (.slice s1 T'.length y1) := HG3.out.cell 1 0 _ _ _ _ rfl rfl rfl
 have mc1 : w3.cell? ⟨w.heap.size + 1, 1, none⟩ = some (.slice s2 P'.length y2) := HG3.out.cell 1 1 _ _ _ _ rfl rfl rfl
 have mc2 : w3.cell? ⟨w.heap.size + 1, 2, none⟩ = some (.slice s3 V'.length y3) := HG3.out.cell 1 2 _ _ _ _ rfl rfl rfl
 have mc3 : w3.cell? ⟨w.heap.size + 1, 3, none⟩ = some (.int .i64 dv) := HG3.out.cell 1 3 _ _ _ _ rfl rfl rfl
 have mc4 : w3.cell? ⟨w.heap.size + 1, 4, none⟩ = some (.slice sd D.length yd) := HG3.out.cell 1 4 _ _ _ _ rfl rfl rfl
 have mc5 : w3.cell? ⟨w.heap.size + 1, 5, none⟩ = some (.slice sg G.length yg) := HG3.out.cell 1 5 _ _ _ _ rfl rfl rfl
 have mc6 : w3.cell? ⟨w.heap.size + 1, 6, none⟩ = some (.slice sv W.length yv) := HG3.out.cell 1 6 _ _ _ _ rfl rfl rfl
 have q0 := cell_regrown lc0
 have q1 := cell_regrown lc1
 have q2 := cell_regrown lc2
 have q3 := cell_regrown mc0
 have q4 := cell_regrown mc1
 have q5 := cell_regrown mc2
 have q6 := cell_regrown mc3
 have q7 := cell_regrown mc4
 have q8 := cell_regrown mc5
 have q9 := cell_regrown mc6
 have kL : ∀ d os, Calls Tryz.prog 7 #[lg o1 o2 o3 T.length c1 P.length c2 V.length c3] (Sort.grow (redrawn w3 d) os) fun e w'' => e = .returned (.int .i64 EL) ∧ ∃ p : Regrown, w'' = Sort.grow (redrawn w3 p.d) p.os := fun d os => Calls.regrown_of (HC.out _ (HB3.out.trans ((below_regrown w3 d os).mono HB3.out.size)))
 have kS : ∀ d os, Calls Tryz.prog 8 #[stV s1 s2 s3 T'.length y1 P'.length y2 V'.length y3 dv sd D.length yd sg G.length yg sv W.length yv] (Sort.grow (redrawn w3 d) os) fun e w'' => e = .returned (.int .i64 ES) ∧ ∃ p : Regrown, w'' = Sort.grow (redrawn w3 p.d) p.os := fun d os => Calls.regrown_of (HS.out _ (HB3.out.trans ((below_regrown w3 d os).mono HB3.out.size)))
 go_wp2_with fail
 refine wp_region_quiet_below (by kernel_rfl) (by kernel_rfl) ?_
 repeat (go_big_quiet_step (first | exact kL _ _ | exact kS _ _))
 refine wpQuiet_nil ?_
 intro _ hw'
 obtain ⟨⟨dq, osq⟩, hw''⟩ := hw'
 subst hw''
 have hb := below_regrown w3 dq osq
 clear kL kS lc0 lc1 lc2 mc0 mc1 mc2 mc3 mc4 mc5 mc6 q0 q1 q2 q3 q4 q5 q6 q7 q8 q9 HC HS
 have HG4 := zA (HG3.out.on hb)
 have HB4 := zA HG4.out.2.2
 clear hb HG3 HB3
 generalize Sort.grow (redrawn w3 dq) osq = w4 at *
 rcases hL : (EL != 0) with _ | _
 ·have hL0 : EL = 0 := by simpa using hL
  have le0 : w4.cell? ⟨w.heap.size, 0, none⟩ = some (.slice o1 T.length c1) := HG4.out.cell 0 0 _ _ _ _ rfl rfl rfl
  have le1 : w4.cell? ⟨w.heap.size, 1, none⟩ = some (.slice o2 P.length c2) := HG4.out.cell 0 1 _ _ _ _ rfl rfl rfl
  have le2 : w4.cell? ⟨w.heap.size, 2, none⟩ = some (.slice o3 V.length c3) := HG4.out.cell 0 2 _ _ _ _ rfl rfl rfl
  have me0 : w4.cell? ⟨w.heap.size + 1, 0, none⟩ = some (.slice s1 T'.length y1) := HG4.out.cell 1 0 _ _ _ _ rfl rfl rfl
  have me1 : w4.cell? ⟨w.heap.size + 1, 1, none⟩ = some (.slice s2 P'.length y2) := HG4.out.cell 1 1 _ _ _ _ rfl rfl rfl
  have me2 : w4.cell? ⟨w.heap.size + 1, 2, none⟩ = some (.slice s3 V'.length y3) := HG4.out.cell 1 2 _ _ _ _ rfl rfl rfl
  have me3 : w4.cell? ⟨w.heap.size + 1, 3, none⟩ = some (.int .i64 dv) := HG4.out.cell 1 3 _ _ _ _ rfl rfl rfl
  have me4 : w4.cell? ⟨w.heap.size + 1, 4, none⟩ = some (.slice sd D.length yd) := HG4.out.cell 1 4 _ _ _ _ rfl rfl rfl
  have me5 : w4.cell? ⟨w.heap.size + 1, 5, none⟩ = some (.slice sg G.length yg) := HG4.out.cell 1 5 _ _ _ _ rfl rfl rfl
  have me6 : w4.cell? ⟨w.heap.size + 1, 6, none⟩ = some (.slice sv W.length yv) := HG4.out.cell 1 6 _ _ _ _ rfl rfl rfl
  have HF2 := zA (F2.out hL0)
  have HF3 := zA (F3.out hL0)
  have HL4 := zA (HLo.out hL0)
  subst hL0
  clear hL F1 F2 F3 HLo
  go_wp2_with fail
  refine (HA.out w4 HB4.out).mono ?_
  rintro e w4' ⟨rfl, hw⟩
  obtain rfl := hw.symm
  by_cases hi : zX T id < 0
  ·obtain ⟨ha2, he2⟩ := HF2.out hi
   subst ha2 he2
   clear HF2 HF3 HL4
   clear le0 le1 le2 me0 me1 me2 me3 me4 me5 me6
   have F1 := True.intro
   have F2 := True.intro
   have F3 := True.intro
   have HLo := True.intro
   rcases hE : (ES != 0) with _ | _
   ·have hE0 : ES = 0 := by simpa using hE
    obtain ⟨hb2, hf2⟩ := G2.out hE0
    subst hb2 hf2
    have HT := zA (HTo.out hE0)
    subst hE0
    clear hE G1 G2 HTo F1 F2 F3 HLo HA
    have ld0 : w4.cell? ⟨w.heap.size, 0, none⟩ = some (.slice o1 T.length c1) := HG4.out.cell 0 0 _ _ _ _ rfl rfl rfl
    have ld1 : w4.cell? ⟨w.heap.size, 1, none⟩ = some (.slice o2 P.length c2) := HG4.out.cell 0 1 _ _ _ _ rfl rfl rfl
    have ld2 : w4.cell? ⟨w.heap.size, 2, none⟩ = some (.slice o3 V.length c3) := HG4.out.cell 0 2 _ _ _ _ rfl rfl rfl
    have md0 : w4.cell? ⟨w.heap.size + 1, 0, none⟩ = some (.slice s1 T'.length y1) := HG4.out.cell 1 0 _ _ _ _ rfl rfl rfl
    have md1 : w4.cell? ⟨w.heap.size + 1, 1, none⟩ = some (.slice s2 P'.length y2) := HG4.out.cell 1 1 _ _ _ _ rfl rfl rfl
    have md2 : w4.cell? ⟨w.heap.size + 1, 2, none⟩ = some (.slice s3 V'.length y3) := HG4.out.cell 1 2 _ _ _ _ rfl rfl rfl
    have md3 : w4.cell? ⟨w.heap.size + 1, 3, none⟩ = some (.int .i64 dv) := HG4.out.cell 1 3 _ _ _ _ rfl rfl rfl
    have md4 : w4.cell? ⟨w.heap.size + 1, 4, none⟩ = some (.slice sd D.length yd) := HG4.out.cell 1 4 _ _ _ _ rfl rfl rfl
    have md5 : w4.cell? ⟨w.heap.size + 1, 5, none⟩ = some (.slice sg G.length yg) := HG4.out.cell 1 5 _ _ _ _ rfl rfl rfl
    have md6 : w4.cell? ⟨w.heap.size + 1, 6, none⟩ = some (.slice sv W.length yv) := HG4.out.cell 1 6 _ _ _ _ rfl rfl rfl
    go_wp2_with fail
    refine (HT.out w4 HB4.out).mono ?_
    rintro e w6 ⟨rfl, hb⟩
    have HB6 := trR HB4 hb
    clear hb HB4 HG4 HT ld0 ld1 ld2 md0 md1 md2 md3 md4 md5 md6
    go_wp2_with fail
    refine (zU w6 (HI.out.on HB6.out)).mono ?_
    rintro e w9 ⟨rfl, hb⟩
    have HB9 := trR HB6 hb
    clear hb HB6
    go_wp2_with fail
    go_ret
    exact ⟨by simp, HB9.out⟩
   ·have hE0 : ES ≠ 0 := by simpa using hE
    obtain ⟨hb2, hf2⟩ := G1.out hE0
    subst hb2 hf2
    clear G1 G2 HTo F1 F2 F3 HLo HA HG4
    go_wp2_with fail
    refine (zU w4 (HI.out.on HB4.out)).mono ?_
    rintro e w9 ⟨rfl, hb⟩
    have HB9 := trR HB4 hb
    clear hb HB4
    go_wp2_with fail
    go_ret
    exact ⟨by simp, HB9.out⟩
  ·obtain ⟨k, x, i1, i2⟩ := idxT_get hi
   obtain ⟨ha2, he2⟩ := HF3.out k x i1 i2
   subst ha2 he2
   have HL5 := zA (fun X hb => HL4.out X hb k x i2)
   rw [i1]
   clear HF2 HF3 HL4 i1 i2 hi
   generalize yN (P.zip V) x = ln at *
   go_wp2_with fail
   refine (HL5.out w4 HB4.out).mono ?_
   rintro e w5 ⟨rfl, hb⟩
   have HG5 := zA (HG4.out.on hb)
   have HB5 := zA HG5.out.2.2
   clear hb HG4 HB4 HL5 le0 le1 le2 me0 me1 me2 me3 me4 me5 me6
   have F1 := True.intro
   have F2 := True.intro
   have F3 := True.intro
   have HLo := True.intro
   rcases hE : (ES != 0) with _ | _
   ·have hE0 : ES = 0 := by simpa using hE
    obtain ⟨hb2, hf2⟩ := G2.out hE0
    subst hb2 hf2
    have HT := zA (HTo.out hE0)
    subst hE0
    clear hE G1 G2 HTo F1 F2 F3 HLo HA
    have ld0 : w5.cell? ⟨w.heap.size, 0, none⟩ = some (.slice o1 T.length c1) := HG5.out.cell 0 0 _ _ _ _ rfl rfl rfl
    have ld1 : w5.cell? ⟨w.heap.size, 1, none⟩ = some (.slice o2 P.length c2) := HG5.out.cell 0 1 _ _ _ _ rfl rfl rfl
    have ld2 : w5.cell? ⟨w.heap.size, 2, none⟩ = some (.slice o3 V.length c3) := HG5.out.cell 0 2 _ _ _ _ rfl rfl rfl
    have md0 : w5.cell? ⟨w.heap.size + 1, 0, none⟩ = some (.slice s1 T'.length y1) := HG5.out.cell 1 0 _ _ _ _ rfl rfl rfl
    have md1 : w5.cell? ⟨w.heap.size + 1, 1, none⟩ = some (.slice s2 P'.length y2) := HG5.out.cell 1 1 _ _ _ _ rfl rfl rfl
    have md2 : w5.cell? ⟨w.heap.size + 1, 2, none⟩ = some (.slice s3 V'.length y3) := HG5.out.cell 1 2 _ _ _ _ rfl rfl rfl
    have md3 : w5.cell? ⟨w.heap.size + 1, 3, none⟩ = some (.int .i64 dv) := HG5.out.cell 1 3 _ _ _ _ rfl rfl rfl
    have md4 : w5.cell? ⟨w.heap.size + 1, 4, none⟩ = some (.slice sd D.length yd) := HG5.out.cell 1 4 _ _ _ _ rfl rfl rfl
    have md5 : w5.cell? ⟨w.heap.size + 1, 5, none⟩ = some (.slice sg G.length yg) := HG5.out.cell 1 5 _ _ _ _ rfl rfl rfl
    have md6 : w5.cell? ⟨w.heap.size + 1, 6, none⟩ = some (.slice sv W.length yv) := HG5.out.cell 1 6 _ _ _ _ rfl rfl rfl
    go_wp2_with fail
    refine (HT.out w5 HB5.out).mono ?_
    rintro e w6 ⟨rfl, hb⟩
    have HB6 := trR HB5 hb
    clear hb HB5 HG5 HT ld0 ld1 ld2 md0 md1 md2 md3 md4 md5 md6
    go_wp2_with fail
    refine (zU w6 (HI.out.on HB6.out)).mono ?_
    rintro e w9 ⟨rfl, hb⟩
    have HB9 := trR HB6 hb
    clear hb HB6
    go_wp2_with fail
    go_ret
    exact ⟨by simp, HB9.out⟩
   ·have hE0 : ES ≠ 0 := by simpa using hE
    obtain ⟨hb2, hf2⟩ := G1.out hE0
    subst hb2 hf2
    clear G1 G2 HTo F1 F2 F3 HLo HA HG5
    go_wp2_with fail
    refine (zU w5 (HI.out.on HB5.out)).mono ?_
    rintro e w9 ⟨rfl, hb⟩
    have HB9 := trR HB5 hb
    clear hb HB5
    go_wp2_with fail
    go_ret
    exact ⟨by simp, HB9.out⟩
 ·have hL0 : EL ≠ 0 := by simpa using hL
  obtain ⟨ha2, he2⟩ := F1.out hL0
  subst ha2 he2
  rcases hE : (ES != 0) with _ | _
  ·have hE0 : ES = 0 := by simpa using hE
   obtain ⟨hb2, hf2⟩ := G2.out hE0
   subst hb2 hf2
   have HT := zA (HTo.out hE0)
   subst hE0
   clear hE G1 G2 HTo F1 F2 F3 HLo HA
   have ld0 : w4.cell? ⟨w.heap.size, 0, none⟩ = some (.slice o1 T.length c1) := HG4.out.cell 0 0 _ _ _ _ rfl rfl rfl
   have ld1 : w4.cell? ⟨w.heap.size, 1, none⟩ = some (.slice o2 P.length c2) := HG4.out.cell 0 1 _ _ _ _ rfl rfl rfl
   have ld2 : w4.cell? ⟨w.heap.size, 2, none⟩ = some (.slice o3 V.length c3) := HG4.out.cell 0 2 _ _ _ _ rfl rfl rfl
   have md0 : w4.cell? ⟨w.heap.size + 1, 0, none⟩ = some (.slice s1 T'.length y1) := HG4.out.cell 1 0 _ _ _ _ rfl rfl rfl
   have md1 : w4.cell? ⟨w.heap.size + 1, 1, none⟩ = some (.slice s2 P'.length y2) := HG4.out.cell 1 1 _ _ _ _ rfl rfl rfl
   have md2 : w4.cell? ⟨w.heap.size + 1, 2, none⟩ = some (.slice s3 V'.length y3) := HG4.out.cell 1 2 _ _ _ _ rfl rfl rfl
   have md3 : w4.cell? ⟨w.heap.size + 1, 3, none⟩ = some (.int .i64 dv) := HG4.out.cell 1 3 _ _ _ _ rfl rfl rfl
   have md4 : w4.cell? ⟨w.heap.size + 1, 4, none⟩ = some (.slice sd D.length yd) := HG4.out.cell 1 4 _ _ _ _ rfl rfl rfl
   have md5 : w4.cell? ⟨w.heap.size + 1, 5, none⟩ = some (.slice sg G.length yg) := HG4.out.cell 1 5 _ _ _ _ rfl rfl rfl
   have md6 : w4.cell? ⟨w.heap.size + 1, 6, none⟩ = some (.slice sv W.length yv) := HG4.out.cell 1 6 _ _ _ _ rfl rfl rfl
   go_wp2_with fail
   refine (HT.out w4 HB4.out).mono ?_
   rintro e w6 ⟨rfl, hb⟩
   have HB6 := trR HB4 hb
   clear hb HB4 HG4 HT ld0 ld1 ld2 md0 md1 md2 md3 md4 md5 md6
   go_wp2_with fail
   refine (zU w6 (HI.out.on HB6.out)).mono ?_
   rintro e w9 ⟨rfl, hb⟩
   have HB9 := trR HB6 hb
   clear hb HB6
   go_wp2_with fail
   go_ret
   exact ⟨by simp, HB9.out⟩
  ·have hE0 : ES ≠ 0 := by simpa using hE
   obtain ⟨hb2, hf2⟩ := G1.out hE0
   subst hb2 hf2
   clear G1 G2 HTo F1 F2 F3 HLo HA HG4
   go_wp2_with fail
   refine (zU w4 (HI.out.on HB4.out)).mono ?_
   rintro e w9 ⟨rfl, hb⟩
   have HB9 := trR HB4 hb
   clear hb HB4
   go_wp2_with fail
   go_ret
   exact ⟨by simp, HB9.out⟩
#print axioms reportTells_walk
end
end Go.Proofs.YtdcojigjcebcpaaGreatDoor
