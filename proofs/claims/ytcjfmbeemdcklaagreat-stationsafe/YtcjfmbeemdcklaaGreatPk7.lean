/-
  Texts joined: Z27, W6, X8, Z28, Z34.
-/
import Derived.Lib.QuietBelow
import Derived.BigQuiet
import Derived.Test.YtcjfmbeemdcklaaGreatPk6
/-
  The walk of 'StationSafe': the tap gives an error; the tap rides.
-/
namespace Go.Proofs.YtcjfmbeemdcklaaGreat
open Go.RowKit
theorem tapErr (T : List TK) (P : List TP) (V : List Int) (dv : Int) (D : List Int) (G : List GT) (W : List VW) (o1 o2 o3 od og ov : Option Addr) (c1 c2 c3 cd cg cv : Nat) (id n m : Int) (w : World) (hs : StW w o1 o2 o3 c1 c2 c3 T P V od cd D og cg G ov cv W) (h : (tapS T P V dv D G W id n m).2 ≠ 0) :
    Calls Tryz.prog 13 #[stV o1 o2 o3 T.length c1 P.length c2 V.length c3 dv od D.length cd og G.length cg ov W.length cv, .int .i64 id, .int .i64 n, .int .i64 m] w fun e w' => e = .returned (.tuple #[stV none none none 0 0 0 0 0 0 0 none 0 0 none 0 0 none 0 0, .int .i64 (tapS T P V dv D G W id n m).1, .int .i64 (tapS T P V dv D G W id n m).2]) ∧ Below w.heap.size w w' := by
  refine (stationTap_any T P V dv D G W o1 o2 o3 od og ov c1 c2 c3 cd cg cv id n m w hs).mono ?_
  rintro e w' ⟨⟨v, R, hR, rfl, h1, -⟩, hb⟩
  rw [← hR] at h ⊢
  exact ⟨by rw [h1 h], hb⟩
theorem tapSafe (T : List TK) (P : List TP) (V : List Int) (dv : Int) (D : List Int) (G : List GT) (W : List VW) (o1 o2 o3 od og ov : Option Addr) (c1 c2 c3 cd cg cv : Nat) (id n m : Int) (w : World) (hs : StW w o1 o2 o3 c1 c2 c3 T P V od cd D og cg G ov cv W) (h : (tapS T P V dv D G W id n m).2 = 0) :
    Calls Tryz.prog 13 #[stV o1 o2 o3 T.length c1 P.length c2 V.length c3 dv od D.length cd og G.length cg ov W.length cv, .int .i64 id, .int .i64 n, .int .i64 m] w fun e w' => (∃ x1 y1 x2 y2 x3 y3 x4 y4 x5 y5 x6 y6 G', e = .returned (.tuple #[stV x1 x2 x3 T.length y1 (pTap W (gAt (G.map GT.p) n) P id n m).length y2 (vTap W (gAt (G.map GT.p) n) V (tapS T P V dv D G W id n m).1).length y3 dv x4 D.length y4 x5 G'.length y5 x6 W.length y6, .int .i64 (tapS T P V dv D G W id n m).1, .int .i64 0]) ∧
      G'.map GT.p = (G.map GT.p).set n.toNat (gTap W (gAt (G.map GT.p) n) (tAt T id) m) ∧ StW w' x1 x2 x3 y1 y2 y3 T (pTap W (gAt (G.map GT.p) n) P id n m) (vTap W (gAt (G.map GT.p) n) V (tapS T P V dv D G W id n m).1) x4 y4 D x5 y5 G' x6 y6 W ∧ chkS T (pTap W (gAt (G.map GT.p) n) P id n m) (vTap W (gAt (G.map GT.p) n) V (tapS T P V dv D G W id n m).1) dv D G' W = 0) ∧ Below w.heap.size w w' := by
  refine (stationTap_any T P V dv D G W o1 o2 o3 od og ov c1 c2 c3 cd cg cv id n m w hs).mono ?_
  rintro e w' ⟨⟨v, R, hR, rfl, -, h2⟩, hb⟩
  have hk := tap_chk h
  subst hR
  obtain ⟨G', hm, hr⟩ := h2 h
  obtain ⟨x1, y1, x2, y2, x3, y3, x4, y4, x5, y5, x6, y6, rfl, hs', -⟩ := hr.of
  exact ⟨⟨x1, y1, x2, y2, x3, y3, x4, y4, x5, y5, x6, y6, G', by rw [h], hm, hs', by rw [chkS_p, hm]; exact hk⟩, hb⟩
set_option maxHeartbeats 12800000 in
set_option maxRecDepth 100000 in
theorem safe_bad (T : List TK) (P : List TP) (V : List Int) (dv : Int) (D : List Int) (G : List GT) (W : List VW) (o1 o2 o3 od og ov : Option Addr) (c1 c2 c3 cd cg cv : Nat) (id n m : Int) (w : World) (hs : StW w o1 o2 o3 c1 c2 c3 T P V od cd D og cg G ov cv W) (h1 : (tapS T P V dv D G W id n m).2 ≠ 0) :
    Calls Tryz.prog 6 #[stV o1 o2 o3 T.length c1 P.length c2 V.length c3 dv od D.length cd og G.length cg ov W.length cv, .int .i64 id, .int .i64 n, .int .i64 m] w fun e w' => e = .returned (.bool true) ∧ Below w.heap.size w w' := by
  have HTa := hide (fun X (h : StW X o1 o2 o3 c1 c2 c3 T P V od cd D og cg G ov cv W) => tapErr T P V dv D G W o1 o2 o3 od og ov c1 c2 c3 cd cg cv id n m X h h1)
  have h3 := tap_bad h1
  have h2 : ((tapS T P V dv D G W id n m).2 != 0) = true := by simpa using h1
  clear h1
  generalize tapS T P V dv D G W id n m = R at *
  obtain ⟨R1, R2⟩ := R
  simp only at h2 h3 HTa
  have HB := hide ((Blks.nil w).more (.cells #[.slice o1 T.length c1, .slice o2 P.length c2, .slice o3 V.length c3, .int .i64 dv, .slice od D.length cd, .slice og G.length cg, .slice ov W.length cv] 32) (by simp))
  have Hw := hide HB.out.2.2
  have OS0 := hide (show _ = _ from HB.out.1 0 _ rfl)
  rw [Nat.add_zero] at OS0
  have HS := hide hs
  clear hs
  have cS0 : (w.alloc (.cells #[.slice o1 T.length c1, .slice o2 P.length c2, .slice o3 V.length c3, .int .i64 dv, .slice od D.length cd, .slice og G.length cg, .slice ov W.length cv] 32)).cell? ⟨w.heap.size, 0, none⟩ = some (.slice o1 T.length c1) := by rw [cell_of_row _ _ 0 _ _ _ OS0.out]; rfl
  have cS1 : (w.alloc (.cells #[.slice o1 T.length c1, .slice o2 P.length c2, .slice o3 V.length c3, .int .i64 dv, .slice od D.length cd, .slice og G.length cg, .slice ov W.length cv] 32)).cell? ⟨w.heap.size, 1, none⟩ = some (.slice o2 P.length c2) := by rw [cell_of_row _ _ 1 _ _ _ OS0.out]; rfl
  have cS2 : (w.alloc (.cells #[.slice o1 T.length c1, .slice o2 P.length c2, .slice o3 V.length c3, .int .i64 dv, .slice od D.length cd, .slice og G.length cg, .slice ov W.length cv] 32)).cell? ⟨w.heap.size, 2, none⟩ = some (.slice o3 V.length c3) := by rw [cell_of_row _ _ 2 _ _ _ OS0.out]; rfl
  have cS3 : (w.alloc (.cells #[.slice o1 T.length c1, .slice o2 P.length c2, .slice o3 V.length c3, .int .i64 dv, .slice od D.length cd, .slice og G.length cg, .slice ov W.length cv] 32)).cell? ⟨w.heap.size, 3, none⟩ = some (.int .i64 dv) := by rw [cell_of_row _ _ 3 _ _ _ OS0.out]; rfl
  have cS4 : (w.alloc (.cells #[.slice o1 T.length c1, .slice o2 P.length c2, .slice o3 V.length c3, .int .i64 dv, .slice od D.length cd, .slice og G.length cg, .slice ov W.length cv] 32)).cell? ⟨w.heap.size, 4, none⟩ = some (.slice od D.length cd) := by rw [cell_of_row _ _ 4 _ _ _ OS0.out]; rfl
  have cS5 : (w.alloc (.cells #[.slice o1 T.length c1, .slice o2 P.length c2, .slice o3 V.length c3, .int .i64 dv, .slice od D.length cd, .slice og G.length cg, .slice ov W.length cv] 32)).cell? ⟨w.heap.size, 5, none⟩ = some (.slice og G.length cg) := by rw [cell_of_row _ _ 5 _ _ _ OS0.out]; rfl
  have cS6 : (w.alloc (.cells #[.slice o1 T.length c1, .slice o2 P.length c2, .slice o3 V.length c3, .int .i64 dv, .slice od D.length cd, .slice og G.length cg, .slice ov W.length cv] 32)).cell? ⟨w.heap.size, 6, none⟩ = some (.slice ov W.length cv) := by rw [cell_of_row _ _ 6 _ _ _ OS0.out]; rfl
  go_enter Tryz.func6, Tryz.ntmps6
  go_wp2_with fail
  generalize (w.alloc (.cells #[.slice o1 T.length c1, .slice o2 P.length c2, .slice o3 V.length c3, .int .i64 dv, .slice od D.length cd, .slice og G.length cg, .slice ov W.length cv] 32)) = w0 at *
  clear HB
  refine (HTa.out _ (HS.out.below Hw.out)).mono ?_
  rintro e w1 ⟨rfl, hb⟩
  have Bww1 := hide (Hw.out.trans (hb.mono Hw.out.size))
  have OSw1 := hide (at_below OS0.out hb)
  have zww1 : w.heap.size ≤ w1.heap.size := Bww1.out.size
  have lSw1 : w.heap.size < w1.heap.size := (Array.getElem?_eq_some_iff.1 OSw1.out).1
  clear hb Hw OS0
  clear cS0 cS1 cS2 cS3 cS4 cS5 cS6
  go_wp2_with fail
  have hb := (Below.refl w1.heap.size w1).alloc (Nat.le_refl _) (.cells #[.slice none 0 0, .slice none 0 0, .slice none 0 0, .int .i64 0, .slice none 0 0, .slice none 0 0, .slice none 0 0] 32)
  have OAw1a := hide (heap_alloc_new w1 (.cells #[.slice none 0 0, .slice none 0 0, .slice none 0 0, .int .i64 0, .slice none 0 0, .slice none 0 0, .slice none 0 0] 32))
  have Bww1a := hide (Bww1.out.trans (hb.mono Bww1.out.size))
  have OSw1a := hide (at_below OSw1.out hb)
  clear hb Bww1 OSw1
  generalize (w1.alloc (.cells #[.slice none 0 0, .slice none 0 0, .slice none 0 0, .int .i64 0, .slice none 0 0, .slice none 0 0, .slice none 0 0] 32)) = w1a at *
  have zww1a : w.heap.size ≤ w1a.heap.size := Bww1a.out.size
  have lSw1a : w.heap.size < w1a.heap.size := (Array.getElem?_eq_some_iff.1 OSw1a.out).1
  have lAw1a : w1.heap.size < w1a.heap.size := (Array.getElem?_eq_some_iff.1 OAw1a.out).1
  refine (stationBegun_any _).mono ?_
  rintro e w2 ⟨rfl, hb⟩
  have Bww2 := hide (Bww1a.out.trans (hb.mono Bww1a.out.size))
  have OSw2 := hide (at_below OSw1a.out hb)
  have OAw2 := hide (at_below OAw1a.out hb)
  have zww2 : w.heap.size ≤ w2.heap.size := Bww2.out.size
  have lSw2 : w.heap.size < w2.heap.size := (Array.getElem?_eq_some_iff.1 OSw2.out).1
  have lAw2 : w1.heap.size < w2.heap.size := (Array.getElem?_eq_some_iff.1 OAw2.out).1
  clear hb Bww1a OSw1a OAw1a
  go_wp2_with fail
  refine (gateBegun_any _).mono ?_
  rintro e w3 ⟨rfl, hb⟩
  have Bww3 := hide (Bww2.out.trans (hb.mono Bww2.out.size))
  have OSw3 := hide (at_below OSw2.out hb)
  have OAw3 := hide (at_below OAw2.out hb)
  have zww3 : w.heap.size ≤ w3.heap.size := Bww3.out.size
  have lSw3 : w.heap.size < w3.heap.size := (Array.getElem?_eq_some_iff.1 OSw3.out).1
  have lAw3 : w1.heap.size < w3.heap.size := (Array.getElem?_eq_some_iff.1 OAw3.out).1
  clear hb Bww2 OSw2 OAw2
  obtain ⟨cA0, cA1, cA2, cA3, cA4, cA5, cA6⟩ := row_c7 OAw3.out
  rcases h3 with rfl | rfl
  · go_wp2_with fail
    go_ret
    exact ⟨rfl, Bww3.out⟩
  · go_wp2_with fail
    go_ret
    exact ⟨rfl, Bww3.out⟩
set_option maxHeartbeats 12800000 in
set_option maxRecDepth 100000 in
theorem safe_led (T : List TK) (P : List TP) (V : List Int) (dv : Int) (D : List Int) (G : List GT) (W : List VW) (o1 o2 o3 od og ov : Option Addr) (c1 c2 c3 cd cg cv : Nat) (id n m : Int) (w : World) (hs : StW w o1 o2 o3 c1 c2 c3 T P V od cd D og cg G ov cv W) (h1 : (tapS T P V dv D G W id n m).2 = 0) (hv : (tapS T P V dv D G W id n m).1 ≠ 0) :
    Calls Tryz.prog 6 #[stV o1 o2 o3 T.length c1 P.length c2 V.length c3 dv od D.length cd og G.length cg ov W.length cv, .int .i64 id, .int .i64 n, .int .i64 m] w fun e w' => e = .returned (.bool true) ∧ Below w.heap.size w w' := by
  obtain ⟨hc, q, g, k, x, rfl, hq3, hg, hk, hx, ht, hw⟩ := tap_right h1
  obtain ⟨-, w2, -⟩ | ⟨w1, w2, w3, w4, w5, w6⟩ := hw
  · exact absurd w2 hv
  obtain ⟨hL, hD, hG3, hGs, hW0, hW3⟩ := chkS_right hc
  obtain ⟨g1, g2, g3, g4⟩ := gateE_right (hGs q g hg)
  have hA : g.A = [] := al_nil w1
  have hni : hasI D id = false := not_denied hD hL hk hx w3
  have hal : ¬ alB W g.p.A = true := by
    show ¬ alB W g.A = true
    rw [w1]
    decide
  have hT0 : ((T.length : Int) == 0) = false := by
    have := (List.getElem?_eq_some_iff.1 hx).1
    simp only [beq_eq_false_iff_ne, ne_eq]
    omega
  have hs98 : 0 ≤ g.s ∧ g.s ≤ 98 := by
    have h := (chkG_right g1).1
    unfold errS at h
    by_cases hr : (wi g.i 0 2 && wi g.s 0 99) = true
    · simp only [Bool.and_eq_true, wi_iff] at hr
      omega
    · simp only [Bool.not_eq_true] at hr
      rw [if_pos hr] at h
      omega
  have hD12 : D.length ≤ 12 := (chkD_right hD).2.2.1
  have hP60 : P.length ≤ 60 := (chkL_right hL).2.1
  obtain ⟨A, rfl, -⟩ := hs.gts q g hg
  have HTa := hide (fun X (h : StW X o1 o2 o3 c1 c2 c3 T P V od cd D (some A) cg G ov cv W) => tapSafe T P V dv D G W o1 o2 o3 od (some A) ov c1 c2 c3 cd cg cv id q m X h h1)
  obtain ⟨GQ, hGQ⟩ : ∃ GQ : GP, GQ = ⟨g.i, g.z, g.s + 1, [], g.v, g.D, g.l, g.u⟩ := ⟨_, rfl⟩
  have eP : pTap W (gAt (G.map GT.p) (q : Int)) P id q m = P ++ [⟨id, q, g.s + 1, m, g.z⟩] := by rw [gAt_of hg, pTap, if_neg hal]; rfl
  have eV : ∀ r, vTap W (gAt (G.map GT.p) (q : Int)) V r = V ++ [r] := fun r => by rw [gAt_of hg, vTap, if_neg hal]
  have eG : gTap W (gAt (G.map GT.p) (q : Int)) (tAt T id) m = GQ := by
    rw [gAt_of hg, gTap, if_neg hal, hGQ, ← hA]
    rfl
  rw [eP, eV, eG, Int.toNat_natCast] at HTa
  have hv' : ((tapS T P V dv D G W id q m).1 == 0) = false := by simpa using hv
  generalize (tapS T P V dv D G W id q m).1 = R1 at *
  obtain ⟨P', hP'⟩ : ∃ P', P' = P ++ [(⟨id, q, g.s + 1, m, g.z⟩ : TP)] := ⟨_, rfl⟩
  obtain ⟨V', hV'⟩ : ∃ V', V' = V ++ [R1] := ⟨_, rfl⟩
  have hpl : ((P'.length : Int) == (P.length : Int) + 1) = true := by rw [hP']; simp
  rw [← hP', ← hV'] at HTa
  have HGs : Hid (∀ (j : Nat) (e : GT), G[j]? = some e → e.A.length ≤ 100 ∧ e.D.length ≤ 100) := hide (fun j e he => by
    obtain ⟨r1, -⟩ := gateE_right (hGs j e he)
    obtain ⟨r2, -, r3, -⟩ := chkG_right r1
    unfold errS at r2
    constructor
    · by_cases h12 : 12 < e.A.length
      · rw [if_pos h12] at r2
        split at r2
        · omega
        · split at r2 <;> omega
      · omega
    · have := (chkD_right r3).2.2.1
      omega)
  have hww : IntKind.i64.wrap (g.s + 1) = g.s + 1 := by rw [IntKind.wrap_i64]; omega
  have hwp : IntKind.i64.wrap ((P.length : Int) + 1) = (P.length : Int) + 1 := by rw [IntKind.wrap_i64]; omega
  have k1 : decide ((q : Int) < 0) = false := by simp
  have k2 : decide ((G.length : Int) ≤ (q : Int)) = false := by simp; omega
  have k3 : ¬ G.length ≤ q := by omega
  have h3' : ((G.length : Int) != 3) = false := by rw [hG3]; rfl
  have h3a : G.length ≤ 3 := by omega
  have h3b : 3 ≤ G.length := by omega
  have hq : q < G.length := by omega
  have HF6 := hide (And.intro hww (And.intro k1 (And.intro k2 (And.intro k3 hT0))))
  have HF16 := hide (And.intro hpl (And.intro hwp hv'))
  have HS98 := hide hs98
  have HG3 := hide hG3
  have HW3 := hide hW3
  clear hG3 hW3 hww k1 k2 k3 hT0 hpl hwp hv' hs98
  have HG := hide hg
  have HGQ := hide hGQ
  have HNI := hide hni
  clear eP eV eG hP' hV' hGQ hni w1 w2 w3 w4 w5 w6 hal hA g1 g2 g3 g4 hGs hL hD hW0 hc hg hk hx ht h1 hv
  have HB := hide ((Blks.nil w).more (.cells #[.slice o1 T.length c1, .slice o2 P.length c2, .slice o3 V.length c3, .int .i64 dv, .slice od D.length cd, .slice (some A) G.length cg, .slice ov W.length cv] 32) (by simp))
  have Hw := hide HB.out.2.2
  have OS0 := hide (show _ = _ from HB.out.1 0 _ rfl)
  rw [Nat.add_zero] at OS0
  have HS := hide hs
  clear hs
  have cS0 : (w.alloc (.cells #[.slice o1 T.length c1, .slice o2 P.length c2, .slice o3 V.length c3, .int .i64 dv, .slice od D.length cd, .slice (some A) G.length cg, .slice ov W.length cv] 32)).cell? ⟨w.heap.size, 0, none⟩ = some (.slice o1 T.length c1) := by rw [cell_of_row _ _ 0 _ _ _ OS0.out]; rfl
  have cS1 : (w.alloc (.cells #[.slice o1 T.length c1, .slice o2 P.length c2, .slice o3 V.length c3, .int .i64 dv, .slice od D.length cd, .slice (some A) G.length cg, .slice ov W.length cv] 32)).cell? ⟨w.heap.size, 1, none⟩ = some (.slice o2 P.length c2) := by rw [cell_of_row _ _ 1 _ _ _ OS0.out]; rfl
  have cS2 : (w.alloc (.cells #[.slice o1 T.length c1, .slice o2 P.length c2, .slice o3 V.length c3, .int .i64 dv, .slice od D.length cd, .slice (some A) G.length cg, .slice ov W.length cv] 32)).cell? ⟨w.heap.size, 2, none⟩ = some (.slice o3 V.length c3) := by rw [cell_of_row _ _ 2 _ _ _ OS0.out]; rfl
  have cS3 : (w.alloc (.cells #[.slice o1 T.length c1, .slice o2 P.length c2, .slice o3 V.length c3, .int .i64 dv, .slice od D.length cd, .slice (some A) G.length cg, .slice ov W.length cv] 32)).cell? ⟨w.heap.size, 3, none⟩ = some (.int .i64 dv) := by rw [cell_of_row _ _ 3 _ _ _ OS0.out]; rfl
  have cS4 : (w.alloc (.cells #[.slice o1 T.length c1, .slice o2 P.length c2, .slice o3 V.length c3, .int .i64 dv, .slice od D.length cd, .slice (some A) G.length cg, .slice ov W.length cv] 32)).cell? ⟨w.heap.size, 4, none⟩ = some (.slice od D.length cd) := by rw [cell_of_row _ _ 4 _ _ _ OS0.out]; rfl
  have cS5 : (w.alloc (.cells #[.slice o1 T.length c1, .slice o2 P.length c2, .slice o3 V.length c3, .int .i64 dv, .slice od D.length cd, .slice (some A) G.length cg, .slice ov W.length cv] 32)).cell? ⟨w.heap.size, 5, none⟩ = some (.slice (some A) G.length cg) := by rw [cell_of_row _ _ 5 _ _ _ OS0.out]; rfl
  have cS6 : (w.alloc (.cells #[.slice o1 T.length c1, .slice o2 P.length c2, .slice o3 V.length c3, .int .i64 dv, .slice od D.length cd, .slice (some A) G.length cg, .slice ov W.length cv] 32)).cell? ⟨w.heap.size, 6, none⟩ = some (.slice ov W.length cv) := by rw [cell_of_row _ _ 6 _ _ _ OS0.out]; rfl
  go_enter Tryz.func6, Tryz.ntmps6
  go_wp2_with fail
  generalize (w.alloc (.cells #[.slice o1 T.length c1, .slice o2 P.length c2, .slice o3 V.length c3, .int .i64 dv, .slice od D.length cd, .slice (some A) G.length cg, .slice ov W.length cv] 32)) = w0 at *
  clear HB
  refine (HTa.out _ (HS.out.below Hw.out)).mono ?_
  rintro e w1 ⟨⟨x1, y1, x2, y2, x3, y3, x4, y4, x5, y5, x6, y6, G', rfl, hm, hsa, hca⟩, hb⟩
  have Bww1 := hide (Hw.out.trans (hb.mono Hw.out.size))
  have OSw1 := hide (at_below OS0.out hb)
  have zww1 : w.heap.size ≤ w1.heap.size := Bww1.out.size
  have lSw1 : w.heap.size < w1.heap.size := (Array.getElem?_eq_some_iff.1 OSw1.out).1
  clear hb Hw OS0
  have hl' : G'.length = 3 := by have := congrArg List.length hm; simpa [HG3.out] using this
  obtain ⟨g', hg', hgp⟩ : ∃ g', G'[q]? = some g' ∧ g'.p = GQ := by
    have h := congrArg (fun l => l[q]?) hm
    simp only [List.getElem?_map] at h
    rw [List.getElem?_set_self (by rw [List.length_map]; exact hq), Option.map_eq_some_iff] at h
    exact h
  have hoth : ∀ j e, j ≠ q → G[j]? = some e → ∃ e', G'[j]? = some e' ∧ e'.p = e.p := by
    intro j e hj he
    have h := congrArg (fun l => l[j]?) hm
    simp only [List.getElem?_map] at h
    rw [List.getElem?_set_ne (fun e => hj e.symm), List.getElem?_map, he, Option.map_some, Option.map_eq_some_iff] at h
    exact h
  obtain ⟨A', rfl, -⟩ := hsa.gts q g' hg'
  have HSA := hide hsa
  have HO := hide hoth
  have HG' := hide hg'
  have HGP := hide hgp
  have HCA := hide hca
  have n3 : ((G'.length : Int) != 3) = false := by rw [hl']; rfl
  have n3a : G'.length ≤ 3 := by omega
  have n3b : 3 ≤ G'.length := by omega
  have hq' : q < G'.length := by omega
  clear hsa hoth hm hl' hg' hgp hca
  clear cS0 cS1 cS2 cS3 cS4 cS5 cS6
  go_wp2_with fail
  have hb := (Below.refl w1.heap.size w1).alloc (Nat.le_refl _) (.cells #[.slice x1 T.length y1, .slice x2 P'.length y2, .slice x3 V'.length y3, .int .i64 dv, .slice x4 D.length y4, .slice (some A') G'.length y5, .slice x6 W.length y6] 32)
  have OAw1a := hide (heap_alloc_new w1 (.cells #[.slice x1 T.length y1, .slice x2 P'.length y2, .slice x3 V'.length y3, .int .i64 dv, .slice x4 D.length y4, .slice (some A') G'.length y5, .slice x6 W.length y6] 32))
  have Bww1a := hide (Bww1.out.trans (hb.mono Bww1.out.size))
  have Bw1w1a := hide hb
  have OSw1a := hide (at_below OSw1.out hb)
  clear hb Bww1 OSw1
  generalize (w1.alloc (.cells #[.slice x1 T.length y1, .slice x2 P'.length y2, .slice x3 V'.length y3, .int .i64 dv, .slice x4 D.length y4, .slice (some A') G'.length y5, .slice x6 W.length y6] 32)) = w1a at *
  have zww1a : w.heap.size ≤ w1a.heap.size := Bww1a.out.size
  have zw1w1a : w1.heap.size ≤ w1a.heap.size := Bw1w1a.out.size
  have lSw1a : w.heap.size < w1a.heap.size := (Array.getElem?_eq_some_iff.1 OSw1a.out).1
  have lAw1a : w1.heap.size < w1a.heap.size := (Array.getElem?_eq_some_iff.1 OAw1a.out).1
  refine (stationBegun_any _).mono ?_
  rintro e w2 ⟨rfl, hb⟩
  have Bww2 := hide (Bww1a.out.trans (hb.mono Bww1a.out.size))
  have Bw1w2 := hide (Bw1w1a.out.trans (hb.mono Bw1w1a.out.size))
  have OSw2 := hide (at_below OSw1a.out hb)
  have OAw2 := hide (at_below OAw1a.out hb)
  have zww2 : w.heap.size ≤ w2.heap.size := Bww2.out.size
  have zw1w2 : w1.heap.size ≤ w2.heap.size := Bw1w2.out.size
  have lSw2 : w.heap.size < w2.heap.size := (Array.getElem?_eq_some_iff.1 OSw2.out).1
  have lAw2 : w1.heap.size < w2.heap.size := (Array.getElem?_eq_some_iff.1 OAw2.out).1
  clear hb Bww1a Bw1w1a OSw1a OAw1a
  go_wp2_with fail
  refine (gateBegun_any _).mono ?_
  rintro e w3 ⟨rfl, hb⟩
  have Bww3 := hide (Bww2.out.trans (hb.mono Bww2.out.size))
  have Bw1w3 := hide (Bw1w2.out.trans (hb.mono Bw1w2.out.size))
  have OSw3 := hide (at_below OSw2.out hb)
  have OAw3 := hide (at_below OAw2.out hb)
  have zww3 : w.heap.size ≤ w3.heap.size := Bww3.out.size
  have zw1w3 : w1.heap.size ≤ w3.heap.size := Bw1w3.out.size
  have lSw3 : w.heap.size < w3.heap.size := (Array.getElem?_eq_some_iff.1 OSw3.out).1
  have lAw3 : w1.heap.size < w3.heap.size := (Array.getElem?_eq_some_iff.1 OAw3.out).1
  clear hb Bww2 Bw1w2 OSw2 OAw2
  obtain ⟨cA0, cA1, cA2, cA3, cA4, cA5, cA6⟩ := row_c7 OAw3.out
  obtain ⟨cS0, cS1, cS2, cS3, cS4, cS5, cS6⟩ := row_c7 OSw3.out
  have HSx := hide (HS.out.below Bww3.out)
  have HSAx := hide (HSA.out.below Bw1w3.out)
  obtain ⟨b1, hb1, h81, -, -⟩ := HSx.out.gts q g HG.out
  obtain rfl := Option.some.inj hb1
  obtain ⟨-, -, d2, -, -, -, -, -⟩ := h81
  clear hb1
  obtain ⟨b2, hb2, h82, -, -⟩ := HSAx.out.gts q g' HG'.out
  obtain rfl := Option.some.inj hb2
  obtain ⟨-, -, d2', -, -, -, -, -⟩ := h82
  clear hb2
  rw [show g'.s = g.s + 1 from (congrArg GP.s HGP.out).trans (by rw [HGQ.out])] at d2'
  obtain ⟨hww, k1, k2, k3, hT0⟩ := HF6.out
  have qcA0 := cell_regrown cA0
  have qcA1 := cell_regrown cA1
  have qcA2 := cell_regrown cA2
  have qcA3 := cell_regrown cA3
  have qcA4 := cell_regrown cA4
  have qcA5 := cell_regrown cA5
  have qcA6 := cell_regrown cA6
  have qcS0 := cell_regrown cS0
  have qcS1 := cell_regrown cS1
  have qcS2 := cell_regrown cS2
  have qcS3 := cell_regrown cS3
  have qcS4 := cell_regrown cS4
  have qcS5 := cell_regrown cS5
  have qcS6 := cell_regrown cS6
  have qd2 := cell_regrown d2
  have qd2' := cell_regrown d2'
  have kC : ∀ d os, Calls Tryz.prog 9 #[stV x1 x2 x3 T.length y1 P'.length y2 V'.length y3 dv x4 D.length y4 (some A') G'.length y5 x6 W.length y6] (Sort.grow (redrawn w3 d) os) fun e w'' => e = .returned (.int .i64 0) ∧ ∃ p : Regrown, w'' = Sort.grow (redrawn w3 p.d) p.os :=
    fun d os => Calls.regrown_of (by
      have h := HSAx.out.below (below_regrown w3 d os)
      have h2 := stationCheck_any T P' V' dv D G' W x1 x2 x3 x4 (some A') x6 y1 y2 y3 y4 y5 y6 _ h.led h.lok h.den.1 h.den.2.1 h.gts h.gok h.vws h.vln
      rw [HCA.out] at h2
      exact h2)
  have kD : ∀ d os, Calls Tryz.prog 25 #[dn dv x4 D.length y4, dn dv od D.length cd] (Sort.grow (redrawn w3 d) os) fun e w'' => e = .returned (.bool true) ∧ ∃ p : Regrown, w'' = Sort.grow (redrawn w3 p.d) p.os :=
    fun d os => Calls.regrown_of (sameDenied_same dv D x4 od y4 cd _ (HSAx.out.below (below_regrown w3 d os)).den.1 (HSx.out.below (below_regrown w3 d os)).den.1 (by omega))
  have kV : ∀ d os, Calls Tryz.prog 28 #[.slice x6 W.length y6, .slice ov W.length cv] (Sort.grow (redrawn w3 d) os) fun e w'' => e = .returned (.bool true) ∧ ∃ p : Regrown, w'' = Sort.grow (redrawn w3 p.d) p.os :=
    fun d os => Calls.regrown_of (sameViews_same W x6 ov y6 cv _ (HSAx.out.below (below_regrown w3 d os)).vws (HSx.out.below (below_regrown w3 d os)).vws (by rw [HW3.out]; decide))
  go_wp2_with fail
  refine wp_region_quiet_below (by kernel_rfl) (by kernel_rfl) ?_
  simp only [List.append]
  repeat (go_big_quiet_step (first | exact kC _ _ | exact kD _ _ | exact kV _ _))
  refine wpQuiet_nil ?_
  intro _ hw'
  obtain ⟨⟨dq, osq⟩, hw''⟩ := hw'
  subst hw''
  have hb := below_regrown w3 dq osq
  clear qcA0 cA0 qcA1 cA1 qcA2 cA2 qcA3 cA3 qcA4 cA4 qcA5 cA5 qcA6 cA6 qcS0 cS0 qcS1 cS1 qcS2 cS2 qcS3 cS3 qcS4 cS4 qcS5 cS5 qcS6 cS6 qd2 d2 qd2' d2' kC kD kV
  have Bww4 := hide (Bww3.out.trans (hb.mono Bww3.out.size))
  have Bw1w4 := hide (Bw1w3.out.trans (hb.mono Bw1w3.out.size))
  have OSw4 := hide (at_below OSw3.out hb)
  have OAw4 := hide (at_below OAw3.out hb)
  clear hb Bww3 Bw1w3 OSw3 OAw3
  generalize (Sort.grow (redrawn w3 dq) osq) = w4 at *
  have zww4 : w.heap.size ≤ w4.heap.size := Bww4.out.size
  have zw1w4 : w1.heap.size ≤ w4.heap.size := Bw1w4.out.size
  have lSw4 : w.heap.size < w4.heap.size := (Array.getElem?_eq_some_iff.1 OSw4.out).1
  have lAw4 : w1.heap.size < w4.heap.size := (Array.getElem?_eq_some_iff.1 OAw4.out).1
  clear HSx HSAx hww k1 k2 k3 hT0
  go_wp2_with fail
  go_loopw [12] (fun j wr => ∃ (p : Nat), p ≤ 3 ∧ j = .int .i64 p ∧ Hid (Below w4.heap.size w4 wr)) (fun j _ => 3 - (intOf j).toNat)
  case atStart => exact ⟨0, by omega, rfl, hide (Below.refl _ _)⟩
  case round =>
    obtain ⟨p, hp, rfl, HR⟩ := hrel
    have hb := HR.out
    have Bwwr := hide (Bww4.out.trans (hb.mono Bww4.out.size))
    have Bw1wr := hide (Bw1w4.out.trans (hb.mono Bw1w4.out.size))
    have Bw4wr := hide hb
    have OSwr := hide (at_below OSw4.out hb)
    have OAwr := hide (at_below OAw4.out hb)
    clear hb Bww4 Bw1w4 OSw4 OAw4
    have zwwr : w.heap.size ≤ wr.heap.size := Bwwr.out.size
    have zw1wr : w1.heap.size ≤ wr.heap.size := Bw1wr.out.size
    have zw4wr : w4.heap.size ≤ wr.heap.size := Bw4wr.out.size
    have lSwr : w.heap.size < wr.heap.size := (Array.getElem?_eq_some_iff.1 OSwr.out).1
    have lAwr : w1.heap.size < wr.heap.size := (Array.getElem?_eq_some_iff.1 OAwr.out).1
    clear HR
    obtain ⟨cA0, cA1, cA2, cA3, cA4, cA5, cA6⟩ := row_c7 OAwr.out
    obtain ⟨cS0, cS1, cS2, cS3, cS4, cS5, cS6⟩ := row_c7 OSwr.out
    have HSx := hide (HS.out.below Bwwr.out)
    have HSAx := hide (HSA.out.below Bw1wr.out)
    by_cases hgo : p < 3
    · by_cases hpq : p = q
      · have hd : ((p : Int) != (q : Int)) = false := by subst hpq; simp
        have qcA0 := cell_regrown cA0
        have qcA1 := cell_regrown cA1
        have qcA2 := cell_regrown cA2
        have qcA3 := cell_regrown cA3
        have qcA4 := cell_regrown cA4
        have qcA5 := cell_regrown cA5
        have qcA6 := cell_regrown cA6
        have qcS0 := cell_regrown cS0
        have qcS1 := cell_regrown cS1
        have qcS2 := cell_regrown cS2
        have qcS3 := cell_regrown cS3
        have qcS4 := cell_regrown cS4
        have qcS5 := cell_regrown cS5
        have qcS6 := cell_regrown cS6
        clear hpq
        go_wp2_with fail
        refine wp_region_quiet_below (by kernel_rfl) (by kernel_rfl) ?_
        repeat (go_big_quiet_step (first | fail))
        refine wpQuiet_nil ?_
        intro _ hw'
        obtain ⟨⟨dq, osq⟩, hw''⟩ := hw'
        subst hw''
        have hb := below_regrown wr dq osq
        clear qcA0 cA0 qcA1 cA1 qcA2 cA2 qcA3 cA3 qcA4 cA4 qcA5 cA5 qcA6 cA6 qcS0 cS0 qcS1 cS1 qcS2 cS2 qcS3 cS3 qcS4 cS4 qcS5 cS5 qcS6 cS6 
        have Bwwq := hide (Bwwr.out.trans (hb.mono Bwwr.out.size))
        have Bw1wq := hide (Bw1wr.out.trans (hb.mono Bw1wr.out.size))
        have Bw4wq := hide (Bw4wr.out.trans (hb.mono Bw4wr.out.size))
        have OSwq := hide (at_below OSwr.out hb)
        have OAwq := hide (at_below OAwr.out hb)
        clear hb Bwwr Bw1wr Bw4wr OSwr OAwr
        generalize (Sort.grow (redrawn wr dq) osq) = wq at *
        have zwwq : w.heap.size ≤ wq.heap.size := Bwwq.out.size
        have zw1wq : w1.heap.size ≤ wq.heap.size := Bw1wq.out.size
        have zw4wq : w4.heap.size ≤ wq.heap.size := Bw4wq.out.size
        have lSwq : w.heap.size < wq.heap.size := (Array.getElem?_eq_some_iff.1 OSwq.out).1
        have lAwq : w1.heap.size < wq.heap.size := (Array.getElem?_eq_some_iff.1 OAwq.out).1
        go_wp2_with fail
        exact ⟨⟨p + 1, by omega, by simp, Bw4wq⟩, by simp [intOf]; omega⟩
      · have hd : ((p : Int) != (q : Int)) = true := by simp only [bne_iff_ne, ne_eq]; omega
        obtain ⟨e0, he0⟩ : ∃ e0, G[p]? = some e0 := ⟨_, List.getElem?_eq_getElem (by omega)⟩
        obtain ⟨e1, he1, hep⟩ := HO.out p e0 hpq he0
        have hok := HSx.out.gok e0 (List.mem_of_getElem? he0)
        have hch := (HGs.out p e0 he0)
        obtain ⟨b1, hb1, h81, ha1, hi1⟩ := HSx.out.gts p e0 he0
        obtain rfl := Option.some.inj hb1
        obtain ⟨b2, hb2, h82, ha2, hi2⟩ := HSAx.out.gts p e1 he1
        obtain rfl := Option.some.inj hb2
        clear hb1 hb2 he0 he1
        obtain ⟨ei, ez, es, eoa, eA, eca, ev, eod, eD, ecd, el, eu⟩ := e0
        obtain ⟨fi, fz, fs, foa, fA, fca, fv, fod, fD, fcd, fl, fu⟩ := e1
        simp only [GT.p, GP.mk.injEq] at hep
        obtain ⟨rfl, rfl, rfl, rfl, rfl, rfl, rfl, rfl⟩ := hep
        obtain ⟨s0, s1, s2, s3, s4, s5, s6, s7⟩ := h81
        obtain ⟨t0, t1, t2, t3, t4, t5, t6, t7⟩ := h82
        simp only at s0 s1 s2 s3 s4 s5 s6 s7 t0 t1 t2 t3 t4 t5 t6 t7 ha1 ha2 hi1 hi2 hch
        have Ha1 := hide ha1
        have Ha2 := hide ha2
        have Hi1 := hide hi1
        have Hi2 := hide hi2
        clear ha1 ha2 hi1 hi2 hok
        have qcA0 := cell_regrown cA0
        have qcA1 := cell_regrown cA1
        have qcA2 := cell_regrown cA2
        have qcA3 := cell_regrown cA3
        have qcA4 := cell_regrown cA4
        have qcA5 := cell_regrown cA5
        have qcA6 := cell_regrown cA6
        have qcS0 := cell_regrown cS0
        have qcS1 := cell_regrown cS1
        have qcS2 := cell_regrown cS2
        have qcS3 := cell_regrown cS3
        have qcS4 := cell_regrown cS4
        have qcS5 := cell_regrown cS5
        have qcS6 := cell_regrown cS6
        have qs0 := cell_regrown s0
        have qs1 := cell_regrown s1
        have qs2 := cell_regrown s2
        have qs3 := cell_regrown s3
        have qs4 := cell_regrown s4
        have qs5 := cell_regrown s5
        have qs6 := cell_regrown s6
        have qs7 := cell_regrown s7
        have qt0 := cell_regrown t0
        have qt1 := cell_regrown t1
        have qt2 := cell_regrown t2
        have qt3 := cell_regrown t3
        have qt4 := cell_regrown t4
        have qt5 := cell_regrown t5
        have qt6 := cell_regrown t6
        have qt7 := cell_regrown t7
        have kG : ∀ d os, Calls Tryz.prog 29 #[gtV fi fz fs foa fA.length fca fv fod fD.length fcd fl fu, gtV fi fz fs eoa fA.length eca fv eod fD.length ecd fl fu] (Sort.grow (redrawn wr d) os) fun e w'' => e = .returned (.bool true) ∧ ∃ p : Regrown, w'' = Sort.grow (redrawn wr p.d) p.os :=
          fun d os => Calls.regrown_of (sameGate_same fi fz fs fA fv fD fl fu foa eoa fod eod fca eca fcd ecd _ (Ha2.out.below (below_regrown wr d os)).ats (Ha1.out.below (below_regrown wr d os)).ats (Hi2.out.below (below_regrown wr d os)).ats (Hi1.out.below (below_regrown wr d os)).ats hch.1 hch.2)
        go_wp2_with fail
        refine wp_region_quiet_below (by kernel_rfl) (by kernel_rfl) ?_
        repeat (go_big_quiet_step (first | exact kG _ _))
        refine wpQuiet_nil ?_
        intro _ hw'
        obtain ⟨⟨dq, osq⟩, hw''⟩ := hw'
        subst hw''
        have hb := below_regrown wr dq osq
        clear qcA0 cA0 qcA1 cA1 qcA2 cA2 qcA3 cA3 qcA4 cA4 qcA5 cA5 qcA6 cA6 qcS0 cS0 qcS1 cS1 qcS2 cS2 qcS3 cS3 qcS4 cS4 qcS5 cS5 qcS6 cS6 qs0 s0 qs1 s1 qs2 s2 qs3 s3 qs4 s4 qs5 s5 qs6 s6 qs7 s7 qt0 t0 qt1 t1 qt2 t2 qt3 t3 qt4 t4 qt5 t5 qt6 t6 qt7 t7 kG
        have Bwwq := hide (Bwwr.out.trans (hb.mono Bwwr.out.size))
        have Bw1wq := hide (Bw1wr.out.trans (hb.mono Bw1wr.out.size))
        have Bw4wq := hide (Bw4wr.out.trans (hb.mono Bw4wr.out.size))
        have OSwq := hide (at_below OSwr.out hb)
        have OAwq := hide (at_below OAwr.out hb)
        clear hb Bwwr Bw1wr Bw4wr OSwr OAwr
        generalize (Sort.grow (redrawn wr dq) osq) = wq at *
        have zwwq : w.heap.size ≤ wq.heap.size := Bwwq.out.size
        have zw1wq : w1.heap.size ≤ wq.heap.size := Bw1wq.out.size
        have zw4wq : w4.heap.size ≤ wq.heap.size := Bw4wq.out.size
        have lSwq : w.heap.size < wq.heap.size := (Array.getElem?_eq_some_iff.1 OSwq.out).1
        have lAwq : w1.heap.size < wq.heap.size := (Array.getElem?_eq_some_iff.1 OAwq.out).1
        go_wp2_with fail
        exact ⟨⟨p + 1, by omega, by simp, Bw4wq⟩, by simp [intOf]; omega⟩
    · obtain rfl : p = 3 := by omega
      clear hgo hp
      obtain ⟨b2, hb2, h82, -, -⟩ := HSAx.out.gts q g' HG'.out
      obtain rfl := Option.some.inj hb2
      obtain ⟨-, -, -, d3, -, -, -, -⟩ := h82
      clear hb2
      rw [show g'.A = [] from (congrArg GP.A HGP.out).trans (by rw [HGQ.out])] at d3
      obtain ⟨hpl, hwp, hv'⟩ := HF16.out
      go_wp2_with fail
      refine (hasInt_any D id od cd _ HSx.out.den.1 HSx.out.den.2.1).mono ?_
      rintro e w5 ⟨rfl, hw⟩
      obtain rfl := hw.symm
      rw [HNI.out]
      go_wp2_with fail
      go_ret
      exact ⟨rfl, Bwwr.out⟩
end Go.Proofs.YtcjfmbeemdcklaaGreat

/-
  'SameTickets', 'SameInts', 'SameLedger' (package leeboardref), of the same ones.
-/
namespace Go.Proofs.YtcjfmbeemdcklaaGreat
open Go.RowKit
set_option maxHeartbeats 3200000 in
set_option maxRecDepth 100000 in
theorem sameTickets_same (L : List TK) (o o' : Option Addr) (c c' : Nat) (w : World) (hL : TiksAt w o L) (hM : TiksAt w o' L) (hlen : L.length ≤ 100) :
    Calls Tryz.prog 85 #[.slice o L.length c, .slice o' L.length c'] w fun e w' => e = .returned (.bool true) ∧ Below w.heap.size w w' := by
  have HL := hide hL
  have HM := hide hM
  clear hL hM
  go_enter Tryz.func85, Tryz.ntmps85
  go_wp2_with fail
  go_loopw [5] (fun j wr => ∃ (q : Nat), q ≤ L.length ∧ j = .int .i64 q ∧ Below w.heap.size w wr) (fun j _ => L.length - (intOf j).toNat)
  case atStart => exact ⟨0, Nat.zero_le _, rfl, Below.refl _ _⟩
  case round =>
    obtain ⟨q, hq, rfl, hbr⟩ := hrel
    by_cases hgo : q < L.length
    · obtain ⟨p, hp⟩ : ∃ p, L[q]? = some p := ⟨L[q], by simp [hgo]⟩
      obtain ⟨A, rfl, c0, c1, c2, c3, c4, c5⟩ := (HL.out.below hbr) q p hp
      obtain ⟨A', rfl, d0, d1, d2, d3, d4, d5⟩ := (HM.out.below hbr) q p hp
      clear hp
      go_wp2_with fail
      go_region
      go_wp2_with fail
      exact ⟨⟨q + 1, by omega, by simp, hbr.drew⟩, by simp [intOf]; omega⟩
    · go_wp2_with fail
      go_ret
      exact ⟨rfl, hbr⟩
set_option maxHeartbeats 3200000 in
set_option maxRecDepth 100000 in
theorem sameLedger_same (T : List TK) (P : List TP) (V : List Int) (o1 o2 o3 q1 q2 q3 : Option Addr) (c1 c2 c3 d1 d2 d3 : Nat) (w : World) (h1 : TiksAt w o1 T) (h2 : TapsAt w o2 P) (h3 : IntsAt w o3 V) (g1 : TiksAt w q1 T) (g2 : TapsAt w q2 P) (g3 : IntsAt w q3 V)
    (l1 : T.length ≤ 100) (l2 : P.length ≤ 100) (l3 : V.length ≤ 100) :
    Calls Tryz.prog 32 #[lg o1 o2 o3 T.length c1 P.length c2 V.length c3, lg q1 q2 q3 T.length d1 P.length d2 V.length d3] w fun e w' => e = .returned (.bool true) ∧ Below w.heap.size w w' := by
  have HA := hide (fun W (h : TiksAt W o1 T) (g : TiksAt W q1 T) => sameTickets_same T o1 q1 c1 d1 W h g l1)
  have HB := hide (fun W (h : TapsAt W o2 P) (g : TapsAt W q2 P) => sameTaps_same P o2 q2 c2 d2 W h g l2)
  have HC := hide (fun W (h : IntsAt W o3 V) (g : IntsAt W q3 V) => sameInts_same V o3 q3 c3 d3 W h g l3)
  have H1 := hide (And.intro h1 g1)
  have H2 := hide (And.intro h2 g2)
  have H3 := hide (And.intro h3 g3)
  clear h1 h2 h3 g1 g2 g3
  go_enter Tryz.func32, Tryz.ntmps32
  go_wp2_with fail
  have hb0 : Below w.heap.size w ((w.alloc (cL o1 o2 o3 T.length c1 P.length c2 V.length c3 26)).alloc (cL q1 q2 q3 T.length d1 P.length d2 V.length d3 26)) := ((Below.refl _ _).alloc (Nat.le_refl _) _).alloc (by simp) _
  have HL1 : Hid (Led3 ((w.alloc (cL o1 o2 o3 T.length c1 P.length c2 V.length c3 26)).alloc (cL q1 q2 q3 T.length d1 P.length d2 V.length d3 26)) w.heap.size o1 o2 o3 T.length c1 P.length c2 V.length c3) := hide ⟨by simp [go_sem], by simp [go_sem], by simp [go_sem]⟩
  have HL2 : Hid (Led3 ((w.alloc (cL o1 o2 o3 T.length c1 P.length c2 V.length c3 26)).alloc (cL q1 q2 q3 T.length d1 P.length d2 V.length d3 26)) (w.heap.size + 1) q1 q2 q3 T.length d1 P.length d2 V.length d3) := hide ⟨by simp [go_sem], by simp [go_sem], by simp [go_sem]⟩
  have HB0 := hide hb0
  clear hb0
  generalize (w.alloc (cL o1 o2 o3 T.length c1 P.length c2 V.length c3 26)).alloc (cL q1 q2 q3 T.length d1 P.length d2 V.length d3 26) = w1 at *
  refine (HA.out _ (H1.out.1.below HB0.out) (H1.out.2.below HB0.out)).mono ?_
  rintro e w2 ⟨rfl, hb2⟩
  have HB2 := hide (HB0.out.trans (hb2.mono HB0.out.size))
  have HL3 := hide (HL1.out.below hb2 HL1.out.lt)
  have HL4 := hide (HL2.out.below hb2 HL2.out.lt)
  clear hb2 HL1 HL2 HB0
  obtain ⟨x0, x1, x2⟩ := HL3.out
  obtain ⟨y0, y1, y2⟩ := HL4.out
  go_wp2_with fail
  refine (HB.out _ (H2.out.1.below HB2.out) (H2.out.2.below HB2.out)).mono ?_
  rintro e w3 ⟨rfl, hb3⟩
  have HB3 := hide (HB2.out.trans (hb3.mono HB2.out.size))
  have HL5 := hide (HL3.out.below hb3 HL3.out.lt)
  have HL6 := hide (HL4.out.below hb3 HL4.out.lt)
  clear hb3 HL3 HL4 HB2 x0 x1 x2 y0 y1 y2
  obtain ⟨x0, x1, x2⟩ := HL5.out
  obtain ⟨y0, y1, y2⟩ := HL6.out
  go_wp2_with fail
  refine (HC.out _ (H3.out.1.below HB3.out) (H3.out.2.below HB3.out)).mono ?_
  rintro e w4 ⟨rfl, hb4⟩
  have HB4 := hide (HB3.out.trans (hb4.mono HB3.out.size))
  clear hb4 HL5 HL6 HB3 x0 x1 x2 y0 y1 y2
  go_wp2_with fail
  go_ret
  exact ⟨rfl, HB4.out⟩
end Go.Proofs.YtcjfmbeemdcklaaGreat

/-
  Stores of a whole struct into a block, in one sentence each.
-/
namespace Go.Proofs.YtcjfmbeemdcklaaGreat
open Go.RowKit
theorem csG {w : World} {b : Nat} {T : TypeId} {z0 z1 z2 z3 z4 z5 z6 z7 : Value} (h : w.heap[b]? = some (.cells #[z0, z1, z2, z3, z4, z5, z6, z7] T (0, 0))) :
    w.cell? ⟨b, 0, none⟩ = some z0 ∧ w.cell? ⟨b, 1, none⟩ = some z1 ∧ w.cell? ⟨b, 2, none⟩ = some z2 ∧ w.cell? ⟨b, 3, none⟩ = some z3 ∧ w.cell? ⟨b, 4, none⟩ = some z4 ∧ w.cell? ⟨b, 5, none⟩ = some z5 ∧ w.cell? ⟨b, 6, none⟩ = some z6 ∧ w.cell? ⟨b, 7, none⟩ = some z7 ∧ w.frozen? ⟨b, 0, none⟩ = false ∧ w.frozen? ⟨b, 1, none⟩ = false ∧ w.frozen? ⟨b, 2, none⟩ = false ∧ w.frozen? ⟨b, 3, none⟩ = false ∧ w.frozen? ⟨b, 4, none⟩ = false ∧ w.frozen? ⟨b, 5, none⟩ = false ∧ w.frozen? ⟨b, 6, none⟩ = false ∧ w.frozen? ⟨b, 7, none⟩ = false := by
  refine ⟨?_, ?_, ?_, ?_, ?_, ?_, ?_, ?_, ?_, ?_, ?_, ?_, ?_, ?_, ?_, ?_⟩
  · rw [cell_of_row _ _ 0 _ _ _ h]; rfl
  · rw [cell_of_row _ _ 1 _ _ _ h]; rfl
  · rw [cell_of_row _ _ 2 _ _ _ h]; rfl
  · rw [cell_of_row _ _ 3 _ _ _ h]; rfl
  · rw [cell_of_row _ _ 4 _ _ _ h]; rfl
  · rw [cell_of_row _ _ 5 _ _ _ h]; rfl
  · rw [cell_of_row _ _ 6 _ _ _ h]; rfl
  · rw [cell_of_row _ _ 7 _ _ _ h]; rfl
  · exact frozen_of_row _ _ 0 _ _ h
  · exact frozen_of_row _ _ 1 _ _ h
  · exact frozen_of_row _ _ 2 _ _ h
  · exact frozen_of_row _ _ 3 _ _ h
  · exact frozen_of_row _ _ 4 _ _ h
  · exact frozen_of_row _ _ 5 _ _ h
  · exact frozen_of_row _ _ 6 _ _ h
  · exact frozen_of_row _ _ 7 _ _ h
set_option maxHeartbeats 6400000 in
theorem stG {w : World} {b : Nat} {T : TypeId} {z0 z1 z2 z3 z4 z5 z6 z7 : Value} (h : w.heap[b]? = some (.cells #[z0, z1, z2, z3, z4, z5, z6, z7] T (0, 0))) (x : GT) : ((((((((w.setCell ⟨b, 0, none⟩ (.int .i64 x.i)).setCell ⟨b, 1, none⟩ (.int .i64 x.z)).setCell ⟨b, 2, none⟩ (.int .i64 x.s)).setCell ⟨b, 3, none⟩ (.slice x.oa x.A.length x.ca)).setCell ⟨b, 4, none⟩ (.int .i64 x.v)).setCell ⟨b, 5, none⟩ (.slice x.od x.D.length x.cd)).setCell ⟨b, 6, none⟩ (.int .i64 x.l)).setCell ⟨b, 7, none⟩ (.int .i64 x.u)).heap[b]? = some (.cells #[.int .i64 x.i, .int .i64 x.z, .int .i64 x.s, .slice x.oa x.A.length x.ca, .int .i64 x.v, .slice x.od x.D.length x.cd, .int .i64 x.l, .int .i64 x.u] T (0, 0)) := (heap_setCell_same _ b 7 _ _ (.int .i64 x.u) (heap_setCell_same _ b 6 _ _ (.int .i64 x.l) (heap_setCell_same _ b 5 _ _ (.slice x.od x.D.length x.cd) (heap_setCell_same _ b 4 _ _ (.int .i64 x.v) (heap_setCell_same _ b 3 _ _ (.slice x.oa x.A.length x.ca) (heap_setCell_same _ b 2 _ _ (.int .i64 x.s) (heap_setCell_same _ b 1 _ _ (.int .i64 x.z) (heap_setCell_same _ b 0 _ _ (.int .i64 x.i) h))))))))
theorem soG {w : World} {b q : Nat} {oo : Obj} (h : w.heap[q]? = some oo) (hn : b ≠ q) (x : GT) : ((((((((w.setCell ⟨b, 0, none⟩ (.int .i64 x.i)).setCell ⟨b, 1, none⟩ (.int .i64 x.z)).setCell ⟨b, 2, none⟩ (.int .i64 x.s)).setCell ⟨b, 3, none⟩ (.slice x.oa x.A.length x.ca)).setCell ⟨b, 4, none⟩ (.int .i64 x.v)).setCell ⟨b, 5, none⟩ (.slice x.od x.D.length x.cd)).setCell ⟨b, 6, none⟩ (.int .i64 x.l)).setCell ⟨b, 7, none⟩ (.int .i64 x.u)).heap[q]? = some oo := (heap_setO (heap_setO (heap_setO (heap_setO (heap_setO (heap_setO (heap_setO (heap_setO h (p := ⟨b, 0, none⟩) hn (.int .i64 x.i)) (p := ⟨b, 1, none⟩) hn (.int .i64 x.z)) (p := ⟨b, 2, none⟩) hn (.int .i64 x.s)) (p := ⟨b, 3, none⟩) hn (.slice x.oa x.A.length x.ca)) (p := ⟨b, 4, none⟩) hn (.int .i64 x.v)) (p := ⟨b, 5, none⟩) hn (.slice x.od x.D.length x.cd)) (p := ⟨b, 6, none⟩) hn (.int .i64 x.l)) (p := ⟨b, 7, none⟩) hn (.int .i64 x.u))
theorem sbG {a w : World} {b B : Nat} (h : Below B a w) (hn : B ≤ b) (x : GT) : Below B a ((((((((w.setCell ⟨b, 0, none⟩ (.int .i64 x.i)).setCell ⟨b, 1, none⟩ (.int .i64 x.z)).setCell ⟨b, 2, none⟩ (.int .i64 x.s)).setCell ⟨b, 3, none⟩ (.slice x.oa x.A.length x.ca)).setCell ⟨b, 4, none⟩ (.int .i64 x.v)).setCell ⟨b, 5, none⟩ (.slice x.od x.D.length x.cd)).setCell ⟨b, 6, none⟩ (.int .i64 x.l)).setCell ⟨b, 7, none⟩ (.int .i64 x.u)) := ((((((((h.setCell (p := ⟨b, 0, none⟩) hn (.int .i64 x.i)).setCell (p := ⟨b, 1, none⟩) hn (.int .i64 x.z)).setCell (p := ⟨b, 2, none⟩) hn (.int .i64 x.s)).setCell (p := ⟨b, 3, none⟩) hn (.slice x.oa x.A.length x.ca)).setCell (p := ⟨b, 4, none⟩) hn (.int .i64 x.v)).setCell (p := ⟨b, 5, none⟩) hn (.slice x.od x.D.length x.cd)).setCell (p := ⟨b, 6, none⟩) hn (.int .i64 x.l)).setCell (p := ⟨b, 7, none⟩) hn (.int .i64 x.u))
theorem snG {w : World} {b F : Nat} {x : GT} (h : Gn F w x) (hn : GOff x b) (y : GT) : Gn F ((((((((w.setCell ⟨b, 0, none⟩ (.int .i64 y.i)).setCell ⟨b, 1, none⟩ (.int .i64 y.z)).setCell ⟨b, 2, none⟩ (.int .i64 y.s)).setCell ⟨b, 3, none⟩ (.slice y.oa y.A.length y.ca)).setCell ⟨b, 4, none⟩ (.int .i64 y.v)).setCell ⟨b, 5, none⟩ (.slice y.od y.D.length y.cd)).setCell ⟨b, 6, none⟩ (.int .i64 y.l)).setCell ⟨b, 7, none⟩ (.int .i64 y.u)) x := ((((((((h.setO (p := ⟨b, 0, none⟩) hn (.int .i64 y.i)).setO (p := ⟨b, 1, none⟩) hn (.int .i64 y.z)).setO (p := ⟨b, 2, none⟩) hn (.int .i64 y.s)).setO (p := ⟨b, 3, none⟩) hn (.slice y.oa y.A.length y.ca)).setO (p := ⟨b, 4, none⟩) hn (.int .i64 y.v)).setO (p := ⟨b, 5, none⟩) hn (.slice y.od y.D.length y.cd)).setO (p := ⟨b, 6, none⟩) hn (.int .i64 y.l)).setO (p := ⟨b, 7, none⟩) hn (.int .i64 y.u))
theorem zaG (w : World) : Below w.heap.size w (w.alloc (.cells #[.int .i64 0, .int .i64 0, .int .i64 0, .slice none 0 0, .int .i64 0, .slice none 0 0, .int .i64 0, .int .i64 0] 49)) := (Below.refl w.heap.size w).alloc (Nat.le_refl _) (.cells #[.int .i64 0, .int .i64 0, .int .i64 0, .slice none 0 0, .int .i64 0, .slice none 0 0, .int .i64 0, .int .i64 0] 49)
theorem znG (w : World) : (w.alloc (.cells #[.int .i64 0, .int .i64 0, .int .i64 0, .slice none 0 0, .int .i64 0, .slice none 0 0, .int .i64 0, .int .i64 0] 49)).heap[w.heap.size]? = some (.cells #[.int .i64 0, .int .i64 0, .int .i64 0, .slice none 0 0, .int .i64 0, .slice none 0 0, .int .i64 0, .int .i64 0] 49) := heap_alloc_new w _
theorem zlG (w : World) : w.heap.size < (w.alloc (.cells #[.int .i64 0, .int .i64 0, .int .i64 0, .slice none 0 0, .int .i64 0, .slice none 0 0, .int .i64 0, .int .i64 0] 49)).heap.size := by simp
theorem csT {w : World} {b : Nat} {T : TypeId} {z0 z1 z2 z3 z4 : Value} (h : w.heap[b]? = some (.cells #[z0, z1, z2, z3, z4] T (0, 0))) :
    w.cell? ⟨b, 0, none⟩ = some z0 ∧ w.cell? ⟨b, 1, none⟩ = some z1 ∧ w.cell? ⟨b, 2, none⟩ = some z2 ∧ w.cell? ⟨b, 3, none⟩ = some z3 ∧ w.cell? ⟨b, 4, none⟩ = some z4 ∧ w.frozen? ⟨b, 0, none⟩ = false ∧ w.frozen? ⟨b, 1, none⟩ = false ∧ w.frozen? ⟨b, 2, none⟩ = false ∧ w.frozen? ⟨b, 3, none⟩ = false ∧ w.frozen? ⟨b, 4, none⟩ = false := by
  refine ⟨?_, ?_, ?_, ?_, ?_, ?_, ?_, ?_, ?_, ?_⟩
  · rw [cell_of_row _ _ 0 _ _ _ h]; rfl
  · rw [cell_of_row _ _ 1 _ _ _ h]; rfl
  · rw [cell_of_row _ _ 2 _ _ _ h]; rfl
  · rw [cell_of_row _ _ 3 _ _ _ h]; rfl
  · rw [cell_of_row _ _ 4 _ _ _ h]; rfl
  · exact frozen_of_row _ _ 0 _ _ h
  · exact frozen_of_row _ _ 1 _ _ h
  · exact frozen_of_row _ _ 2 _ _ h
  · exact frozen_of_row _ _ 3 _ _ h
  · exact frozen_of_row _ _ 4 _ _ h
set_option maxHeartbeats 6400000 in
theorem stT {w : World} {b : Nat} {T : TypeId} {z0 z1 z2 z3 z4 : Value} (h : w.heap[b]? = some (.cells #[z0, z1, z2, z3, z4] T (0, 0))) (x : TP) : (((((w.setCell ⟨b, 0, none⟩ (.int .i64 x.a)).setCell ⟨b, 1, none⟩ (.int .i64 x.g)).setCell ⟨b, 2, none⟩ (.int .i64 x.s)).setCell ⟨b, 3, none⟩ (.int .i64 x.m)).setCell ⟨b, 4, none⟩ (.int .i64 x.z)).heap[b]? = some (.cells #[.int .i64 x.a, .int .i64 x.g, .int .i64 x.s, .int .i64 x.m, .int .i64 x.z] T (0, 0)) := (heap_setCell_same _ b 4 _ _ (.int .i64 x.z) (heap_setCell_same _ b 3 _ _ (.int .i64 x.m) (heap_setCell_same _ b 2 _ _ (.int .i64 x.s) (heap_setCell_same _ b 1 _ _ (.int .i64 x.g) (heap_setCell_same _ b 0 _ _ (.int .i64 x.a) h)))))
theorem soT {w : World} {b q : Nat} {oo : Obj} (h : w.heap[q]? = some oo) (hn : b ≠ q) (x : TP) : (((((w.setCell ⟨b, 0, none⟩ (.int .i64 x.a)).setCell ⟨b, 1, none⟩ (.int .i64 x.g)).setCell ⟨b, 2, none⟩ (.int .i64 x.s)).setCell ⟨b, 3, none⟩ (.int .i64 x.m)).setCell ⟨b, 4, none⟩ (.int .i64 x.z)).heap[q]? = some oo := (heap_setO (heap_setO (heap_setO (heap_setO (heap_setO h (p := ⟨b, 0, none⟩) hn (.int .i64 x.a)) (p := ⟨b, 1, none⟩) hn (.int .i64 x.g)) (p := ⟨b, 2, none⟩) hn (.int .i64 x.s)) (p := ⟨b, 3, none⟩) hn (.int .i64 x.m)) (p := ⟨b, 4, none⟩) hn (.int .i64 x.z))
theorem sbT {a w : World} {b B : Nat} (h : Below B a w) (hn : B ≤ b) (x : TP) : Below B a (((((w.setCell ⟨b, 0, none⟩ (.int .i64 x.a)).setCell ⟨b, 1, none⟩ (.int .i64 x.g)).setCell ⟨b, 2, none⟩ (.int .i64 x.s)).setCell ⟨b, 3, none⟩ (.int .i64 x.m)).setCell ⟨b, 4, none⟩ (.int .i64 x.z)) := (((((h.setCell (p := ⟨b, 0, none⟩) hn (.int .i64 x.a)).setCell (p := ⟨b, 1, none⟩) hn (.int .i64 x.g)).setCell (p := ⟨b, 2, none⟩) hn (.int .i64 x.s)).setCell (p := ⟨b, 3, none⟩) hn (.int .i64 x.m)).setCell (p := ⟨b, 4, none⟩) hn (.int .i64 x.z))
theorem snT {w : World} {b F : Nat} {x : GT} (h : Gn F w x) (hn : GOff x b) (y : TP) : Gn F (((((w.setCell ⟨b, 0, none⟩ (.int .i64 y.a)).setCell ⟨b, 1, none⟩ (.int .i64 y.g)).setCell ⟨b, 2, none⟩ (.int .i64 y.s)).setCell ⟨b, 3, none⟩ (.int .i64 y.m)).setCell ⟨b, 4, none⟩ (.int .i64 y.z)) x := (((((h.setO (p := ⟨b, 0, none⟩) hn (.int .i64 y.a)).setO (p := ⟨b, 1, none⟩) hn (.int .i64 y.g)).setO (p := ⟨b, 2, none⟩) hn (.int .i64 y.s)).setO (p := ⟨b, 3, none⟩) hn (.int .i64 y.m)).setO (p := ⟨b, 4, none⟩) hn (.int .i64 y.z))
theorem zaT (w : World) : Below w.heap.size w (w.alloc (.cells #[.int .i64 0, .int .i64 0, .int .i64 0, .int .i64 0, .int .i64 0] 58)) := (Below.refl w.heap.size w).alloc (Nat.le_refl _) (.cells #[.int .i64 0, .int .i64 0, .int .i64 0, .int .i64 0, .int .i64 0] 58)
theorem znT (w : World) : (w.alloc (.cells #[.int .i64 0, .int .i64 0, .int .i64 0, .int .i64 0, .int .i64 0] 58)).heap[w.heap.size]? = some (.cells #[.int .i64 0, .int .i64 0, .int .i64 0, .int .i64 0, .int .i64 0] 58) := heap_alloc_new w _
theorem zlT (w : World) : w.heap.size < (w.alloc (.cells #[.int .i64 0, .int .i64 0, .int .i64 0, .int .i64 0, .int .i64 0] 58)).heap.size := by simp
end Go.Proofs.YtcjfmbeemdcklaaGreat

/-
  The walk of 'StationSafe': the tap is let through alone.
-/
namespace Go.Proofs.YtcjfmbeemdcklaaGreat
open Go.RowKit
theorem gateTap_zero (g : GT) (t : TK) (m : Int) (w : World) (hP : TapsV w (.slice g.oa g.A.length g.ca) g.A) (hD : IntsV w (.slice g.od g.D.length g.cd) g.D) (hlP : g.A.length ≤ 9223372036854775807) (hlD : g.D.length ≤ 9223372036854775807) (hE : tapG g.i g.z g.s g.A g.v g.D g.l g.u t m = 0) :
    Calls Tryz.prog 30 #[gtV g.i g.z g.s g.oa g.A.length g.ca g.v g.od g.D.length g.cd g.l g.u, tk t.i t.k t.f t.t t.z t.r, .int .i64 m] w fun e w' => (∃ (x : GT) (p : TP), e = .returned (.tuple #[gtV x.i x.z x.s x.oa x.A.length x.ca x.v x.od x.D.length x.cd x.l x.u, tp p.a p.g p.s p.m p.z, .int .i64 0]) ∧ Gn w.heap.size w' x ∧
      x.p = ⟨g.i, g.z, g.s + 1, g.A ++ [⟨t.i, g.i, g.s + 1, m, g.z⟩], g.v, g.D, g.l - 1, g.u⟩) ∧ Below w.heap.size w w' := by
  refine (gateTap_one g t.i t.k t.f t.t t.z t.r m w hP hD hlP hlD).mono ?_
  rintro e w' ⟨⟨x, p, rfl, hN, hX⟩, hb⟩
  have h0 : tapG g.i g.z g.s g.A g.v g.D g.l g.u ⟨t.i, t.k, t.f, t.t, t.z, t.r⟩ m = 0 := hE
  exact ⟨⟨x, p, by rw [h0], hN, hX h0⟩, hb⟩
set_option maxHeartbeats 12800000 in
set_option maxRecDepth 100000 in
theorem safe_alone (T : List TK) (P : List TP) (V : List Int) (dv : Int) (D : List Int) (G : List GT) (W : List VW) (o1 o2 o3 od og ov : Option Addr) (c1 c2 c3 cd cg cv : Nat) (id n m : Int) (w : World) (hs : StW w o1 o2 o3 c1 c2 c3 T P V od cd D og cg G ov cv W) (h1 : (tapS T P V dv D G W id n m).2 = 0) (hv : (tapS T P V dv D G W id n m).1 = 0) :
    Calls Tryz.prog 6 #[stV o1 o2 o3 T.length c1 P.length c2 V.length c3 dv od D.length cd og G.length cg ov W.length cv, .int .i64 id, .int .i64 n, .int .i64 m] w fun e w' => e = .returned (.bool true) ∧ Below w.heap.size w w' := by
  obtain ⟨hc, q, g, k, x, rfl, hq3, hg, hk, hx, ht, hw⟩ := tap_right h1
  rcases hw with ⟨w1, w2, w3⟩ | ⟨-, w2, -⟩
  rotate_left
  · omega
  obtain ⟨hL, hD, hG3, hGs, hW0, hW3⟩ := chkS_right hc
  obtain ⟨g1, g2, g3, g4⟩ := gateE_right (hGs q g hg)
  have hal : alB W g.p.A = true := w1
  have hT0 : ((T.length : Int) == 0) = false := by
    have := (List.getElem?_eq_some_iff.1 hx).1
    simp only [beq_eq_false_iff_ne, ne_eq]
    omega
  have hs98 : 0 ≤ g.s ∧ g.s ≤ 99 := by
    have h := (chkG_right g1).1
    unfold errS at h
    by_cases hr : (wi g.i 0 2 && wi g.s 0 99) = true
    · simp only [Bool.and_eq_true, wi_iff] at hr
      omega
    · simp only [Bool.not_eq_true] at hr
      rw [if_pos hr] at h
      omega
  have hD12 : D.length ≤ 12 := (chkD_right hD).2.2.1
  have hP60 : P.length ≤ 60 := (chkL_right hL).2.1
  obtain ⟨A, rfl, -⟩ := hs.gts q g hg
  have HTa := hide (fun X (h : StW X o1 o2 o3 c1 c2 c3 T P V od cd D (some A) cg G ov cv W) => tapSafe T P V dv D G W o1 o2 o3 od (some A) ov c1 c2 c3 cd cg cv id q m X h h1)
  obtain ⟨GQ, hGQ⟩ : ∃ GQ : GP, GQ = ⟨g.i, g.z, g.s + 1, g.A ++ [⟨x.i, g.i, g.s + 1, m, g.z⟩], g.v, g.D, g.l - 1, g.u⟩ := ⟨_, rfl⟩
  have eP : pTap W (gAt (G.map GT.p) (q : Int)) P id q m = P := by rw [gAt_of hg, pTap, if_pos hal]
  have eV : ∀ r, vTap W (gAt (G.map GT.p) (q : Int)) V r = V := fun r => by rw [gAt_of hg, vTap, if_pos hal]
  have eG : gTap W (gAt (G.map GT.p) (q : Int)) (tAt T id) m = GQ := by
    rw [gAt_of hg, gTap, if_pos hal, ht, hGQ]
    rfl
  rw [eP, eV, eG, Int.toNat_natCast, hv] at HTa
  have HGs : Hid (∀ (j : Nat) (e : GT), G[j]? = some e → e.A.length ≤ 100 ∧ e.D.length ≤ 100) := hide (fun j e he => by
    obtain ⟨r1, -⟩ := gateE_right (hGs j e he)
    obtain ⟨r2, -, r3, -⟩ := chkG_right r1
    unfold errS at r2
    constructor
    · by_cases h12 : 12 < e.A.length
      · rw [if_pos h12] at r2
        split at r2
        · omega
        · split at r2 <;> omega
      · omega
    · have := (chkD_right r3).2.2.1
      omega)
  have hww : IntKind.i64.wrap (g.s + 1) = g.s + 1 := by rw [IntKind.wrap_i64]; omega
  have k1 : decide ((q : Int) < 0) = false := by simp
  have k2 : decide ((G.length : Int) ≤ (q : Int)) = false := by simp; omega
  have k3 : ¬ G.length ≤ q := by omega
  have h3' : ((G.length : Int) != 3) = false := by rw [hG3]; rfl
  have h3a : G.length ≤ 3 := by omega
  have h3b : 3 ≤ G.length := by omega
  have hq : q < G.length := by omega
  have HF6 := hide (And.intro hww (And.intro k1 (And.intro k2 (And.intro k3 hT0))))
  have HS98 := hide hs98
  have HG3 := hide hG3
  have HW3 := hide hW3
  clear hG3 hW3 hww k1 k2 k3 hT0 hs98
  have HG := hide hg
  have HGQ := hide hGQ
  have HTG := hide w3
  have HKT := hide (List.getElem?_eq_some_iff.1 hx).1
  have HGL : Hid (g.A.length ≤ 9223372036854775807 ∧ g.D.length ≤ 9223372036854775807) := hide (hs.gok g (List.mem_of_getElem? hg))
  have HTL := hide hs.lok.1
  have HIX := hide hk
  have HTX := hide hx
  have HLL : Hid (T.length ≤ 100 ∧ P.length ≤ 100 ∧ V.length ≤ 100) := hide (by have := chkL_lens hL; omega)
  have HA12 : Hid (g.A.length ≤ 12 ∧ g.D.length ≤ 100) := hide ⟨(errS_right (chkG_right g1).1).2.2.2, by have := (chkD_right (chkG_right g1).2.2.1).2.2.1; omega⟩
  clear eP eV eG hGQ w1 w2 w3 hal g1 g2 g3 g4 hGs hL hD hW0 hc hg hk hx ht h1 hv
  have HB := hide ((Blks.nil w).more (.cells #[.slice o1 T.length c1, .slice o2 P.length c2, .slice o3 V.length c3, .int .i64 dv, .slice od D.length cd, .slice (some A) G.length cg, .slice ov W.length cv] 32) (by simp))
  have Hw := hide HB.out.2.2
  have OS0 := hide (show _ = _ from HB.out.1 0 _ rfl)
  rw [Nat.add_zero] at OS0
  have HS := hide hs
  clear hs
  have cS0 : (w.alloc (.cells #[.slice o1 T.length c1, .slice o2 P.length c2, .slice o3 V.length c3, .int .i64 dv, .slice od D.length cd, .slice (some A) G.length cg, .slice ov W.length cv] 32)).cell? ⟨w.heap.size, 0, none⟩ = some (.slice o1 T.length c1) := by rw [cell_of_row _ _ 0 _ _ _ OS0.out]; rfl
  have cS1 : (w.alloc (.cells #[.slice o1 T.length c1, .slice o2 P.length c2, .slice o3 V.length c3, .int .i64 dv, .slice od D.length cd, .slice (some A) G.length cg, .slice ov W.length cv] 32)).cell? ⟨w.heap.size, 1, none⟩ = some (.slice o2 P.length c2) := by rw [cell_of_row _ _ 1 _ _ _ OS0.out]; rfl
  have cS2 : (w.alloc (.cells #[.slice o1 T.length c1, .slice o2 P.length c2, .slice o3 V.length c3, .int .i64 dv, .slice od D.length cd, .slice (some A) G.length cg, .slice ov W.length cv] 32)).cell? ⟨w.heap.size, 2, none⟩ = some (.slice o3 V.length c3) := by rw [cell_of_row _ _ 2 _ _ _ OS0.out]; rfl
  have cS3 : (w.alloc (.cells #[.slice o1 T.length c1, .slice o2 P.length c2, .slice o3 V.length c3, .int .i64 dv, .slice od D.length cd, .slice (some A) G.length cg, .slice ov W.length cv] 32)).cell? ⟨w.heap.size, 3, none⟩ = some (.int .i64 dv) := by rw [cell_of_row _ _ 3 _ _ _ OS0.out]; rfl
  have cS4 : (w.alloc (.cells #[.slice o1 T.length c1, .slice o2 P.length c2, .slice o3 V.length c3, .int .i64 dv, .slice od D.length cd, .slice (some A) G.length cg, .slice ov W.length cv] 32)).cell? ⟨w.heap.size, 4, none⟩ = some (.slice od D.length cd) := by rw [cell_of_row _ _ 4 _ _ _ OS0.out]; rfl
  have cS5 : (w.alloc (.cells #[.slice o1 T.length c1, .slice o2 P.length c2, .slice o3 V.length c3, .int .i64 dv, .slice od D.length cd, .slice (some A) G.length cg, .slice ov W.length cv] 32)).cell? ⟨w.heap.size, 5, none⟩ = some (.slice (some A) G.length cg) := by rw [cell_of_row _ _ 5 _ _ _ OS0.out]; rfl
  have cS6 : (w.alloc (.cells #[.slice o1 T.length c1, .slice o2 P.length c2, .slice o3 V.length c3, .int .i64 dv, .slice od D.length cd, .slice (some A) G.length cg, .slice ov W.length cv] 32)).cell? ⟨w.heap.size, 6, none⟩ = some (.slice ov W.length cv) := by rw [cell_of_row _ _ 6 _ _ _ OS0.out]; rfl
  go_enter Tryz.func6, Tryz.ntmps6
  go_wp2_with fail
  generalize (w.alloc (.cells #[.slice o1 T.length c1, .slice o2 P.length c2, .slice o3 V.length c3, .int .i64 dv, .slice od D.length cd, .slice (some A) G.length cg, .slice ov W.length cv] 32)) = w0 at *
  clear HB
  refine (HTa.out _ (HS.out.below Hw.out)).mono ?_
  rintro e w1 ⟨⟨x1, y1, x2, y2, x3, y3, x4, y4, x5, y5, x6, y6, G', rfl, hm, hsa, hca⟩, hb⟩
  have Bww1 := hide (Hw.out.trans (hb.mono Hw.out.size))
  have OSw1 := hide (at_below OS0.out hb)
  have zww1 : w.heap.size ≤ w1.heap.size := Bww1.out.size
  have lSw1 : w.heap.size < w1.heap.size := (Array.getElem?_eq_some_iff.1 OSw1.out).1
  clear hb Hw OS0
  have hl' : G'.length = 3 := by have := congrArg List.length hm; simpa [HG3.out] using this
  obtain ⟨g', hg', hgp⟩ : ∃ g', G'[q]? = some g' ∧ g'.p = GQ := by
    have h := congrArg (fun l => l[q]?) hm
    simp only [List.getElem?_map] at h
    rw [List.getElem?_set_self (by rw [List.length_map]; exact hq), Option.map_eq_some_iff] at h
    exact h
  have hoth : ∀ j e, j ≠ q → G[j]? = some e → ∃ e', G'[j]? = some e' ∧ e'.p = e.p := by
    intro j e hj he
    have h := congrArg (fun l => l[j]?) hm
    simp only [List.getElem?_map] at h
    rw [List.getElem?_set_ne (fun e => hj e.symm), List.getElem?_map, he, Option.map_some, Option.map_eq_some_iff] at h
    exact h
  obtain ⟨A', rfl, -⟩ := hsa.gts q g' hg'
  have HSA := hide hsa
  have HO := hide hoth
  have HG' := hide hg'
  have HGP := hide hgp
  have HCA := hide hca
  have n3 : ((G'.length : Int) != 3) = false := by rw [hl']; rfl
  have n3a : G'.length ≤ 3 := by omega
  have n3b : 3 ≤ G'.length := by omega
  have hq' : q < G'.length := by omega
  clear hsa hoth hm hl' hg' hgp hca
  clear cS0 cS1 cS2 cS3 cS4 cS5 cS6
  go_wp2_with fail
  have hb := (Below.refl w1.heap.size w1).alloc (Nat.le_refl _) (.cells #[.slice x1 T.length y1, .slice x2 P.length y2, .slice x3 V.length y3, .int .i64 dv, .slice x4 D.length y4, .slice (some A') G'.length y5, .slice x6 W.length y6] 32)
  have OAw1a := hide (heap_alloc_new w1 (.cells #[.slice x1 T.length y1, .slice x2 P.length y2, .slice x3 V.length y3, .int .i64 dv, .slice x4 D.length y4, .slice (some A') G'.length y5, .slice x6 W.length y6] 32))
  have Bww1a := hide (Bww1.out.trans (hb.mono Bww1.out.size))
  have Bw1w1a := hide hb
  have OSw1a := hide (at_below OSw1.out hb)
  clear hb Bww1 OSw1
  generalize (w1.alloc (.cells #[.slice x1 T.length y1, .slice x2 P.length y2, .slice x3 V.length y3, .int .i64 dv, .slice x4 D.length y4, .slice (some A') G'.length y5, .slice x6 W.length y6] 32)) = w1a at *
  have zww1a : w.heap.size ≤ w1a.heap.size := Bww1a.out.size
  have zw1w1a : w1.heap.size ≤ w1a.heap.size := Bw1w1a.out.size
  have lSw1a : w.heap.size < w1a.heap.size := (Array.getElem?_eq_some_iff.1 OSw1a.out).1
  have lAw1a : w1.heap.size < w1a.heap.size := (Array.getElem?_eq_some_iff.1 OAw1a.out).1
  refine (stationBegun_any _).mono ?_
  rintro e w2 ⟨rfl, hb⟩
  have Bww2 := hide (Bww1a.out.trans (hb.mono Bww1a.out.size))
  have Bw1w2 := hide (Bw1w1a.out.trans (hb.mono Bw1w1a.out.size))
  have OSw2 := hide (at_below OSw1a.out hb)
  have OAw2 := hide (at_below OAw1a.out hb)
  have zww2 : w.heap.size ≤ w2.heap.size := Bww2.out.size
  have zw1w2 : w1.heap.size ≤ w2.heap.size := Bw1w2.out.size
  have lSw2 : w.heap.size < w2.heap.size := (Array.getElem?_eq_some_iff.1 OSw2.out).1
  have lAw2 : w1.heap.size < w2.heap.size := (Array.getElem?_eq_some_iff.1 OAw2.out).1
  clear hb Bww1a Bw1w1a OSw1a OAw1a
  go_wp2_with fail
  refine (gateBegun_any _).mono ?_
  rintro e w3 ⟨rfl, hb⟩
  have Bww3 := hide (Bww2.out.trans (hb.mono Bww2.out.size))
  have Bw1w3 := hide (Bw1w2.out.trans (hb.mono Bw1w2.out.size))
  have OSw3 := hide (at_below OSw2.out hb)
  have OAw3 := hide (at_below OAw2.out hb)
  have zww3 : w.heap.size ≤ w3.heap.size := Bww3.out.size
  have zw1w3 : w1.heap.size ≤ w3.heap.size := Bw1w3.out.size
  have lSw3 : w.heap.size < w3.heap.size := (Array.getElem?_eq_some_iff.1 OSw3.out).1
  have lAw3 : w1.heap.size < w3.heap.size := (Array.getElem?_eq_some_iff.1 OAw3.out).1
  clear hb Bww2 Bw1w2 OSw2 OAw2
  obtain ⟨cA0, cA1, cA2, cA3, cA4, cA5, cA6⟩ := row_c7 OAw3.out
  obtain ⟨cS0, cS1, cS2, cS3, cS4, cS5, cS6⟩ := row_c7 OSw3.out
  have HSx := hide (HS.out.below Bww3.out)
  have HSAx := hide (HSA.out.below Bw1w3.out)
  obtain ⟨b1, hb1, h81, -, -⟩ := HSx.out.gts q g HG.out
  obtain rfl := Option.some.inj hb1
  obtain ⟨-, -, d2, -, -, -, -, -⟩ := h81
  clear hb1
  obtain ⟨b2, hb2, h82, -, -⟩ := HSAx.out.gts q g' HG'.out
  obtain rfl := Option.some.inj hb2
  obtain ⟨-, -, d2', -, -, -, -, -⟩ := h82
  clear hb2
  rw [show g'.s = g.s + 1 from (congrArg GP.s HGP.out).trans (by rw [HGQ.out])] at d2'
  obtain ⟨hww, k1, k2, k3, hT0⟩ := HF6.out
  have qcA0 := cell_regrown cA0
  have qcA1 := cell_regrown cA1
  have qcA2 := cell_regrown cA2
  have qcA3 := cell_regrown cA3
  have qcA4 := cell_regrown cA4
  have qcA5 := cell_regrown cA5
  have qcA6 := cell_regrown cA6
  have qcS0 := cell_regrown cS0
  have qcS1 := cell_regrown cS1
  have qcS2 := cell_regrown cS2
  have qcS3 := cell_regrown cS3
  have qcS4 := cell_regrown cS4
  have qcS5 := cell_regrown cS5
  have qcS6 := cell_regrown cS6
  have qd2 := cell_regrown d2
  have qd2' := cell_regrown d2'
  have kC : ∀ d os, Calls Tryz.prog 9 #[stV x1 x2 x3 T.length y1 P.length y2 V.length y3 dv x4 D.length y4 (some A') G'.length y5 x6 W.length y6] (Sort.grow (redrawn w3 d) os) fun e w'' => e = .returned (.int .i64 0) ∧ ∃ p : Regrown, w'' = Sort.grow (redrawn w3 p.d) p.os :=
    fun d os => Calls.regrown_of (by
      have h := HSAx.out.below (below_regrown w3 d os)
      have h2 := stationCheck_any T P V dv D G' W x1 x2 x3 x4 (some A') x6 y1 y2 y3 y4 y5 y6 _ h.led h.lok h.den.1 h.den.2.1 h.gts h.gok h.vws h.vln
      rw [HCA.out] at h2
      exact h2)
  have kD : ∀ d os, Calls Tryz.prog 25 #[dn dv x4 D.length y4, dn dv od D.length cd] (Sort.grow (redrawn w3 d) os) fun e w'' => e = .returned (.bool true) ∧ ∃ p : Regrown, w'' = Sort.grow (redrawn w3 p.d) p.os :=
    fun d os => Calls.regrown_of (sameDenied_same dv D x4 od y4 cd _ (HSAx.out.below (below_regrown w3 d os)).den.1 (HSx.out.below (below_regrown w3 d os)).den.1 (by omega))
  have kV : ∀ d os, Calls Tryz.prog 28 #[.slice x6 W.length y6, .slice ov W.length cv] (Sort.grow (redrawn w3 d) os) fun e w'' => e = .returned (.bool true) ∧ ∃ p : Regrown, w'' = Sort.grow (redrawn w3 p.d) p.os :=
    fun d os => Calls.regrown_of (sameViews_same W x6 ov y6 cv _ (HSAx.out.below (below_regrown w3 d os)).vws (HSx.out.below (below_regrown w3 d os)).vws (by rw [HW3.out]; decide))
  go_wp2_with fail
  refine wp_region_quiet_below (by kernel_rfl) (by kernel_rfl) ?_
  simp only [List.append]
  repeat (go_big_quiet_step (first | exact kC _ _ | exact kD _ _ | exact kV _ _))
  refine wpQuiet_nil ?_
  intro _ hw'
  obtain ⟨⟨dq, osq⟩, hw''⟩ := hw'
  subst hw''
  have hb := below_regrown w3 dq osq
  clear qcA0 cA0 qcA1 cA1 qcA2 cA2 qcA3 cA3 qcA4 cA4 qcA5 cA5 qcA6 cA6 qcS0 cS0 qcS1 cS1 qcS2 cS2 qcS3 cS3 qcS4 cS4 qcS5 cS5 qcS6 cS6 qd2 d2 qd2' d2' kC kD kV
  have Bww4 := hide (Bww3.out.trans (hb.mono Bww3.out.size))
  have Bw1w4 := hide (Bw1w3.out.trans (hb.mono Bw1w3.out.size))
  have OSw4 := hide (at_below OSw3.out hb)
  have OAw4 := hide (at_below OAw3.out hb)
  clear hb Bww3 Bw1w3 OSw3 OAw3
  generalize (Sort.grow (redrawn w3 dq) osq) = w4 at *
  have zww4 : w.heap.size ≤ w4.heap.size := Bww4.out.size
  have zw1w4 : w1.heap.size ≤ w4.heap.size := Bw1w4.out.size
  have lSw4 : w.heap.size < w4.heap.size := (Array.getElem?_eq_some_iff.1 OSw4.out).1
  have lAw4 : w1.heap.size < w4.heap.size := (Array.getElem?_eq_some_iff.1 OAw4.out).1
  clear HSx HSAx hww k1 k2 k3 hT0
  go_wp2_with fail
  go_loopw [12] (fun j wr => ∃ (p : Nat), p ≤ 3 ∧ j = .int .i64 p ∧ Hid (Below w4.heap.size w4 wr)) (fun j _ => 3 - (intOf j).toNat)
  case atStart => exact ⟨0, by omega, rfl, hide (Below.refl _ _)⟩
  case round =>
    obtain ⟨p, hp, rfl, HR⟩ := hrel
    have hb := HR.out
    have Bwwr := hide (Bww4.out.trans (hb.mono Bww4.out.size))
    have Bw1wr := hide (Bw1w4.out.trans (hb.mono Bw1w4.out.size))
    have Bw4wr := hide hb
    have OSwr := hide (at_below OSw4.out hb)
    have OAwr := hide (at_below OAw4.out hb)
    clear hb Bww4 Bw1w4 OSw4 OAw4
    have zwwr : w.heap.size ≤ wr.heap.size := Bwwr.out.size
    have zw1wr : w1.heap.size ≤ wr.heap.size := Bw1wr.out.size
    have zw4wr : w4.heap.size ≤ wr.heap.size := Bw4wr.out.size
    have lSwr : w.heap.size < wr.heap.size := (Array.getElem?_eq_some_iff.1 OSwr.out).1
    have lAwr : w1.heap.size < wr.heap.size := (Array.getElem?_eq_some_iff.1 OAwr.out).1
    clear HR
    obtain ⟨cA0, cA1, cA2, cA3, cA4, cA5, cA6⟩ := row_c7 OAwr.out
    obtain ⟨cS0, cS1, cS2, cS3, cS4, cS5, cS6⟩ := row_c7 OSwr.out
    have HSx := hide (HS.out.below Bwwr.out)
    have HSAx := hide (HSA.out.below Bw1wr.out)
    by_cases hgo : p < 3
    · by_cases hpq : p = q
      · have hd : ((p : Int) != (q : Int)) = false := by subst hpq; simp
        have qcA0 := cell_regrown cA0
        have qcA1 := cell_regrown cA1
        have qcA2 := cell_regrown cA2
        have qcA3 := cell_regrown cA3
        have qcA4 := cell_regrown cA4
        have qcA5 := cell_regrown cA5
        have qcA6 := cell_regrown cA6
        have qcS0 := cell_regrown cS0
        have qcS1 := cell_regrown cS1
        have qcS2 := cell_regrown cS2
        have qcS3 := cell_regrown cS3
        have qcS4 := cell_regrown cS4
        have qcS5 := cell_regrown cS5
        have qcS6 := cell_regrown cS6
        clear hpq
        go_wp2_with fail
        refine wp_region_quiet_below (by kernel_rfl) (by kernel_rfl) ?_
        repeat (go_big_quiet_step (first | fail))
        refine wpQuiet_nil ?_
        intro _ hw'
        obtain ⟨⟨dq, osq⟩, hw''⟩ := hw'
        subst hw''
        have hb := below_regrown wr dq osq
        clear qcA0 cA0 qcA1 cA1 qcA2 cA2 qcA3 cA3 qcA4 cA4 qcA5 cA5 qcA6 cA6 qcS0 cS0 qcS1 cS1 qcS2 cS2 qcS3 cS3 qcS4 cS4 qcS5 cS5 qcS6 cS6 
        have Bwwq := hide (Bwwr.out.trans (hb.mono Bwwr.out.size))
        have Bw1wq := hide (Bw1wr.out.trans (hb.mono Bw1wr.out.size))
        have Bw4wq := hide (Bw4wr.out.trans (hb.mono Bw4wr.out.size))
        have OSwq := hide (at_below OSwr.out hb)
        have OAwq := hide (at_below OAwr.out hb)
        clear hb Bwwr Bw1wr Bw4wr OSwr OAwr
        generalize (Sort.grow (redrawn wr dq) osq) = wq at *
        have zwwq : w.heap.size ≤ wq.heap.size := Bwwq.out.size
        have zw1wq : w1.heap.size ≤ wq.heap.size := Bw1wq.out.size
        have zw4wq : w4.heap.size ≤ wq.heap.size := Bw4wq.out.size
        have lSwq : w.heap.size < wq.heap.size := (Array.getElem?_eq_some_iff.1 OSwq.out).1
        have lAwq : w1.heap.size < wq.heap.size := (Array.getElem?_eq_some_iff.1 OAwq.out).1
        go_wp2_with fail
        exact ⟨⟨p + 1, by omega, by simp, Bw4wq⟩, by simp [intOf]; omega⟩
      · have hd : ((p : Int) != (q : Int)) = true := by simp only [bne_iff_ne, ne_eq]; omega
        obtain ⟨e0, he0⟩ : ∃ e0, G[p]? = some e0 := ⟨_, List.getElem?_eq_getElem (by omega)⟩
        obtain ⟨e1, he1, hep⟩ := HO.out p e0 hpq he0
        have hok := HSx.out.gok e0 (List.mem_of_getElem? he0)
        have hch := (HGs.out p e0 he0)
        obtain ⟨b1, hb1, h81, ha1, hi1⟩ := HSx.out.gts p e0 he0
        obtain rfl := Option.some.inj hb1
        obtain ⟨b2, hb2, h82, ha2, hi2⟩ := HSAx.out.gts p e1 he1
        obtain rfl := Option.some.inj hb2
        clear hb1 hb2 he0 he1
        obtain ⟨ei, ez, es, eoa, eA, eca, ev, eod, eD, ecd, el, eu⟩ := e0
        obtain ⟨fi, fz, fs, foa, fA, fca, fv, fod, fD, fcd, fl, fu⟩ := e1
        simp only [GT.p, GP.mk.injEq] at hep
        obtain ⟨rfl, rfl, rfl, rfl, rfl, rfl, rfl, rfl⟩ := hep
        obtain ⟨s0, s1, s2, s3, s4, s5, s6, s7⟩ := h81
        obtain ⟨t0, t1, t2, t3, t4, t5, t6, t7⟩ := h82
        simp only at s0 s1 s2 s3 s4 s5 s6 s7 t0 t1 t2 t3 t4 t5 t6 t7 ha1 ha2 hi1 hi2 hch
        have Ha1 := hide ha1
        have Ha2 := hide ha2
        have Hi1 := hide hi1
        have Hi2 := hide hi2
        clear ha1 ha2 hi1 hi2 hok
        have qcA0 := cell_regrown cA0
        have qcA1 := cell_regrown cA1
        have qcA2 := cell_regrown cA2
        have qcA3 := cell_regrown cA3
        have qcA4 := cell_regrown cA4
        have qcA5 := cell_regrown cA5
        have qcA6 := cell_regrown cA6
        have qcS0 := cell_regrown cS0
        have qcS1 := cell_regrown cS1
        have qcS2 := cell_regrown cS2
        have qcS3 := cell_regrown cS3
        have qcS4 := cell_regrown cS4
        have qcS5 := cell_regrown cS5
        have qcS6 := cell_regrown cS6
        have qs0 := cell_regrown s0
        have qs1 := cell_regrown s1
        have qs2 := cell_regrown s2
        have qs3 := cell_regrown s3
        have qs4 := cell_regrown s4
        have qs5 := cell_regrown s5
        have qs6 := cell_regrown s6
        have qs7 := cell_regrown s7
        have qt0 := cell_regrown t0
        have qt1 := cell_regrown t1
        have qt2 := cell_regrown t2
        have qt3 := cell_regrown t3
        have qt4 := cell_regrown t4
        have qt5 := cell_regrown t5
        have qt6 := cell_regrown t6
        have qt7 := cell_regrown t7
        have kG : ∀ d os, Calls Tryz.prog 29 #[gtV fi fz fs foa fA.length fca fv fod fD.length fcd fl fu, gtV fi fz fs eoa fA.length eca fv eod fD.length ecd fl fu] (Sort.grow (redrawn wr d) os) fun e w'' => e = .returned (.bool true) ∧ ∃ p : Regrown, w'' = Sort.grow (redrawn wr p.d) p.os :=
          fun d os => Calls.regrown_of (sameGate_same fi fz fs fA fv fD fl fu foa eoa fod eod fca eca fcd ecd _ (Ha2.out.below (below_regrown wr d os)).ats (Ha1.out.below (below_regrown wr d os)).ats (Hi2.out.below (below_regrown wr d os)).ats (Hi1.out.below (below_regrown wr d os)).ats hch.1 hch.2)
        go_wp2_with fail
        refine wp_region_quiet_below (by kernel_rfl) (by kernel_rfl) ?_
        repeat (go_big_quiet_step (first | exact kG _ _))
        refine wpQuiet_nil ?_
        intro _ hw'
        obtain ⟨⟨dq, osq⟩, hw''⟩ := hw'
        subst hw''
        have hb := below_regrown wr dq osq
        clear qcA0 cA0 qcA1 cA1 qcA2 cA2 qcA3 cA3 qcA4 cA4 qcA5 cA5 qcA6 cA6 qcS0 cS0 qcS1 cS1 qcS2 cS2 qcS3 cS3 qcS4 cS4 qcS5 cS5 qcS6 cS6 qs0 s0 qs1 s1 qs2 s2 qs3 s3 qs4 s4 qs5 s5 qs6 s6 qs7 s7 qt0 t0 qt1 t1 qt2 t2 qt3 t3 qt4 t4 qt5 t5 qt6 t6 qt7 t7 kG
        have Bwwq := hide (Bwwr.out.trans (hb.mono Bwwr.out.size))
        have Bw1wq := hide (Bw1wr.out.trans (hb.mono Bw1wr.out.size))
        have Bw4wq := hide (Bw4wr.out.trans (hb.mono Bw4wr.out.size))
        have OSwq := hide (at_below OSwr.out hb)
        have OAwq := hide (at_below OAwr.out hb)
        clear hb Bwwr Bw1wr Bw4wr OSwr OAwr
        generalize (Sort.grow (redrawn wr dq) osq) = wq at *
        have zwwq : w.heap.size ≤ wq.heap.size := Bwwq.out.size
        have zw1wq : w1.heap.size ≤ wq.heap.size := Bw1wq.out.size
        have zw4wq : w4.heap.size ≤ wq.heap.size := Bw4wq.out.size
        have lSwq : w.heap.size < wq.heap.size := (Array.getElem?_eq_some_iff.1 OSwq.out).1
        have lAwq : w1.heap.size < wq.heap.size := (Array.getElem?_eq_some_iff.1 OAwq.out).1
        go_wp2_with fail
        exact ⟨⟨p + 1, by omega, by simp, Bw4wq⟩, by simp [intOf]; omega⟩
    · obtain rfl : p = 3 := by omega
      clear hgo hp
      have HTk := hide (HSx.out.led.parts3.1.ats)
      obtain ⟨bt, hbt, -⟩ := HTk.out k x HTX.out
      obtain rfl := hbt
      clear HTk HSx HSAx
      go_upto_region 14 with fail
      have hwr : wr.heap.size ≤ wr.heap.size := Nat.le_refl _
      go_cut [13, 14, 15] from 133 to 155 (fun s13 s14 s15 wx => ∃ (b9 : Nat) (b10 : Nat) (x9 : GT) (p9 : TP), s13 = .pointer (some ⟨b9, 0, none⟩) ∧ s14 = .pointer (some ⟨b10, 0, none⟩) ∧ s15 = .int .i64 0 ∧ Hid (wr.heap.size ≤ b9 ∧ wx.heap[b9]? = some (.cells #[.int .i64 x9.i, .int .i64 x9.z, .int .i64 x9.s, .slice x9.oa x9.A.length x9.ca, .int .i64 x9.v, .slice x9.od x9.D.length x9.cd, .int .i64 x9.l, .int .i64 x9.u] 49)) ∧ Hid (Gn wr.heap.size wx x9) ∧ Hid (x9.p = GQ) ∧ Hid (Below wr.heap.size wr wx))
      case first =>
        refine wp_region_reads (fun w' => StW w' (some bt) o2 o3 c1 c2 c3 T P V od cd D (some A) cg G ov cv W ∧ w'.heap[w.heap.size]? = some (.cells #[.slice (some bt) T.length c1, .slice o2 P.length c2, .slice o3 V.length c3, .int .i64 dv, .slice od D.length cd, .slice (some A) G.length cg, .slice ov W.length cv] 32)) [0, 1, 2, 3, 4, 5, 6, 7, 8, 9, 10, 11, 16] 14 (by rfl) (by kernel_rfl) (by kernel_rfl) (by kernel_rfl) (fun c d v a w h => by cases d <;> exact h) ?_ ?_
        · exact ⟨(HS.out.below Bwwr.out).below (Below.refl _ _).drew, at_below OSwr.out (Below.refl _ _).drew⟩
        refine wpPureH_step (.pointer (some ⟨w.heap.size, 5, none⟩)) rfl rfl (fun w' hS => ?_) ?_
        · go_simp
        refine wpPureH_step (.slice (some A) G.length cg) rfl rfl (fun w' hS => ?_) ?_
        · have u5 : w'.cell? ⟨w.heap.size, 5, none⟩ = some (.slice (some A) G.length cg) := by rw [cell_of_row _ _ 5 _ _ _ hS.2]; rfl
          go_simp
        refine wpPureH_step (.int .i64 (q : Int)) rfl rfl (fun w' hS => ?_) ?_
        · go_simp
        refine wpPureH_step (.pointer (some (A.add (q * 8)))) rfl rfl (fun w' hS => ?_) ?_
        · go_simp
        refine wpPureH_step (gtV g.i g.z g.s g.oa g.A.length g.ca g.v g.od g.D.length g.cd g.l g.u) rfl rfl (fun w' hS => ?_) ?_
        · obtain ⟨b1, hb1, h81, -, -⟩ := hS.1.gts q g HG.out
          obtain rfl := Option.some.inj hb1
          obtain ⟨s0, s1, s2, s3, s4, s5, s6, s7⟩ := h81
          go_simp
        refine wpPureH_step (.pointer (some ⟨w.heap.size, 0, none⟩)) rfl rfl (fun w' hS => ?_) ?_
        · go_simp
        refine wpPureH_step (.pointer (some ⟨w.heap.size, 0, none⟩)) rfl rfl (fun w' hS => ?_) ?_
        · go_simp
        refine wpPureH_step (.slice (some bt) T.length c1) rfl rfl (fun w' hS => ?_) ?_
        · have u0 : w'.cell? ⟨w.heap.size, 0, none⟩ = some (.slice (some bt) T.length c1) := by rw [cell_of_row _ _ 0 _ _ _ hS.2]; rfl
          go_simp
        refine wpPureH_step (.pointer (some ⟨w.heap.size, 0, none⟩)) rfl rfl (fun w' hS => ?_) ?_
        · go_simp
        refine wpPureH_step (.pointer (some ⟨w.heap.size, 0, none⟩)) rfl rfl (fun w' hS => ?_) ?_
        · go_simp
        refine wpPureH_step (.slice (some bt) T.length c1) rfl rfl (fun w' hS => ?_) ?_
        · have u0 : w'.cell? ⟨w.heap.size, 0, none⟩ = some (.slice (some bt) T.length c1) := by rw [cell_of_row _ _ 0 _ _ _ hS.2]; rfl
          go_simp
        refine wpPureH_step (.int .i64 id) rfl rfl (fun w' hS => ?_) ?_
        · go_simp
        refine wpPureH_step (.int .i64 m) rfl rfl (fun w' hS => ?_) ?_
        · go_simp
        refine wpPureH_nil ?_
        have HSd := hide ((HS.out.below Bwwr.out).below (Below.refl _ _).drew)
        have HOd := hide (at_below OSwr.out (Below.refl _ _).drew)
        have HAd := hide ((Below.refl wr.heap.size wr).drew)
        have hsd : wr.heap.size ≤ wr.drew.heap.size := Nat.le_refl _
        generalize (World.drew _) = w0 at *
        refine three_readyH (i := 12) (j := 22) (k := 23) (by kernel_rfl) rfl rfl rfl rfl rfl rfl (fun K hK => ?_) (fun K hK => ?_) (fun K hK => ?_)
        · go_simp
          refine (ticketAt_any (some bt) c1 T id w0 HSd.out.led.parts3.1.ats HTL.out).mono ?_
          rintro e v1 ⟨rfl, hw⟩
          obtain rfl := hw.symm
          clear hw
          rw [HIX.out]
          refine hK _ _ ⟨HSd.out.below (Below.refl _ _), at_below HOd.out (Below.refl _ _)⟩ ?_
          clear hK K
          refine takesH (fuel := 10) (by kernel_rfl) (fun c d v a w h => by cases d <;> exact h) ⟨HSd.out.below (Below.refl _ _), at_below HOd.out (Below.refl _ _)⟩ [13, 14, 15] _ _ (by kernel_rfl) ?_
          refine wpPureH_step (.int .i64 (k : Int)) rfl rfl (fun w' hS => ?_) ?_
          · have hk0 : (0 : Int) ≤ (k : Int) := by omega
            go_simp
          refine wpPureH_step (.pointer (some (bt.add (k * 6)))) rfl rfl (fun w' hS => ?_) ?_
          · have hkT : k < T.length := HKT.out
            go_simp
          refine wpPureH_step (tk x.i x.k x.f x.t x.z x.r) rfl rfl (fun w' hS => ?_) ?_
          · obtain ⟨b1, hb1, h61⟩ := hS.1.led.parts3.1.ats k x HTX.out
            obtain rfl := Option.some.inj hb1
            obtain ⟨s0, s1, s2, s3, s4, s5⟩ := h61
            go_simp
          refine wpPureH_nil ?_
          refine three_readyH (i := 17) (j := 22) (k := 23) (by kernel_rfl) rfl rfl rfl rfl rfl rfl (fun K hK => ?_) (fun K hK => ?_) (fun K hK => ?_)
          · go_simp
            refine (gateTap_zero g x m w0 (HSd.out.gts q g HG.out).choose_spec.2.2.1 (HSd.out.gts q g HG.out).choose_spec.2.2.2 HGL.out.1 HGL.out.2 HTG.out).mono ?_
            rintro e v2 ⟨⟨x9, p9, rfl, hN, hX⟩, hb⟩
            have HN := hide hN
            have HX := hide hX
            clear hN hX
            have HB2 := hide (hb)
            have u2 : w0.heap.size ≤ v2.heap.size := HB2.out.size
            refine hK _ _ ⟨HSd.out.below HB2.out, at_below HOd.out HB2.out⟩ ?_
            clear hK K hb  
            refine takesH (fuel := 5) (by kernel_rfl) (fun c d v a w h => by cases d <;> exact h) ⟨HSd.out.below HB2.out, at_below HOd.out HB2.out⟩ [18, 19, 20, 21] _ _ (by kernel_rfl) ?_
            refine wpPureH_step (.tuple #[gtV x9.i x9.z x9.s x9.oa x9.A.length x9.ca x9.v x9.od x9.D.length x9.cd x9.l x9.u, tp p9.a p9.g p9.s p9.m p9.z, .int .i64 0]) rfl rfl (fun w' _ => by go_simp) ?_
            refine wpPureH_step (gtV x9.i x9.z x9.s x9.oa x9.A.length x9.ca x9.v x9.od x9.D.length x9.cd x9.l x9.u) rfl rfl (fun w' _ => by go_simp) ?_
            refine wpPureH_step (tp p9.a p9.g p9.s p9.m p9.z) rfl rfl (fun w' _ => by go_simp) ?_
            refine wpPureH_step (.int .i64 0) rfl rfl (fun w' _ => by go_simp) ?_
            refine wpPureH_nil ?_
            refine two_readyH (i := 22) (j := 23) (by kernel_rfl) rfl rfl rfl rfl (fun K hK => ?_) (fun K hK => ?_)
            · go_simp
              have hba := zaG v2
              have HB3 := hide (HB2.out.trans (hba.mono HB2.out.size))
              have Z3_22 := hide (znG v2)
              have q3 := zlG v2
              have O3_22 := hide (HN.out.offlt)
              have N3 := hide (HN.out.below hba)
              refine hK _ _ ⟨HSd.out.below HB3.out, at_below HOd.out HB3.out⟩ ?_
              clear hK K hba HB2  HN
              generalize v2.alloc _ = v3 at *
              refine one_readyH (i := 23) (by kernel_rfl) rfl rfl (fun K hK => ?_)
              go_simp
              have hba := zaT v3
              have HB4 := hide (HB3.out.trans (hba.mono HB3.out.size))
              have Z4_22 := hide (at_below Z3_22.out hba)
              have Z4_23 := hide (znT v3)
              have q4 := zlT v3
              have O4_23 := hide (N3.out.offlt)
              have N4 := hide (N3.out.below hba)
              refine hK _ _ ⟨HSd.out.below HB4.out, at_below HOd.out HB4.out⟩ ?_
              clear hK K hba HB3 Z3_22 N3
              generalize v3.alloc _ = v4 at *
              obtain ⟨r0, r1, r2, r3, r4, r5, r6, r7, s0, s1, s2, s3, s4, s5, s6, s7⟩ := csG Z4_22.out
              have Y5_22 := hide (stG Z4_22.out x9)
              have Y5_23 := hide (soG Z4_23.out (b := v2.heap.size) (by omega) x9)
              have HB5 := hide (sbG HB4.out (b := v2.heap.size) (by omega) x9)
              have N5 := hide (snG N4.out O3_22.out x9)
              refine one_readyH (i := 24) (by kernel_rfl) rfl rfl (fun K hK => ?_)
              go_simp
              refine hK _ _ ⟨HSd.out.below HB5.out, at_below HOd.out HB5.out⟩ ?_
              clear hK K r0 s0 r1 s1 r2 s2 r3 s3 r4 s4 r5 s5 r6 s6 r7 s7 HB4 N4 Z4_22 Z4_23
              generalize World.setCell _ ⟨v2.heap.size, 7, none⟩ _ = z5 at *
              obtain ⟨r0, r1, r2, r3, r4, s0, s1, s2, s3, s4⟩ := csT Y5_23.out
              have Y6_23 := hide (stT Y5_23.out p9)
              have Y6_22 := hide (soT Y5_22.out (b := v3.heap.size) (by omega) p9)
              have HB6 := hide (sbT HB5.out (b := v3.heap.size) (by omega) p9)
              have N6 := hide (snT N5.out O4_23.out p9)
              refine one_readyH (i := 25) (by kernel_rfl) rfl rfl (fun K hK => ?_)
              go_simp
              refine hK _ _ ⟨HSd.out.below HB6.out, at_below HOd.out HB6.out⟩ ?_
              clear hK K r0 s0 r1 s1 r2 s2 r3 s3 r4 s4 HB5 N5 Y5_22 Y5_23
              generalize World.setCell _ ⟨v3.heap.size, 4, none⟩ _ = z6 at *
              refine one_readyH (i := 26) (by kernel_rfl) rfl rfl (fun K hK => ?_)
              go_simp
              refine hK _ _ ⟨HSd.out.below HB6.out, at_below HOd.out HB6.out⟩ ?_
              clear hK K
              refine wpAnyH_done (by kernel_rfl) ?_ _
              go_wp2_with fail
              go_meet
              case rel => exact ⟨v2.heap.size, v3.heap.size, x9, p9, rfl, rfl, rfl, hide ⟨by omega, Y6_22.out⟩, hide (N6.out.mono (by omega)), hide (HX.out.trans HGQ.out.symm), hide (HAd.out.trans (HB6.out.mono (by omega)))⟩
            · go_simp
              have hba := zaT v2
              have HB7 := hide (HB2.out.trans (hba.mono HB2.out.size))
              have Z7_23 := hide (znT v2)
              have q7 := zlT v2
              have O7_23 := hide (HN.out.offlt)
              have N7 := hide (HN.out.below hba)
              refine hK _ _ ⟨HSd.out.below HB7.out, at_below HOd.out HB7.out⟩ ?_
              clear hK K hba HB2  HN
              generalize v2.alloc _ = v7 at *
              refine one_readyH (i := 22) (by kernel_rfl) rfl rfl (fun K hK => ?_)
              go_simp
              have hba := zaG v7
              have HB8 := hide (HB7.out.trans (hba.mono HB7.out.size))
              have Z8_23 := hide (at_below Z7_23.out hba)
              have Z8_22 := hide (znG v7)
              have q8 := zlG v7
              have O8_22 := hide (N7.out.offlt)
              have N8 := hide (N7.out.below hba)
              refine hK _ _ ⟨HSd.out.below HB8.out, at_below HOd.out HB8.out⟩ ?_
              clear hK K hba HB7 Z7_23 N7
              generalize v7.alloc _ = v8 at *
              obtain ⟨r0, r1, r2, r3, r4, r5, r6, r7, s0, s1, s2, s3, s4, s5, s6, s7⟩ := csG Z8_22.out
              have Y9_22 := hide (stG Z8_22.out x9)
              have Y9_23 := hide (soG Z8_23.out (b := v7.heap.size) (by omega) x9)
              have HB9 := hide (sbG HB8.out (b := v7.heap.size) (by omega) x9)
              have N9 := hide (snG N8.out O8_22.out x9)
              refine one_readyH (i := 24) (by kernel_rfl) rfl rfl (fun K hK => ?_)
              go_simp
              refine hK _ _ ⟨HSd.out.below HB9.out, at_below HOd.out HB9.out⟩ ?_
              clear hK K r0 s0 r1 s1 r2 s2 r3 s3 r4 s4 r5 s5 r6 s6 r7 s7 HB8 N8 Z8_22 Z8_23
              generalize World.setCell _ ⟨v7.heap.size, 7, none⟩ _ = z9 at *
              obtain ⟨r0, r1, r2, r3, r4, s0, s1, s2, s3, s4⟩ := csT Y9_23.out
              have Y10_23 := hide (stT Y9_23.out p9)
              have Y10_22 := hide (soT Y9_22.out (b := v2.heap.size) (by omega) p9)
              have HB10 := hide (sbT HB9.out (b := v2.heap.size) (by omega) p9)
              have N10 := hide (snT N9.out O7_23.out p9)
              refine one_readyH (i := 25) (by kernel_rfl) rfl rfl (fun K hK => ?_)
              go_simp
              refine hK _ _ ⟨HSd.out.below HB10.out, at_below HOd.out HB10.out⟩ ?_
              clear hK K r0 s0 r1 s1 r2 s2 r3 s3 r4 s4 HB9 N9 Y9_22 Y9_23
              generalize World.setCell _ ⟨v2.heap.size, 4, none⟩ _ = z10 at *
              refine one_readyH (i := 26) (by kernel_rfl) rfl rfl (fun K hK => ?_)
              go_simp
              refine hK _ _ ⟨HSd.out.below HB10.out, at_below HOd.out HB10.out⟩ ?_
              clear hK K
              refine wpAnyH_done (by kernel_rfl) ?_ _
              go_wp2_with fail
              go_meet
              case rel => exact ⟨v7.heap.size, v2.heap.size, x9, p9, rfl, rfl, rfl, hide ⟨by omega, Y10_22.out⟩, hide (N10.out.mono (by omega)), hide (HX.out.trans HGQ.out.symm), hide (HAd.out.trans (HB10.out.mono (by omega)))⟩
          · go_simp
            have hba := zaG w0
            have HB11 := hide (hba)
            have Z11_22 := hide (znG w0)
            have q11 := zlG w0
            refine hK _ _ ⟨HSd.out.below HB11.out, at_below HOd.out HB11.out⟩ ?_
            clear hK K hba   
            generalize w0.alloc _ = v11 at *
            refine two_readyH (i := 17) (j := 23) (by kernel_rfl) rfl rfl rfl rfl (fun K hK => ?_) (fun K hK => ?_)
            · go_simp
              refine (gateTap_zero g x m v11 ((HSd.out.below HB11.out).gts q g HG.out).choose_spec.2.2.1 ((HSd.out.below HB11.out).gts q g HG.out).choose_spec.2.2.2 HGL.out.1 HGL.out.2 HTG.out).mono ?_
              rintro e v12 ⟨⟨x9, p9, rfl, hN, hX⟩, hb⟩
              have HN := hide hN
              have HX := hide hX
              clear hN hX
              have HB12 := hide (HB11.out.trans (hb.mono HB11.out.size))
              have Z12_22 := hide (at_below Z11_22.out hb)
              have O12_22 := hide (HN.out.offnew (show w0.heap.size < v11.heap.size by omega))
              have q12_22 : w0.heap.size < v12.heap.size := Nat.lt_of_lt_of_le (by omega) hb.size
              have u12 : w0.heap.size ≤ v12.heap.size := HB12.out.size
              refine hK _ _ ⟨HSd.out.below HB12.out, at_below HOd.out HB12.out⟩ ?_
              clear hK K hb HB11 Z11_22
              refine takesH (fuel := 4) (by kernel_rfl) (fun c d v a w h => by cases d <;> exact h) ⟨HSd.out.below HB12.out, at_below HOd.out HB12.out⟩ [18, 19, 20, 21] _ _ (by kernel_rfl) ?_
              refine wpPureH_step (.tuple #[gtV x9.i x9.z x9.s x9.oa x9.A.length x9.ca x9.v x9.od x9.D.length x9.cd x9.l x9.u, tp p9.a p9.g p9.s p9.m p9.z, .int .i64 0]) rfl rfl (fun w' _ => by go_simp) ?_
              refine wpPureH_step (gtV x9.i x9.z x9.s x9.oa x9.A.length x9.ca x9.v x9.od x9.D.length x9.cd x9.l x9.u) rfl rfl (fun w' _ => by go_simp) ?_
              refine wpPureH_step (tp p9.a p9.g p9.s p9.m p9.z) rfl rfl (fun w' _ => by go_simp) ?_
              refine wpPureH_step (.int .i64 0) rfl rfl (fun w' _ => by go_simp) ?_
              refine wpPureH_nil ?_
              refine one_readyH (i := 23) (by kernel_rfl) rfl rfl (fun K hK => ?_)
              go_simp
              have hba := zaT v12
              have HB13 := hide (HB12.out.trans (hba.mono HB12.out.size))
              have Z13_22 := hide (at_below Z12_22.out hba)
              have Z13_23 := hide (znT v12)
              have q13 := zlT v12
              have O13_23 := hide (HN.out.offlt)
              have N13 := hide (HN.out.below hba)
              refine hK _ _ ⟨HSd.out.below HB13.out, at_below HOd.out HB13.out⟩ ?_
              clear hK K hba HB12 Z12_22 HN
              generalize v12.alloc _ = v13 at *
              obtain ⟨r0, r1, r2, r3, r4, r5, r6, r7, s0, s1, s2, s3, s4, s5, s6, s7⟩ := csG Z13_22.out
              have Y14_22 := hide (stG Z13_22.out x9)
              have Y14_23 := hide (soG Z13_23.out (b := w0.heap.size) (by omega) x9)
              have HB14 := hide (sbG HB13.out (b := w0.heap.size) (by omega) x9)
              have N14 := hide (snG N13.out O12_22.out x9)
              refine one_readyH (i := 24) (by kernel_rfl) rfl rfl (fun K hK => ?_)
              go_simp
              refine hK _ _ ⟨HSd.out.below HB14.out, at_below HOd.out HB14.out⟩ ?_
              clear hK K r0 s0 r1 s1 r2 s2 r3 s3 r4 s4 r5 s5 r6 s6 r7 s7 HB13 N13 Z13_22 Z13_23
              generalize World.setCell _ ⟨w0.heap.size, 7, none⟩ _ = z14 at *
              obtain ⟨r0, r1, r2, r3, r4, s0, s1, s2, s3, s4⟩ := csT Y14_23.out
              have Y15_23 := hide (stT Y14_23.out p9)
              have Y15_22 := hide (soT Y14_22.out (b := v12.heap.size) (by omega) p9)
              have HB15 := hide (sbT HB14.out (b := v12.heap.size) (by omega) p9)
              have N15 := hide (snT N14.out O13_23.out p9)
              refine one_readyH (i := 25) (by kernel_rfl) rfl rfl (fun K hK => ?_)
              go_simp
              refine hK _ _ ⟨HSd.out.below HB15.out, at_below HOd.out HB15.out⟩ ?_
              clear hK K r0 s0 r1 s1 r2 s2 r3 s3 r4 s4 HB14 N14 Y14_22 Y14_23
              generalize World.setCell _ ⟨v12.heap.size, 4, none⟩ _ = z15 at *
              refine one_readyH (i := 26) (by kernel_rfl) rfl rfl (fun K hK => ?_)
              go_simp
              refine hK _ _ ⟨HSd.out.below HB15.out, at_below HOd.out HB15.out⟩ ?_
              clear hK K
              refine wpAnyH_done (by kernel_rfl) ?_ _
              go_wp2_with fail
              go_meet
              case rel => exact ⟨w0.heap.size, v12.heap.size, x9, p9, rfl, rfl, rfl, hide ⟨by omega, Y15_22.out⟩, hide (N15.out.mono (by omega)), hide (HX.out.trans HGQ.out.symm), hide (HAd.out.trans (HB15.out.mono (by omega)))⟩
            · go_simp
              have hba := zaT v11
              have HB16 := hide (HB11.out.trans (hba.mono HB11.out.size))
              have Z16_22 := hide (at_below Z11_22.out hba)
              have Z16_23 := hide (znT v11)
              have q16 := zlT v11
              refine hK _ _ ⟨HSd.out.below HB16.out, at_below HOd.out HB16.out⟩ ?_
              clear hK K hba HB11 Z11_22 
              generalize v11.alloc _ = v16 at *
              refine one_readyH (i := 17) (by kernel_rfl) rfl rfl (fun K hK => ?_)
              go_simp
              refine (gateTap_zero g x m v16 ((HSd.out.below HB16.out).gts q g HG.out).choose_spec.2.2.1 ((HSd.out.below HB16.out).gts q g HG.out).choose_spec.2.2.2 HGL.out.1 HGL.out.2 HTG.out).mono ?_
              rintro e v17 ⟨⟨x9, p9, rfl, hN, hX⟩, hb⟩
              have HN := hide hN
              have HX := hide hX
              clear hN hX
              have HB17 := hide (HB16.out.trans (hb.mono HB16.out.size))
              have Z17_22 := hide (at_below Z16_22.out hb)
              have O17_22 := hide (HN.out.offnew (show w0.heap.size < v16.heap.size by omega))
              have q17_22 : w0.heap.size < v17.heap.size := Nat.lt_of_lt_of_le (by omega) hb.size
              have Z17_23 := hide (at_below Z16_23.out hb)
              have O17_23 := hide (HN.out.offnew (show v11.heap.size < v16.heap.size by omega))
              have q17_23 : v11.heap.size < v17.heap.size := Nat.lt_of_lt_of_le (by omega) hb.size
              have u17 : w0.heap.size ≤ v17.heap.size := HB17.out.size
              refine hK _ _ ⟨HSd.out.below HB17.out, at_below HOd.out HB17.out⟩ ?_
              clear hK K hb HB16 Z16_22 Z16_23
              refine takesH (fuel := 3) (by kernel_rfl) (fun c d v a w h => by cases d <;> exact h) ⟨HSd.out.below HB17.out, at_below HOd.out HB17.out⟩ [18, 19, 20, 21] _ _ (by kernel_rfl) ?_
              refine wpPureH_step (.tuple #[gtV x9.i x9.z x9.s x9.oa x9.A.length x9.ca x9.v x9.od x9.D.length x9.cd x9.l x9.u, tp p9.a p9.g p9.s p9.m p9.z, .int .i64 0]) rfl rfl (fun w' _ => by go_simp) ?_
              refine wpPureH_step (gtV x9.i x9.z x9.s x9.oa x9.A.length x9.ca x9.v x9.od x9.D.length x9.cd x9.l x9.u) rfl rfl (fun w' _ => by go_simp) ?_
              refine wpPureH_step (tp p9.a p9.g p9.s p9.m p9.z) rfl rfl (fun w' _ => by go_simp) ?_
              refine wpPureH_step (.int .i64 0) rfl rfl (fun w' _ => by go_simp) ?_
              refine wpPureH_nil ?_
              obtain ⟨r0, r1, r2, r3, r4, r5, r6, r7, s0, s1, s2, s3, s4, s5, s6, s7⟩ := csG Z17_22.out
              have Y18_22 := hide (stG Z17_22.out x9)
              have Y18_23 := hide (soG Z17_23.out (b := w0.heap.size) (by omega) x9)
              have HB18 := hide (sbG HB17.out (b := w0.heap.size) (by omega) x9)
              have N18 := hide (snG HN.out O17_22.out x9)
              refine one_readyH (i := 24) (by kernel_rfl) rfl rfl (fun K hK => ?_)
              go_simp
              refine hK _ _ ⟨HSd.out.below HB18.out, at_below HOd.out HB18.out⟩ ?_
              clear hK K r0 s0 r1 s1 r2 s2 r3 s3 r4 s4 r5 s5 r6 s6 r7 s7 HB17 HN Z17_22 Z17_23
              generalize World.setCell _ ⟨w0.heap.size, 7, none⟩ _ = z18 at *
              obtain ⟨r0, r1, r2, r3, r4, s0, s1, s2, s3, s4⟩ := csT Y18_23.out
              have Y19_23 := hide (stT Y18_23.out p9)
              have Y19_22 := hide (soT Y18_22.out (b := v11.heap.size) (by omega) p9)
              have HB19 := hide (sbT HB18.out (b := v11.heap.size) (by omega) p9)
              have N19 := hide (snT N18.out O17_23.out p9)
              refine one_readyH (i := 25) (by kernel_rfl) rfl rfl (fun K hK => ?_)
              go_simp
              refine hK _ _ ⟨HSd.out.below HB19.out, at_below HOd.out HB19.out⟩ ?_
              clear hK K r0 s0 r1 s1 r2 s2 r3 s3 r4 s4 HB18 N18 Y18_22 Y18_23
              generalize World.setCell _ ⟨v11.heap.size, 4, none⟩ _ = z19 at *
              refine one_readyH (i := 26) (by kernel_rfl) rfl rfl (fun K hK => ?_)
              go_simp
              refine hK _ _ ⟨HSd.out.below HB19.out, at_below HOd.out HB19.out⟩ ?_
              clear hK K
              refine wpAnyH_done (by kernel_rfl) ?_ _
              go_wp2_with fail
              go_meet
              case rel => exact ⟨w0.heap.size, v11.heap.size, x9, p9, rfl, rfl, rfl, hide ⟨by omega, Y19_22.out⟩, hide (N19.out.mono (by omega)), hide (HX.out.trans HGQ.out.symm), hide (HAd.out.trans (HB19.out.mono (by omega)))⟩
          · go_simp
            have hba := zaT w0
            have HB20 := hide (hba)
            have Z20_23 := hide (znT w0)
            have q20 := zlT w0
            refine hK _ _ ⟨HSd.out.below HB20.out, at_below HOd.out HB20.out⟩ ?_
            clear hK K hba   
            generalize w0.alloc _ = v20 at *
            refine two_readyH (i := 17) (j := 22) (by kernel_rfl) rfl rfl rfl rfl (fun K hK => ?_) (fun K hK => ?_)
            · go_simp
              refine (gateTap_zero g x m v20 ((HSd.out.below HB20.out).gts q g HG.out).choose_spec.2.2.1 ((HSd.out.below HB20.out).gts q g HG.out).choose_spec.2.2.2 HGL.out.1 HGL.out.2 HTG.out).mono ?_
              rintro e v21 ⟨⟨x9, p9, rfl, hN, hX⟩, hb⟩
              have HN := hide hN
              have HX := hide hX
              clear hN hX
              have HB21 := hide (HB20.out.trans (hb.mono HB20.out.size))
              have Z21_23 := hide (at_below Z20_23.out hb)
              have O21_23 := hide (HN.out.offnew (show w0.heap.size < v20.heap.size by omega))
              have q21_23 : w0.heap.size < v21.heap.size := Nat.lt_of_lt_of_le (by omega) hb.size
              have u21 : w0.heap.size ≤ v21.heap.size := HB21.out.size
              refine hK _ _ ⟨HSd.out.below HB21.out, at_below HOd.out HB21.out⟩ ?_
              clear hK K hb HB20 Z20_23
              refine takesH (fuel := 4) (by kernel_rfl) (fun c d v a w h => by cases d <;> exact h) ⟨HSd.out.below HB21.out, at_below HOd.out HB21.out⟩ [18, 19, 20, 21] _ _ (by kernel_rfl) ?_
              refine wpPureH_step (.tuple #[gtV x9.i x9.z x9.s x9.oa x9.A.length x9.ca x9.v x9.od x9.D.length x9.cd x9.l x9.u, tp p9.a p9.g p9.s p9.m p9.z, .int .i64 0]) rfl rfl (fun w' _ => by go_simp) ?_
              refine wpPureH_step (gtV x9.i x9.z x9.s x9.oa x9.A.length x9.ca x9.v x9.od x9.D.length x9.cd x9.l x9.u) rfl rfl (fun w' _ => by go_simp) ?_
              refine wpPureH_step (tp p9.a p9.g p9.s p9.m p9.z) rfl rfl (fun w' _ => by go_simp) ?_
              refine wpPureH_step (.int .i64 0) rfl rfl (fun w' _ => by go_simp) ?_
              refine wpPureH_nil ?_
              refine one_readyH (i := 22) (by kernel_rfl) rfl rfl (fun K hK => ?_)
              go_simp
              have hba := zaG v21
              have HB22 := hide (HB21.out.trans (hba.mono HB21.out.size))
              have Z22_23 := hide (at_below Z21_23.out hba)
              have Z22_22 := hide (znG v21)
              have q22 := zlG v21
              have O22_22 := hide (HN.out.offlt)
              have N22 := hide (HN.out.below hba)
              refine hK _ _ ⟨HSd.out.below HB22.out, at_below HOd.out HB22.out⟩ ?_
              clear hK K hba HB21 Z21_23 HN
              generalize v21.alloc _ = v22 at *
              obtain ⟨r0, r1, r2, r3, r4, r5, r6, r7, s0, s1, s2, s3, s4, s5, s6, s7⟩ := csG Z22_22.out
              have Y23_22 := hide (stG Z22_22.out x9)
              have Y23_23 := hide (soG Z22_23.out (b := v21.heap.size) (by omega) x9)
              have HB23 := hide (sbG HB22.out (b := v21.heap.size) (by omega) x9)
              have N23 := hide (snG N22.out O22_22.out x9)
              refine one_readyH (i := 24) (by kernel_rfl) rfl rfl (fun K hK => ?_)
              go_simp
              refine hK _ _ ⟨HSd.out.below HB23.out, at_below HOd.out HB23.out⟩ ?_
              clear hK K r0 s0 r1 s1 r2 s2 r3 s3 r4 s4 r5 s5 r6 s6 r7 s7 HB22 N22 Z22_22 Z22_23
              generalize World.setCell _ ⟨v21.heap.size, 7, none⟩ _ = z23 at *
              obtain ⟨r0, r1, r2, r3, r4, s0, s1, s2, s3, s4⟩ := csT Y23_23.out
              have Y24_23 := hide (stT Y23_23.out p9)
              have Y24_22 := hide (soT Y23_22.out (b := w0.heap.size) (by omega) p9)
              have HB24 := hide (sbT HB23.out (b := w0.heap.size) (by omega) p9)
              have N24 := hide (snT N23.out O21_23.out p9)
              refine one_readyH (i := 25) (by kernel_rfl) rfl rfl (fun K hK => ?_)
              go_simp
              refine hK _ _ ⟨HSd.out.below HB24.out, at_below HOd.out HB24.out⟩ ?_
              clear hK K r0 s0 r1 s1 r2 s2 r3 s3 r4 s4 HB23 N23 Y23_22 Y23_23
              generalize World.setCell _ ⟨w0.heap.size, 4, none⟩ _ = z24 at *
              refine one_readyH (i := 26) (by kernel_rfl) rfl rfl (fun K hK => ?_)
              go_simp
              refine hK _ _ ⟨HSd.out.below HB24.out, at_below HOd.out HB24.out⟩ ?_
              clear hK K
              refine wpAnyH_done (by kernel_rfl) ?_ _
              go_wp2_with fail
              go_meet
              case rel => exact ⟨v21.heap.size, w0.heap.size, x9, p9, rfl, rfl, rfl, hide ⟨by omega, Y24_22.out⟩, hide (N24.out.mono (by omega)), hide (HX.out.trans HGQ.out.symm), hide (HAd.out.trans (HB24.out.mono (by omega)))⟩
            · go_simp
              have hba := zaG v20
              have HB25 := hide (HB20.out.trans (hba.mono HB20.out.size))
              have Z25_23 := hide (at_below Z20_23.out hba)
              have Z25_22 := hide (znG v20)
              have q25 := zlG v20
              refine hK _ _ ⟨HSd.out.below HB25.out, at_below HOd.out HB25.out⟩ ?_
              clear hK K hba HB20 Z20_23 
              generalize v20.alloc _ = v25 at *
              refine one_readyH (i := 17) (by kernel_rfl) rfl rfl (fun K hK => ?_)
              go_simp
              refine (gateTap_zero g x m v25 ((HSd.out.below HB25.out).gts q g HG.out).choose_spec.2.2.1 ((HSd.out.below HB25.out).gts q g HG.out).choose_spec.2.2.2 HGL.out.1 HGL.out.2 HTG.out).mono ?_
              rintro e v26 ⟨⟨x9, p9, rfl, hN, hX⟩, hb⟩
              have HN := hide hN
              have HX := hide hX
              clear hN hX
              have HB26 := hide (HB25.out.trans (hb.mono HB25.out.size))
              have Z26_23 := hide (at_below Z25_23.out hb)
              have O26_23 := hide (HN.out.offnew (show w0.heap.size < v25.heap.size by omega))
              have q26_23 : w0.heap.size < v26.heap.size := Nat.lt_of_lt_of_le (by omega) hb.size
              have Z26_22 := hide (at_below Z25_22.out hb)
              have O26_22 := hide (HN.out.offnew (show v20.heap.size < v25.heap.size by omega))
              have q26_22 : v20.heap.size < v26.heap.size := Nat.lt_of_lt_of_le (by omega) hb.size
              have u26 : w0.heap.size ≤ v26.heap.size := HB26.out.size
              refine hK _ _ ⟨HSd.out.below HB26.out, at_below HOd.out HB26.out⟩ ?_
              clear hK K hb HB25 Z25_23 Z25_22
              refine takesH (fuel := 3) (by kernel_rfl) (fun c d v a w h => by cases d <;> exact h) ⟨HSd.out.below HB26.out, at_below HOd.out HB26.out⟩ [18, 19, 20, 21] _ _ (by kernel_rfl) ?_
              refine wpPureH_step (.tuple #[gtV x9.i x9.z x9.s x9.oa x9.A.length x9.ca x9.v x9.od x9.D.length x9.cd x9.l x9.u, tp p9.a p9.g p9.s p9.m p9.z, .int .i64 0]) rfl rfl (fun w' _ => by go_simp) ?_
              refine wpPureH_step (gtV x9.i x9.z x9.s x9.oa x9.A.length x9.ca x9.v x9.od x9.D.length x9.cd x9.l x9.u) rfl rfl (fun w' _ => by go_simp) ?_
              refine wpPureH_step (tp p9.a p9.g p9.s p9.m p9.z) rfl rfl (fun w' _ => by go_simp) ?_
              refine wpPureH_step (.int .i64 0) rfl rfl (fun w' _ => by go_simp) ?_
              refine wpPureH_nil ?_
              obtain ⟨r0, r1, r2, r3, r4, r5, r6, r7, s0, s1, s2, s3, s4, s5, s6, s7⟩ := csG Z26_22.out
              have Y27_22 := hide (stG Z26_22.out x9)
              have Y27_23 := hide (soG Z26_23.out (b := v20.heap.size) (by omega) x9)
              have HB27 := hide (sbG HB26.out (b := v20.heap.size) (by omega) x9)
              have N27 := hide (snG HN.out O26_22.out x9)
              refine one_readyH (i := 24) (by kernel_rfl) rfl rfl (fun K hK => ?_)
              go_simp
              refine hK _ _ ⟨HSd.out.below HB27.out, at_below HOd.out HB27.out⟩ ?_
              clear hK K r0 s0 r1 s1 r2 s2 r3 s3 r4 s4 r5 s5 r6 s6 r7 s7 HB26 HN Z26_22 Z26_23
              generalize World.setCell _ ⟨v20.heap.size, 7, none⟩ _ = z27 at *
              obtain ⟨r0, r1, r2, r3, r4, s0, s1, s2, s3, s4⟩ := csT Y27_23.out
              have Y28_23 := hide (stT Y27_23.out p9)
              have Y28_22 := hide (soT Y27_22.out (b := w0.heap.size) (by omega) p9)
              have HB28 := hide (sbT HB27.out (b := w0.heap.size) (by omega) p9)
              have N28 := hide (snT N27.out O26_23.out p9)
              refine one_readyH (i := 25) (by kernel_rfl) rfl rfl (fun K hK => ?_)
              go_simp
              refine hK _ _ ⟨HSd.out.below HB28.out, at_below HOd.out HB28.out⟩ ?_
              clear hK K r0 s0 r1 s1 r2 s2 r3 s3 r4 s4 HB27 N27 Y27_22 Y27_23
              generalize World.setCell _ ⟨w0.heap.size, 4, none⟩ _ = z28 at *
              refine one_readyH (i := 26) (by kernel_rfl) rfl rfl (fun K hK => ?_)
              go_simp
              refine hK _ _ ⟨HSd.out.below HB28.out, at_below HOd.out HB28.out⟩ ?_
              clear hK K
              refine wpAnyH_done (by kernel_rfl) ?_ _
              go_wp2_with fail
              go_meet
              case rel => exact ⟨v20.heap.size, w0.heap.size, x9, p9, rfl, rfl, rfl, hide ⟨by omega, Y28_22.out⟩, hide (N28.out.mono (by omega)), hide (HX.out.trans HGQ.out.symm), hide (HAd.out.trans (HB28.out.mono (by omega)))⟩
        · go_simp
          have hba := zaG w0
          have HB29 := hide (hba)
          have Z29_22 := hide (znG w0)
          have q29 := zlG w0
          refine hK _ _ ⟨HSd.out.below HB29.out, at_below HOd.out HB29.out⟩ ?_
          clear hK K hba   
          generalize w0.alloc _ = v29 at *
          refine two_readyH (i := 12) (j := 23) (by kernel_rfl) rfl rfl rfl rfl (fun K hK => ?_) (fun K hK => ?_)
          · go_simp
            refine (ticketAt_any (some bt) c1 T id v29 (HSd.out.below HB29.out).led.parts3.1.ats HTL.out).mono ?_
            rintro e v30 ⟨rfl, hw⟩
            obtain rfl := hw.symm
            clear hw
            rw [HIX.out]
            refine hK _ _ ⟨HSd.out.below HB29.out, at_below HOd.out HB29.out⟩ ?_
            clear hK K
            refine takesH (fuel := 9) (by kernel_rfl) (fun c d v a w h => by cases d <;> exact h) ⟨HSd.out.below HB29.out, at_below HOd.out HB29.out⟩ [13, 14, 15] _ _ (by kernel_rfl) ?_
            refine wpPureH_step (.int .i64 (k : Int)) rfl rfl (fun w' hS => ?_) ?_
            · have hk0 : (0 : Int) ≤ (k : Int) := by omega
              go_simp
            refine wpPureH_step (.pointer (some (bt.add (k * 6)))) rfl rfl (fun w' hS => ?_) ?_
            · have hkT : k < T.length := HKT.out
              go_simp
            refine wpPureH_step (tk x.i x.k x.f x.t x.z x.r) rfl rfl (fun w' hS => ?_) ?_
            · obtain ⟨b1, hb1, h61⟩ := hS.1.led.parts3.1.ats k x HTX.out
              obtain rfl := Option.some.inj hb1
              obtain ⟨s0, s1, s2, s3, s4, s5⟩ := h61
              go_simp
            refine wpPureH_nil ?_
            refine two_readyH (i := 17) (j := 23) (by kernel_rfl) rfl rfl rfl rfl (fun K hK => ?_) (fun K hK => ?_)
            · go_simp
              refine (gateTap_zero g x m v29 ((HSd.out.below HB29.out).gts q g HG.out).choose_spec.2.2.1 ((HSd.out.below HB29.out).gts q g HG.out).choose_spec.2.2.2 HGL.out.1 HGL.out.2 HTG.out).mono ?_
              rintro e v31 ⟨⟨x9, p9, rfl, hN, hX⟩, hb⟩
              have HN := hide hN
              have HX := hide hX
              clear hN hX
              have HB31 := hide (HB29.out.trans (hb.mono HB29.out.size))
              have Z31_22 := hide (at_below Z29_22.out hb)
              have O31_22 := hide (HN.out.offnew (show w0.heap.size < v29.heap.size by omega))
              have q31_22 : w0.heap.size < v31.heap.size := Nat.lt_of_lt_of_le (by omega) hb.size
              have u31 : w0.heap.size ≤ v31.heap.size := HB31.out.size
              refine hK _ _ ⟨HSd.out.below HB31.out, at_below HOd.out HB31.out⟩ ?_
              clear hK K hb HB29 Z29_22
              refine takesH (fuel := 4) (by kernel_rfl) (fun c d v a w h => by cases d <;> exact h) ⟨HSd.out.below HB31.out, at_below HOd.out HB31.out⟩ [18, 19, 20, 21] _ _ (by kernel_rfl) ?_
              refine wpPureH_step (.tuple #[gtV x9.i x9.z x9.s x9.oa x9.A.length x9.ca x9.v x9.od x9.D.length x9.cd x9.l x9.u, tp p9.a p9.g p9.s p9.m p9.z, .int .i64 0]) rfl rfl (fun w' _ => by go_simp) ?_
              refine wpPureH_step (gtV x9.i x9.z x9.s x9.oa x9.A.length x9.ca x9.v x9.od x9.D.length x9.cd x9.l x9.u) rfl rfl (fun w' _ => by go_simp) ?_
              refine wpPureH_step (tp p9.a p9.g p9.s p9.m p9.z) rfl rfl (fun w' _ => by go_simp) ?_
              refine wpPureH_step (.int .i64 0) rfl rfl (fun w' _ => by go_simp) ?_
              refine wpPureH_nil ?_
              refine one_readyH (i := 23) (by kernel_rfl) rfl rfl (fun K hK => ?_)
              go_simp
              have hba := zaT v31
              have HB32 := hide (HB31.out.trans (hba.mono HB31.out.size))
              have Z32_22 := hide (at_below Z31_22.out hba)
              have Z32_23 := hide (znT v31)
              have q32 := zlT v31
              have O32_23 := hide (HN.out.offlt)
              have N32 := hide (HN.out.below hba)
              refine hK _ _ ⟨HSd.out.below HB32.out, at_below HOd.out HB32.out⟩ ?_
              clear hK K hba HB31 Z31_22 HN
              generalize v31.alloc _ = v32 at *
              obtain ⟨r0, r1, r2, r3, r4, r5, r6, r7, s0, s1, s2, s3, s4, s5, s6, s7⟩ := csG Z32_22.out
              have Y33_22 := hide (stG Z32_22.out x9)
              have Y33_23 := hide (soG Z32_23.out (b := w0.heap.size) (by omega) x9)
              have HB33 := hide (sbG HB32.out (b := w0.heap.size) (by omega) x9)
              have N33 := hide (snG N32.out O31_22.out x9)
              refine one_readyH (i := 24) (by kernel_rfl) rfl rfl (fun K hK => ?_)
              go_simp
              refine hK _ _ ⟨HSd.out.below HB33.out, at_below HOd.out HB33.out⟩ ?_
              clear hK K r0 s0 r1 s1 r2 s2 r3 s3 r4 s4 r5 s5 r6 s6 r7 s7 HB32 N32 Z32_22 Z32_23
              generalize World.setCell _ ⟨w0.heap.size, 7, none⟩ _ = z33 at *
              obtain ⟨r0, r1, r2, r3, r4, s0, s1, s2, s3, s4⟩ := csT Y33_23.out
              have Y34_23 := hide (stT Y33_23.out p9)
              have Y34_22 := hide (soT Y33_22.out (b := v31.heap.size) (by omega) p9)
              have HB34 := hide (sbT HB33.out (b := v31.heap.size) (by omega) p9)
              have N34 := hide (snT N33.out O32_23.out p9)
              refine one_readyH (i := 25) (by kernel_rfl) rfl rfl (fun K hK => ?_)
              go_simp
              refine hK _ _ ⟨HSd.out.below HB34.out, at_below HOd.out HB34.out⟩ ?_
              clear hK K r0 s0 r1 s1 r2 s2 r3 s3 r4 s4 HB33 N33 Y33_22 Y33_23
              generalize World.setCell _ ⟨v31.heap.size, 4, none⟩ _ = z34 at *
              refine one_readyH (i := 26) (by kernel_rfl) rfl rfl (fun K hK => ?_)
              go_simp
              refine hK _ _ ⟨HSd.out.below HB34.out, at_below HOd.out HB34.out⟩ ?_
              clear hK K
              refine wpAnyH_done (by kernel_rfl) ?_ _
              go_wp2_with fail
              go_meet
              case rel => exact ⟨w0.heap.size, v31.heap.size, x9, p9, rfl, rfl, rfl, hide ⟨by omega, Y34_22.out⟩, hide (N34.out.mono (by omega)), hide (HX.out.trans HGQ.out.symm), hide (HAd.out.trans (HB34.out.mono (by omega)))⟩
            · go_simp
              have hba := zaT v29
              have HB35 := hide (HB29.out.trans (hba.mono HB29.out.size))
              have Z35_22 := hide (at_below Z29_22.out hba)
              have Z35_23 := hide (znT v29)
              have q35 := zlT v29
              refine hK _ _ ⟨HSd.out.below HB35.out, at_below HOd.out HB35.out⟩ ?_
              clear hK K hba HB29 Z29_22 
              generalize v29.alloc _ = v35 at *
              refine one_readyH (i := 17) (by kernel_rfl) rfl rfl (fun K hK => ?_)
              go_simp
              refine (gateTap_zero g x m v35 ((HSd.out.below HB35.out).gts q g HG.out).choose_spec.2.2.1 ((HSd.out.below HB35.out).gts q g HG.out).choose_spec.2.2.2 HGL.out.1 HGL.out.2 HTG.out).mono ?_
              rintro e v36 ⟨⟨x9, p9, rfl, hN, hX⟩, hb⟩
              have HN := hide hN
              have HX := hide hX
              clear hN hX
              have HB36 := hide (HB35.out.trans (hb.mono HB35.out.size))
              have Z36_22 := hide (at_below Z35_22.out hb)
              have O36_22 := hide (HN.out.offnew (show w0.heap.size < v35.heap.size by omega))
              have q36_22 : w0.heap.size < v36.heap.size := Nat.lt_of_lt_of_le (by omega) hb.size
              have Z36_23 := hide (at_below Z35_23.out hb)
              have O36_23 := hide (HN.out.offnew (show v29.heap.size < v35.heap.size by omega))
              have q36_23 : v29.heap.size < v36.heap.size := Nat.lt_of_lt_of_le (by omega) hb.size
              have u36 : w0.heap.size ≤ v36.heap.size := HB36.out.size
              refine hK _ _ ⟨HSd.out.below HB36.out, at_below HOd.out HB36.out⟩ ?_
              clear hK K hb HB35 Z35_22 Z35_23
              refine takesH (fuel := 3) (by kernel_rfl) (fun c d v a w h => by cases d <;> exact h) ⟨HSd.out.below HB36.out, at_below HOd.out HB36.out⟩ [18, 19, 20, 21] _ _ (by kernel_rfl) ?_
              refine wpPureH_step (.tuple #[gtV x9.i x9.z x9.s x9.oa x9.A.length x9.ca x9.v x9.od x9.D.length x9.cd x9.l x9.u, tp p9.a p9.g p9.s p9.m p9.z, .int .i64 0]) rfl rfl (fun w' _ => by go_simp) ?_
              refine wpPureH_step (gtV x9.i x9.z x9.s x9.oa x9.A.length x9.ca x9.v x9.od x9.D.length x9.cd x9.l x9.u) rfl rfl (fun w' _ => by go_simp) ?_
              refine wpPureH_step (tp p9.a p9.g p9.s p9.m p9.z) rfl rfl (fun w' _ => by go_simp) ?_
              refine wpPureH_step (.int .i64 0) rfl rfl (fun w' _ => by go_simp) ?_
              refine wpPureH_nil ?_
              obtain ⟨r0, r1, r2, r3, r4, r5, r6, r7, s0, s1, s2, s3, s4, s5, s6, s7⟩ := csG Z36_22.out
              have Y37_22 := hide (stG Z36_22.out x9)
              have Y37_23 := hide (soG Z36_23.out (b := w0.heap.size) (by omega) x9)
              have HB37 := hide (sbG HB36.out (b := w0.heap.size) (by omega) x9)
              have N37 := hide (snG HN.out O36_22.out x9)
              refine one_readyH (i := 24) (by kernel_rfl) rfl rfl (fun K hK => ?_)
              go_simp
              refine hK _ _ ⟨HSd.out.below HB37.out, at_below HOd.out HB37.out⟩ ?_
              clear hK K r0 s0 r1 s1 r2 s2 r3 s3 r4 s4 r5 s5 r6 s6 r7 s7 HB36 HN Z36_22 Z36_23
              generalize World.setCell _ ⟨w0.heap.size, 7, none⟩ _ = z37 at *
              obtain ⟨r0, r1, r2, r3, r4, s0, s1, s2, s3, s4⟩ := csT Y37_23.out
              have Y38_23 := hide (stT Y37_23.out p9)
              have Y38_22 := hide (soT Y37_22.out (b := v29.heap.size) (by omega) p9)
              have HB38 := hide (sbT HB37.out (b := v29.heap.size) (by omega) p9)
              have N38 := hide (snT N37.out O36_23.out p9)
              refine one_readyH (i := 25) (by kernel_rfl) rfl rfl (fun K hK => ?_)
              go_simp
              refine hK _ _ ⟨HSd.out.below HB38.out, at_below HOd.out HB38.out⟩ ?_
              clear hK K r0 s0 r1 s1 r2 s2 r3 s3 r4 s4 HB37 N37 Y37_22 Y37_23
              generalize World.setCell _ ⟨v29.heap.size, 4, none⟩ _ = z38 at *
              refine one_readyH (i := 26) (by kernel_rfl) rfl rfl (fun K hK => ?_)
              go_simp
              refine hK _ _ ⟨HSd.out.below HB38.out, at_below HOd.out HB38.out⟩ ?_
              clear hK K
              refine wpAnyH_done (by kernel_rfl) ?_ _
              go_wp2_with fail
              go_meet
              case rel => exact ⟨w0.heap.size, v29.heap.size, x9, p9, rfl, rfl, rfl, hide ⟨by omega, Y38_22.out⟩, hide (N38.out.mono (by omega)), hide (HX.out.trans HGQ.out.symm), hide (HAd.out.trans (HB38.out.mono (by omega)))⟩
          · go_simp
            have hba := zaT v29
            have HB39 := hide (HB29.out.trans (hba.mono HB29.out.size))
            have Z39_22 := hide (at_below Z29_22.out hba)
            have Z39_23 := hide (znT v29)
            have q39 := zlT v29
            refine hK _ _ ⟨HSd.out.below HB39.out, at_below HOd.out HB39.out⟩ ?_
            clear hK K hba HB29 Z29_22 
            generalize v29.alloc _ = v39 at *
            refine one_readyH (i := 12) (by kernel_rfl) rfl rfl (fun K hK => ?_)
            go_simp
            refine (ticketAt_any (some bt) c1 T id v39 (HSd.out.below HB39.out).led.parts3.1.ats HTL.out).mono ?_
            rintro e v40 ⟨rfl, hw⟩
            obtain rfl := hw.symm
            clear hw
            rw [HIX.out]
            refine hK _ _ ⟨HSd.out.below HB39.out, at_below HOd.out HB39.out⟩ ?_
            clear hK K
            refine takesH (fuel := 8) (by kernel_rfl) (fun c d v a w h => by cases d <;> exact h) ⟨HSd.out.below HB39.out, at_below HOd.out HB39.out⟩ [13, 14, 15] _ _ (by kernel_rfl) ?_
            refine wpPureH_step (.int .i64 (k : Int)) rfl rfl (fun w' hS => ?_) ?_
            · have hk0 : (0 : Int) ≤ (k : Int) := by omega
              go_simp
            refine wpPureH_step (.pointer (some (bt.add (k * 6)))) rfl rfl (fun w' hS => ?_) ?_
            · have hkT : k < T.length := HKT.out
              go_simp
            refine wpPureH_step (tk x.i x.k x.f x.t x.z x.r) rfl rfl (fun w' hS => ?_) ?_
            · obtain ⟨b1, hb1, h61⟩ := hS.1.led.parts3.1.ats k x HTX.out
              obtain rfl := Option.some.inj hb1
              obtain ⟨s0, s1, s2, s3, s4, s5⟩ := h61
              go_simp
            refine wpPureH_nil ?_
            refine one_readyH (i := 17) (by kernel_rfl) rfl rfl (fun K hK => ?_)
            go_simp
            refine (gateTap_zero g x m v39 ((HSd.out.below HB39.out).gts q g HG.out).choose_spec.2.2.1 ((HSd.out.below HB39.out).gts q g HG.out).choose_spec.2.2.2 HGL.out.1 HGL.out.2 HTG.out).mono ?_
            rintro e v41 ⟨⟨x9, p9, rfl, hN, hX⟩, hb⟩
            have HN := hide hN
            have HX := hide hX
            clear hN hX
            have HB41 := hide (HB39.out.trans (hb.mono HB39.out.size))
            have Z41_22 := hide (at_below Z39_22.out hb)
            have O41_22 := hide (HN.out.offnew (show w0.heap.size < v39.heap.size by omega))
            have q41_22 : w0.heap.size < v41.heap.size := Nat.lt_of_lt_of_le (by omega) hb.size
            have Z41_23 := hide (at_below Z39_23.out hb)
            have O41_23 := hide (HN.out.offnew (show v29.heap.size < v39.heap.size by omega))
            have q41_23 : v29.heap.size < v41.heap.size := Nat.lt_of_lt_of_le (by omega) hb.size
            have u41 : w0.heap.size ≤ v41.heap.size := HB41.out.size
            refine hK _ _ ⟨HSd.out.below HB41.out, at_below HOd.out HB41.out⟩ ?_
            clear hK K hb HB39 Z39_22 Z39_23
            refine takesH (fuel := 3) (by kernel_rfl) (fun c d v a w h => by cases d <;> exact h) ⟨HSd.out.below HB41.out, at_below HOd.out HB41.out⟩ [18, 19, 20, 21] _ _ (by kernel_rfl) ?_
            refine wpPureH_step (.tuple #[gtV x9.i x9.z x9.s x9.oa x9.A.length x9.ca x9.v x9.od x9.D.length x9.cd x9.l x9.u, tp p9.a p9.g p9.s p9.m p9.z, .int .i64 0]) rfl rfl (fun w' _ => by go_simp) ?_
            refine wpPureH_step (gtV x9.i x9.z x9.s x9.oa x9.A.length x9.ca x9.v x9.od x9.D.length x9.cd x9.l x9.u) rfl rfl (fun w' _ => by go_simp) ?_
            refine wpPureH_step (tp p9.a p9.g p9.s p9.m p9.z) rfl rfl (fun w' _ => by go_simp) ?_
            refine wpPureH_step (.int .i64 0) rfl rfl (fun w' _ => by go_simp) ?_
            refine wpPureH_nil ?_
            obtain ⟨r0, r1, r2, r3, r4, r5, r6, r7, s0, s1, s2, s3, s4, s5, s6, s7⟩ := csG Z41_22.out
            have Y42_22 := hide (stG Z41_22.out x9)
            have Y42_23 := hide (soG Z41_23.out (b := w0.heap.size) (by omega) x9)
            have HB42 := hide (sbG HB41.out (b := w0.heap.size) (by omega) x9)
            have N42 := hide (snG HN.out O41_22.out x9)
            refine one_readyH (i := 24) (by kernel_rfl) rfl rfl (fun K hK => ?_)
            go_simp
            refine hK _ _ ⟨HSd.out.below HB42.out, at_below HOd.out HB42.out⟩ ?_
            clear hK K r0 s0 r1 s1 r2 s2 r3 s3 r4 s4 r5 s5 r6 s6 r7 s7 HB41 HN Z41_22 Z41_23
            generalize World.setCell _ ⟨w0.heap.size, 7, none⟩ _ = z42 at *
            obtain ⟨r0, r1, r2, r3, r4, s0, s1, s2, s3, s4⟩ := csT Y42_23.out
            have Y43_23 := hide (stT Y42_23.out p9)
            have Y43_22 := hide (soT Y42_22.out (b := v29.heap.size) (by omega) p9)
            have HB43 := hide (sbT HB42.out (b := v29.heap.size) (by omega) p9)
            have N43 := hide (snT N42.out O41_23.out p9)
            refine one_readyH (i := 25) (by kernel_rfl) rfl rfl (fun K hK => ?_)
            go_simp
            refine hK _ _ ⟨HSd.out.below HB43.out, at_below HOd.out HB43.out⟩ ?_
            clear hK K r0 s0 r1 s1 r2 s2 r3 s3 r4 s4 HB42 N42 Y42_22 Y42_23
            generalize World.setCell _ ⟨v29.heap.size, 4, none⟩ _ = z43 at *
            refine one_readyH (i := 26) (by kernel_rfl) rfl rfl (fun K hK => ?_)
            go_simp
            refine hK _ _ ⟨HSd.out.below HB43.out, at_below HOd.out HB43.out⟩ ?_
            clear hK K
            refine wpAnyH_done (by kernel_rfl) ?_ _
            go_wp2_with fail
            go_meet
            case rel => exact ⟨w0.heap.size, v29.heap.size, x9, p9, rfl, rfl, rfl, hide ⟨by omega, Y43_22.out⟩, hide (N43.out.mono (by omega)), hide (HX.out.trans HGQ.out.symm), hide (HAd.out.trans (HB43.out.mono (by omega)))⟩
        · go_simp
          have hba := zaT w0
          have HB44 := hide (hba)
          have Z44_23 := hide (znT w0)
          have q44 := zlT w0
          refine hK _ _ ⟨HSd.out.below HB44.out, at_below HOd.out HB44.out⟩ ?_
          clear hK K hba   
          generalize w0.alloc _ = v44 at *
          refine two_readyH (i := 12) (j := 22) (by kernel_rfl) rfl rfl rfl rfl (fun K hK => ?_) (fun K hK => ?_)
          · go_simp
            refine (ticketAt_any (some bt) c1 T id v44 (HSd.out.below HB44.out).led.parts3.1.ats HTL.out).mono ?_
            rintro e v45 ⟨rfl, hw⟩
            obtain rfl := hw.symm
            clear hw
            rw [HIX.out]
            refine hK _ _ ⟨HSd.out.below HB44.out, at_below HOd.out HB44.out⟩ ?_
            clear hK K
            refine takesH (fuel := 9) (by kernel_rfl) (fun c d v a w h => by cases d <;> exact h) ⟨HSd.out.below HB44.out, at_below HOd.out HB44.out⟩ [13, 14, 15] _ _ (by kernel_rfl) ?_
            refine wpPureH_step (.int .i64 (k : Int)) rfl rfl (fun w' hS => ?_) ?_
            · have hk0 : (0 : Int) ≤ (k : Int) := by omega
              go_simp
            refine wpPureH_step (.pointer (some (bt.add (k * 6)))) rfl rfl (fun w' hS => ?_) ?_
            · have hkT : k < T.length := HKT.out
              go_simp
            refine wpPureH_step (tk x.i x.k x.f x.t x.z x.r) rfl rfl (fun w' hS => ?_) ?_
            · obtain ⟨b1, hb1, h61⟩ := hS.1.led.parts3.1.ats k x HTX.out
              obtain rfl := Option.some.inj hb1
              obtain ⟨s0, s1, s2, s3, s4, s5⟩ := h61
              go_simp
            refine wpPureH_nil ?_
            refine two_readyH (i := 17) (j := 22) (by kernel_rfl) rfl rfl rfl rfl (fun K hK => ?_) (fun K hK => ?_)
            · go_simp
              refine (gateTap_zero g x m v44 ((HSd.out.below HB44.out).gts q g HG.out).choose_spec.2.2.1 ((HSd.out.below HB44.out).gts q g HG.out).choose_spec.2.2.2 HGL.out.1 HGL.out.2 HTG.out).mono ?_
              rintro e v46 ⟨⟨x9, p9, rfl, hN, hX⟩, hb⟩
              have HN := hide hN
              have HX := hide hX
              clear hN hX
              have HB46 := hide (HB44.out.trans (hb.mono HB44.out.size))
              have Z46_23 := hide (at_below Z44_23.out hb)
              have O46_23 := hide (HN.out.offnew (show w0.heap.size < v44.heap.size by omega))
              have q46_23 : w0.heap.size < v46.heap.size := Nat.lt_of_lt_of_le (by omega) hb.size
              have u46 : w0.heap.size ≤ v46.heap.size := HB46.out.size
              refine hK _ _ ⟨HSd.out.below HB46.out, at_below HOd.out HB46.out⟩ ?_
              clear hK K hb HB44 Z44_23
              refine takesH (fuel := 4) (by kernel_rfl) (fun c d v a w h => by cases d <;> exact h) ⟨HSd.out.below HB46.out, at_below HOd.out HB46.out⟩ [18, 19, 20, 21] _ _ (by kernel_rfl) ?_
              refine wpPureH_step (.tuple #[gtV x9.i x9.z x9.s x9.oa x9.A.length x9.ca x9.v x9.od x9.D.length x9.cd x9.l x9.u, tp p9.a p9.g p9.s p9.m p9.z, .int .i64 0]) rfl rfl (fun w' _ => by go_simp) ?_
              refine wpPureH_step (gtV x9.i x9.z x9.s x9.oa x9.A.length x9.ca x9.v x9.od x9.D.length x9.cd x9.l x9.u) rfl rfl (fun w' _ => by go_simp) ?_
              refine wpPureH_step (tp p9.a p9.g p9.s p9.m p9.z) rfl rfl (fun w' _ => by go_simp) ?_
              refine wpPureH_step (.int .i64 0) rfl rfl (fun w' _ => by go_simp) ?_
              refine wpPureH_nil ?_
              refine one_readyH (i := 22) (by kernel_rfl) rfl rfl (fun K hK => ?_)
              go_simp
              have hba := zaG v46
              have HB47 := hide (HB46.out.trans (hba.mono HB46.out.size))
              have Z47_23 := hide (at_below Z46_23.out hba)
              have Z47_22 := hide (znG v46)
              have q47 := zlG v46
              have O47_22 := hide (HN.out.offlt)
              have N47 := hide (HN.out.below hba)
              refine hK _ _ ⟨HSd.out.below HB47.out, at_below HOd.out HB47.out⟩ ?_
              clear hK K hba HB46 Z46_23 HN
              generalize v46.alloc _ = v47 at *
              obtain ⟨r0, r1, r2, r3, r4, r5, r6, r7, s0, s1, s2, s3, s4, s5, s6, s7⟩ := csG Z47_22.out
              have Y48_22 := hide (stG Z47_22.out x9)
              have Y48_23 := hide (soG Z47_23.out (b := v46.heap.size) (by omega) x9)
              have HB48 := hide (sbG HB47.out (b := v46.heap.size) (by omega) x9)
              have N48 := hide (snG N47.out O47_22.out x9)
              refine one_readyH (i := 24) (by kernel_rfl) rfl rfl (fun K hK => ?_)
              go_simp
              refine hK _ _ ⟨HSd.out.below HB48.out, at_below HOd.out HB48.out⟩ ?_
              clear hK K r0 s0 r1 s1 r2 s2 r3 s3 r4 s4 r5 s5 r6 s6 r7 s7 HB47 N47 Z47_22 Z47_23
              generalize World.setCell _ ⟨v46.heap.size, 7, none⟩ _ = z48 at *
              obtain ⟨r0, r1, r2, r3, r4, s0, s1, s2, s3, s4⟩ := csT Y48_23.out
              have Y49_23 := hide (stT Y48_23.out p9)
              have Y49_22 := hide (soT Y48_22.out (b := w0.heap.size) (by omega) p9)
              have HB49 := hide (sbT HB48.out (b := w0.heap.size) (by omega) p9)
              have N49 := hide (snT N48.out O46_23.out p9)
              refine one_readyH (i := 25) (by kernel_rfl) rfl rfl (fun K hK => ?_)
              go_simp
              refine hK _ _ ⟨HSd.out.below HB49.out, at_below HOd.out HB49.out⟩ ?_
              clear hK K r0 s0 r1 s1 r2 s2 r3 s3 r4 s4 HB48 N48 Y48_22 Y48_23
              generalize World.setCell _ ⟨w0.heap.size, 4, none⟩ _ = z49 at *
              refine one_readyH (i := 26) (by kernel_rfl) rfl rfl (fun K hK => ?_)
              go_simp
              refine hK _ _ ⟨HSd.out.below HB49.out, at_below HOd.out HB49.out⟩ ?_
              clear hK K
              refine wpAnyH_done (by kernel_rfl) ?_ _
              go_wp2_with fail
              go_meet
              case rel => exact ⟨v46.heap.size, w0.heap.size, x9, p9, rfl, rfl, rfl, hide ⟨by omega, Y49_22.out⟩, hide (N49.out.mono (by omega)), hide (HX.out.trans HGQ.out.symm), hide (HAd.out.trans (HB49.out.mono (by omega)))⟩
            · go_simp
              have hba := zaG v44
              have HB50 := hide (HB44.out.trans (hba.mono HB44.out.size))
              have Z50_23 := hide (at_below Z44_23.out hba)
              have Z50_22 := hide (znG v44)
              have q50 := zlG v44
              refine hK _ _ ⟨HSd.out.below HB50.out, at_below HOd.out HB50.out⟩ ?_
              clear hK K hba HB44 Z44_23 
              generalize v44.alloc _ = v50 at *
              refine one_readyH (i := 17) (by kernel_rfl) rfl rfl (fun K hK => ?_)
              go_simp
              refine (gateTap_zero g x m v50 ((HSd.out.below HB50.out).gts q g HG.out).choose_spec.2.2.1 ((HSd.out.below HB50.out).gts q g HG.out).choose_spec.2.2.2 HGL.out.1 HGL.out.2 HTG.out).mono ?_
              rintro e v51 ⟨⟨x9, p9, rfl, hN, hX⟩, hb⟩
              have HN := hide hN
              have HX := hide hX
              clear hN hX
              have HB51 := hide (HB50.out.trans (hb.mono HB50.out.size))
              have Z51_23 := hide (at_below Z50_23.out hb)
              have O51_23 := hide (HN.out.offnew (show w0.heap.size < v50.heap.size by omega))
              have q51_23 : w0.heap.size < v51.heap.size := Nat.lt_of_lt_of_le (by omega) hb.size
              have Z51_22 := hide (at_below Z50_22.out hb)
              have O51_22 := hide (HN.out.offnew (show v44.heap.size < v50.heap.size by omega))
              have q51_22 : v44.heap.size < v51.heap.size := Nat.lt_of_lt_of_le (by omega) hb.size
              have u51 : w0.heap.size ≤ v51.heap.size := HB51.out.size
              refine hK _ _ ⟨HSd.out.below HB51.out, at_below HOd.out HB51.out⟩ ?_
              clear hK K hb HB50 Z50_23 Z50_22
              refine takesH (fuel := 3) (by kernel_rfl) (fun c d v a w h => by cases d <;> exact h) ⟨HSd.out.below HB51.out, at_below HOd.out HB51.out⟩ [18, 19, 20, 21] _ _ (by kernel_rfl) ?_
              refine wpPureH_step (.tuple #[gtV x9.i x9.z x9.s x9.oa x9.A.length x9.ca x9.v x9.od x9.D.length x9.cd x9.l x9.u, tp p9.a p9.g p9.s p9.m p9.z, .int .i64 0]) rfl rfl (fun w' _ => by go_simp) ?_
              refine wpPureH_step (gtV x9.i x9.z x9.s x9.oa x9.A.length x9.ca x9.v x9.od x9.D.length x9.cd x9.l x9.u) rfl rfl (fun w' _ => by go_simp) ?_
              refine wpPureH_step (tp p9.a p9.g p9.s p9.m p9.z) rfl rfl (fun w' _ => by go_simp) ?_
              refine wpPureH_step (.int .i64 0) rfl rfl (fun w' _ => by go_simp) ?_
              refine wpPureH_nil ?_
              obtain ⟨r0, r1, r2, r3, r4, r5, r6, r7, s0, s1, s2, s3, s4, s5, s6, s7⟩ := csG Z51_22.out
              have Y52_22 := hide (stG Z51_22.out x9)
              have Y52_23 := hide (soG Z51_23.out (b := v44.heap.size) (by omega) x9)
              have HB52 := hide (sbG HB51.out (b := v44.heap.size) (by omega) x9)
              have N52 := hide (snG HN.out O51_22.out x9)
              refine one_readyH (i := 24) (by kernel_rfl) rfl rfl (fun K hK => ?_)
              go_simp
              refine hK _ _ ⟨HSd.out.below HB52.out, at_below HOd.out HB52.out⟩ ?_
              clear hK K r0 s0 r1 s1 r2 s2 r3 s3 r4 s4 r5 s5 r6 s6 r7 s7 HB51 HN Z51_22 Z51_23
              generalize World.setCell _ ⟨v44.heap.size, 7, none⟩ _ = z52 at *
              obtain ⟨r0, r1, r2, r3, r4, s0, s1, s2, s3, s4⟩ := csT Y52_23.out
              have Y53_23 := hide (stT Y52_23.out p9)
              have Y53_22 := hide (soT Y52_22.out (b := w0.heap.size) (by omega) p9)
              have HB53 := hide (sbT HB52.out (b := w0.heap.size) (by omega) p9)
              have N53 := hide (snT N52.out O51_23.out p9)
              refine one_readyH (i := 25) (by kernel_rfl) rfl rfl (fun K hK => ?_)
              go_simp
              refine hK _ _ ⟨HSd.out.below HB53.out, at_below HOd.out HB53.out⟩ ?_
              clear hK K r0 s0 r1 s1 r2 s2 r3 s3 r4 s4 HB52 N52 Y52_22 Y52_23
              generalize World.setCell _ ⟨w0.heap.size, 4, none⟩ _ = z53 at *
              refine one_readyH (i := 26) (by kernel_rfl) rfl rfl (fun K hK => ?_)
              go_simp
              refine hK _ _ ⟨HSd.out.below HB53.out, at_below HOd.out HB53.out⟩ ?_
              clear hK K
              refine wpAnyH_done (by kernel_rfl) ?_ _
              go_wp2_with fail
              go_meet
              case rel => exact ⟨v44.heap.size, w0.heap.size, x9, p9, rfl, rfl, rfl, hide ⟨by omega, Y53_22.out⟩, hide (N53.out.mono (by omega)), hide (HX.out.trans HGQ.out.symm), hide (HAd.out.trans (HB53.out.mono (by omega)))⟩
          · go_simp
            have hba := zaG v44
            have HB54 := hide (HB44.out.trans (hba.mono HB44.out.size))
            have Z54_23 := hide (at_below Z44_23.out hba)
            have Z54_22 := hide (znG v44)
            have q54 := zlG v44
            refine hK _ _ ⟨HSd.out.below HB54.out, at_below HOd.out HB54.out⟩ ?_
            clear hK K hba HB44 Z44_23 
            generalize v44.alloc _ = v54 at *
            refine one_readyH (i := 12) (by kernel_rfl) rfl rfl (fun K hK => ?_)
            go_simp
            refine (ticketAt_any (some bt) c1 T id v54 (HSd.out.below HB54.out).led.parts3.1.ats HTL.out).mono ?_
            rintro e v55 ⟨rfl, hw⟩
            obtain rfl := hw.symm
            clear hw
            rw [HIX.out]
            refine hK _ _ ⟨HSd.out.below HB54.out, at_below HOd.out HB54.out⟩ ?_
            clear hK K
            refine takesH (fuel := 8) (by kernel_rfl) (fun c d v a w h => by cases d <;> exact h) ⟨HSd.out.below HB54.out, at_below HOd.out HB54.out⟩ [13, 14, 15] _ _ (by kernel_rfl) ?_
            refine wpPureH_step (.int .i64 (k : Int)) rfl rfl (fun w' hS => ?_) ?_
            · have hk0 : (0 : Int) ≤ (k : Int) := by omega
              go_simp
            refine wpPureH_step (.pointer (some (bt.add (k * 6)))) rfl rfl (fun w' hS => ?_) ?_
            · have hkT : k < T.length := HKT.out
              go_simp
            refine wpPureH_step (tk x.i x.k x.f x.t x.z x.r) rfl rfl (fun w' hS => ?_) ?_
            · obtain ⟨b1, hb1, h61⟩ := hS.1.led.parts3.1.ats k x HTX.out
              obtain rfl := Option.some.inj hb1
              obtain ⟨s0, s1, s2, s3, s4, s5⟩ := h61
              go_simp
            refine wpPureH_nil ?_
            refine one_readyH (i := 17) (by kernel_rfl) rfl rfl (fun K hK => ?_)
            go_simp
            refine (gateTap_zero g x m v54 ((HSd.out.below HB54.out).gts q g HG.out).choose_spec.2.2.1 ((HSd.out.below HB54.out).gts q g HG.out).choose_spec.2.2.2 HGL.out.1 HGL.out.2 HTG.out).mono ?_
            rintro e v56 ⟨⟨x9, p9, rfl, hN, hX⟩, hb⟩
            have HN := hide hN
            have HX := hide hX
            clear hN hX
            have HB56 := hide (HB54.out.trans (hb.mono HB54.out.size))
            have Z56_23 := hide (at_below Z54_23.out hb)
            have O56_23 := hide (HN.out.offnew (show w0.heap.size < v54.heap.size by omega))
            have q56_23 : w0.heap.size < v56.heap.size := Nat.lt_of_lt_of_le (by omega) hb.size
            have Z56_22 := hide (at_below Z54_22.out hb)
            have O56_22 := hide (HN.out.offnew (show v44.heap.size < v54.heap.size by omega))
            have q56_22 : v44.heap.size < v56.heap.size := Nat.lt_of_lt_of_le (by omega) hb.size
            have u56 : w0.heap.size ≤ v56.heap.size := HB56.out.size
            refine hK _ _ ⟨HSd.out.below HB56.out, at_below HOd.out HB56.out⟩ ?_
            clear hK K hb HB54 Z54_23 Z54_22
            refine takesH (fuel := 3) (by kernel_rfl) (fun c d v a w h => by cases d <;> exact h) ⟨HSd.out.below HB56.out, at_below HOd.out HB56.out⟩ [18, 19, 20, 21] _ _ (by kernel_rfl) ?_
            refine wpPureH_step (.tuple #[gtV x9.i x9.z x9.s x9.oa x9.A.length x9.ca x9.v x9.od x9.D.length x9.cd x9.l x9.u, tp p9.a p9.g p9.s p9.m p9.z, .int .i64 0]) rfl rfl (fun w' _ => by go_simp) ?_
            refine wpPureH_step (gtV x9.i x9.z x9.s x9.oa x9.A.length x9.ca x9.v x9.od x9.D.length x9.cd x9.l x9.u) rfl rfl (fun w' _ => by go_simp) ?_
            refine wpPureH_step (tp p9.a p9.g p9.s p9.m p9.z) rfl rfl (fun w' _ => by go_simp) ?_
            refine wpPureH_step (.int .i64 0) rfl rfl (fun w' _ => by go_simp) ?_
            refine wpPureH_nil ?_
            obtain ⟨r0, r1, r2, r3, r4, r5, r6, r7, s0, s1, s2, s3, s4, s5, s6, s7⟩ := csG Z56_22.out
            have Y57_22 := hide (stG Z56_22.out x9)
            have Y57_23 := hide (soG Z56_23.out (b := v44.heap.size) (by omega) x9)
            have HB57 := hide (sbG HB56.out (b := v44.heap.size) (by omega) x9)
            have N57 := hide (snG HN.out O56_22.out x9)
            refine one_readyH (i := 24) (by kernel_rfl) rfl rfl (fun K hK => ?_)
            go_simp
            refine hK _ _ ⟨HSd.out.below HB57.out, at_below HOd.out HB57.out⟩ ?_
            clear hK K r0 s0 r1 s1 r2 s2 r3 s3 r4 s4 r5 s5 r6 s6 r7 s7 HB56 HN Z56_22 Z56_23
            generalize World.setCell _ ⟨v44.heap.size, 7, none⟩ _ = z57 at *
            obtain ⟨r0, r1, r2, r3, r4, s0, s1, s2, s3, s4⟩ := csT Y57_23.out
            have Y58_23 := hide (stT Y57_23.out p9)
            have Y58_22 := hide (soT Y57_22.out (b := w0.heap.size) (by omega) p9)
            have HB58 := hide (sbT HB57.out (b := w0.heap.size) (by omega) p9)
            have N58 := hide (snT N57.out O56_23.out p9)
            refine one_readyH (i := 25) (by kernel_rfl) rfl rfl (fun K hK => ?_)
            go_simp
            refine hK _ _ ⟨HSd.out.below HB58.out, at_below HOd.out HB58.out⟩ ?_
            clear hK K r0 s0 r1 s1 r2 s2 r3 s3 r4 s4 HB57 N57 Y57_22 Y57_23
            generalize World.setCell _ ⟨w0.heap.size, 4, none⟩ _ = z58 at *
            refine one_readyH (i := 26) (by kernel_rfl) rfl rfl (fun K hK => ?_)
            go_simp
            refine hK _ _ ⟨HSd.out.below HB58.out, at_below HOd.out HB58.out⟩ ?_
            clear hK K
            refine wpAnyH_done (by kernel_rfl) ?_ _
            go_wp2_with fail
            go_meet
            case rel => exact ⟨v44.heap.size, w0.heap.size, x9, p9, rfl, rfl, rfl, hide ⟨by omega, Y58_22.out⟩, hide (N58.out.mono (by omega)), hide (HX.out.trans HGQ.out.symm), hide (HAd.out.trans (HB58.out.mono (by omega)))⟩
      case rest =>
        obtain ⟨b9, b10, x9, p9, rfl, rfl, rfl, HB9, HN9, HX9, HBc⟩ := hcut
        have hb := HBc.out
        have OY0 := hide HB9.out.2
        clear cA0 cA1 cA2 cA3 cA4 cA5 cA6
        clear cS0 cS1 cS2 cS3 cS4 cS5 cS6
        have Bwwc := hide (Bwwr.out.trans (hb.mono Bwwr.out.size))
        have Bw1wc := hide (Bw1wr.out.trans (hb.mono Bw1wr.out.size))
        have Bw4wc := hide (Bw4wr.out.trans (hb.mono Bw4wr.out.size))
        have OSwc := hide (at_below OSwr.out hb)
        have OAwc := hide (at_below OAwr.out hb)
        clear hb Bwwr Bw1wr Bw4wr OSwr OAwr
        have zwwc : w.heap.size ≤ wc.heap.size := Bwwc.out.size
        have zw1wc : w1.heap.size ≤ wc.heap.size := Bw1wc.out.size
        have zw4wc : w4.heap.size ≤ wc.heap.size := Bw4wc.out.size
        have lSwc : w.heap.size < wc.heap.size := (Array.getElem?_eq_some_iff.1 OSwc.out).1
        have lAwc : w1.heap.size < wc.heap.size := (Array.getElem?_eq_some_iff.1 OAwc.out).1
        clear HBc HB9
        obtain ⟨cA0, cA1, cA2, cA3, cA4, cA5, cA6⟩ := row_c7 OAwc.out
        obtain ⟨cS0, cS1, cS2, cS3, cS4, cS5, cS6⟩ := row_c7 OSwc.out
        obtain ⟨cY0, cY1, cY2, cY3, cY4, cY5, cY6, cY7⟩ := row_c8 OY0.out
        have HSx := hide (HS.out.below Bwwc.out)
        have HSAx := hide (HSA.out.below Bw1wc.out)
        obtain ⟨b2, hb2, h82, ha2, hi2⟩ := HSAx.out.gts q g' HG'.out
        obtain rfl := Option.some.inj hb2
        obtain ⟨t0, t1, t2, t3, t4, t5, t6, t7⟩ := h82
        have HL9 : Hid (x9.A.length ≤ 100 ∧ x9.D.length ≤ 100) := hide (by
          have e1 : x9.A = g.A ++ [⟨x.i, g.i, g.s + 1, m, g.z⟩] := (congrArg GP.A HX9.out).trans (congrArg GP.A HGQ.out)
          have e2 : x9.D = g.D := (congrArg GP.D HX9.out).trans (congrArg GP.D HGQ.out)
          rw [e1, e2, List.length_append]
          have := HA12.out
          simp only [List.length_cons, List.length_nil]
          omega)
        have hep := HX9.out.trans HGP.out.symm
        obtain ⟨fi, fz, fs, foa, fA, fca, fv, fod, fD, fcd, fl, fu⟩ := x9
        obtain ⟨ei, ez, es, eoa, eA, eca, ev, eod, eD, ecd, el, eu⟩ := g'
        simp only [GT.p, GP.mk.injEq] at hep
        obtain ⟨rfl, rfl, rfl, rfl, rfl, rfl, rfl, rfl⟩ := hep
        simp only at t0 t1 t2 t3 t4 t5 t6 t7 ha2 hi2 cY0 cY1 cY2 cY3 cY4 cY5 cY6 cY7
        have Ha2 := hide ha2
        have Hi2 := hide hi2
        have Hn2 := hide (HN9.out.below (show Below wc.heap.size wc wc from Below.refl _ _))
        clear ha2 hi2 hb2
        have qcA0 := cell_regrown cA0
        have qcA1 := cell_regrown cA1
        have qcA2 := cell_regrown cA2
        have qcA3 := cell_regrown cA3
        have qcA4 := cell_regrown cA4
        have qcA5 := cell_regrown cA5
        have qcA6 := cell_regrown cA6
        have qcS0 := cell_regrown cS0
        have qcS1 := cell_regrown cS1
        have qcS2 := cell_regrown cS2
        have qcS3 := cell_regrown cS3
        have qcS4 := cell_regrown cS4
        have qcS5 := cell_regrown cS5
        have qcS6 := cell_regrown cS6
        have qcY0 := cell_regrown cY0
        have qcY1 := cell_regrown cY1
        have qcY2 := cell_regrown cY2
        have qcY3 := cell_regrown cY3
        have qcY4 := cell_regrown cY4
        have qcY5 := cell_regrown cY5
        have qcY6 := cell_regrown cY6
        have qcY7 := cell_regrown cY7
        have qt0 := cell_regrown t0
        have qt1 := cell_regrown t1
        have qt2 := cell_regrown t2
        have qt3 := cell_regrown t3
        have qt4 := cell_regrown t4
        have qt5 := cell_regrown t5
        have qt6 := cell_regrown t6
        have qt7 := cell_regrown t7
        have kG : ∀ d os, Calls Tryz.prog 29 #[gtV fi fz fs foa fA.length fca fv fod fD.length fcd fl fu, gtV fi fz fs eoa fA.length eca fv eod fD.length ecd fl fu] (Sort.grow (redrawn wc d) os) fun e w'' => e = .returned (.bool true) ∧ ∃ p : Regrown, w'' = Sort.grow (redrawn wc p.d) p.os :=
          fun d os => Calls.regrown_of (sameGate_same fi fz fs fA fv fD fl fu foa eoa fod eod fca eca fcd ecd _ ((HN9.out.below (below_regrown wc d os)).1.1.ats) (Ha2.out.below (below_regrown wc d os)).ats ((HN9.out.below (below_regrown wc d os)).2.1.ats) (Hi2.out.below (below_regrown wc d os)).ats HL9.out.1 HL9.out.2)
        have kL : ∀ d os, Calls Tryz.prog 32 #[lg x1 x2 x3 T.length y1 P.length y2 V.length y3, lg (some bt) o2 o3 T.length c1 P.length c2 V.length c3] (Sort.grow (redrawn wc d) os) fun e w'' => e = .returned (.bool true) ∧ ∃ p : Regrown, w'' = Sort.grow (redrawn wc p.d) p.os :=
          fun d os => Calls.regrown_of (sameLedger_same T P V x1 x2 x3 (some bt) o2 o3 y1 y2 y3 c1 c2 c3 _ (HSAx.out.below (below_regrown wc d os)).led.parts3.1.ats (HSAx.out.below (below_regrown wc d os)).led.parts3.2.1.ats (HSAx.out.below (below_regrown wc d os)).led.parts3.2.2.ats (HSx.out.below (below_regrown wc d os)).led.parts3.1.ats (HSx.out.below (below_regrown wc d os)).led.parts3.2.1.ats (HSx.out.below (below_regrown wc d os)).led.parts3.2.2.ats HLL.out.1 HLL.out.2.1 HLL.out.2.2)
        go_wp2_with fail
        refine wp_region_quiet_below (by kernel_rfl) (by kernel_rfl) ?_
        repeat (go_big_quiet_step (first | exact kG _ _ | exact kL _ _))
        refine wpQuiet_nil ?_
        intro _ hw'
        obtain ⟨⟨dq, osq⟩, hw''⟩ := hw'
        subst hw''
        have hb := below_regrown wc dq osq
        clear qcA0 cA0 qcA1 cA1 qcA2 cA2 qcA3 cA3 qcA4 cA4 qcA5 cA5 qcA6 cA6 qcS0 cS0 qcS1 cS1 qcS2 cS2 qcS3 cS3 qcS4 cS4 qcS5 cS5 qcS6 cS6 qcY0 cY0 qcY1 cY1 qcY2 cY2 qcY3 cY3 qcY4 cY4 qcY5 cY5 qcY6 cY6 qcY7 cY7 qt0 t0 qt1 t1 qt2 t2 qt3 t3 qt4 t4 qt5 t5 qt6 t6 qt7 t7 kG kL
        have Bwwz := hide (Bwwc.out.trans (hb.mono Bwwc.out.size))
        have Bw1wz := hide (Bw1wc.out.trans (hb.mono Bw1wc.out.size))
        have Bw4wz := hide (Bw4wc.out.trans (hb.mono Bw4wc.out.size))
        have OSwz := hide (at_below OSwc.out hb)
        have OAwz := hide (at_below OAwc.out hb)
        have OYwz := hide (at_below OY0.out hb)
        clear hb Bwwc Bw1wc Bw4wc OSwc OAwc OY0
        generalize (Sort.grow (redrawn wc dq) osq) = wz at *
        have zwwz : w.heap.size ≤ wz.heap.size := Bwwz.out.size
        have zw1wz : w1.heap.size ≤ wz.heap.size := Bw1wz.out.size
        have zw4wz : w4.heap.size ≤ wz.heap.size := Bw4wz.out.size
        have lSwz : w.heap.size < wz.heap.size := (Array.getElem?_eq_some_iff.1 OSwz.out).1
        have lAwz : w1.heap.size < wz.heap.size := (Array.getElem?_eq_some_iff.1 OAwz.out).1
        have lYwz : b9 < wz.heap.size := (Array.getElem?_eq_some_iff.1 OYwz.out).1
        go_wp2_with fail
        go_ret
        exact ⟨rfl, Bwwz.out⟩
end Go.Proofs.YtcjfmbeemdcklaaGreat

/-
  The walk of 'StationSafe', whole.
-/
namespace Go.Proofs.YtcjfmbeemdcklaaGreat
open Go.RowKit
theorem stationSafe_walk (T : List TK) (P : List TP) (V : List Int) (dv : Int) (D : List Int) (G : List GT) (W : List VW) (o1 o2 o3 od og ov : Option Addr) (c1 c2 c3 cd cg cv : Nat) (id n m : Int) (w : World) (hs : StW w o1 o2 o3 c1 c2 c3 T P V od cd D og cg G ov cv W) :
    Calls Tryz.prog 6 #[stV o1 o2 o3 T.length c1 P.length c2 V.length c3 dv od D.length cd og G.length cg ov W.length cv, .int .i64 id, .int .i64 n, .int .i64 m] w fun e w' => e = .returned (.bool true) ∧ Below w.heap.size w w' := by
  by_cases h : (tapS T P V dv D G W id n m).2 = 0
  · by_cases hv : (tapS T P V dv D G W id n m).1 = 0
    · exact safe_alone T P V dv D G W o1 o2 o3 od og ov c1 c2 c3 cd cg cv id n m w hs h hv
    · exact safe_led T P V dv D G W o1 o2 o3 od og ov c1 c2 c3 cd cg cv id n m w hs h hv
  · exact safe_bad T P V dv D G W o1 o2 o3 od og ov c1 c2 c3 cd cg cv id n m w hs h
end Go.Proofs.YtcjfmbeemdcklaaGreat
