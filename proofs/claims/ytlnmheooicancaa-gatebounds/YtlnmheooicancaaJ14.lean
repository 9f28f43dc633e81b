/-
  The walk of GateBounds.
-/
import Derived.Test.YtlnmheooicancaaJ9
import Derived.Test.YtlnmheooicancaaJ13
import Derived.Test.YtlnmheooicancaaN11
import Derived.Test.YtlnmheooicancaaW3
import Derived.Test.YtlnmheooicancaaH1
import Derived.Test.YtlnmheooicancaaH4
import Derived.Test.YtlnmheooicancaaH6
import Derived.Test.YtlnmheooicancaaJ15
import Derived.Deep.QuietTactic
import Derived.BigQuiet
namespace Go.Proofs.Ytlnmheooicancaa
open Go.RowKit

set_option maxRecDepth 100000 in
set_option maxHeartbeats 6400000 in
theorem gateBounds_walk (i z s : Int) (oa : Option Addr) (P : List TP) (ca : Nat) (v : Int) (od : Option Addr) (D : List Int) (cd : Nat) (l u : Int) (ol : Option Addr) (L : List TK) (cl : Nat) (ot : Option Addr) (M : List Int) (ct : Nat) (w : World) (ha : TapsOk w oa P ca) (hd : IntsOk w od D cd) (hl : TiksOk w ol L cl) (hm : IntsOk w ot M ct) :
    Calls Try.prog 3 #[gtV i z s oa P.length ca v od D.length cd l u, .slice ol L.length cl, .slice ot M.length ct] w fun e w' => e = .returned (.bool true) ∧ Below w.heap.size w w' := by
  obtain ⟨hP, hlP, hcP, hnP⟩ := ha
  obtain ⟨hD, hlD, hcD, hnD⟩ := hd
  obtain ⟨hL, hlL, -, -⟩ := hl
  obtain ⟨hM, hlM, -, -⟩ := hm
  have HP := hide hP
  have HD := hide hD
  have HL := hide hL
  have HM := hide hM
  have HK0 := hide (And.intro (And.intro hlP hnP) (And.intro hcP (And.intro hcD hnD)))
  clear hcP hcD hnD hnP hlP hP hD hL hM
  have HC := hide (fun W (h : TapsAt W oa P) (h' : IntsAt W od D) => gateCheck_any i z s oa P ca v od D cd l u W h h' hlD)
  by_cases hE : chkG i z s P v D l u = 0
  · rw [hE] at HC
    have HE := hide hE
    clear hE
    go_enter Try.func3, Try.ntmps3
    go_wp2_with fail
    have HG1 := hide ((Blks.nil w).more (.cells #[.int .i64 i, .int .i64 z, .int .i64 s, .slice oa P.length ca, .int .i64 v, .slice od D.length cd, .int .i64 l, .int .i64 u] 29) (by simp))
    refine (gateBegun_any _).mono ?_
    rintro e w1 ⟨rfl, hb⟩
    have HG1w1 := hide (HG1.out.on hb)
    clear hb HG1
    have lG1_0 := HG1w1.out.lt 0 w.heap.size (by simp) rfl
    have cG1_0_0 := HG1w1.out.cell 0 0 w.heap.size _ _ _ rfl rfl rfl
    have cG1_0_1 := HG1w1.out.cell 0 1 w.heap.size _ _ _ rfl rfl rfl
    have cG1_0_2 := HG1w1.out.cell 0 2 w.heap.size _ _ _ rfl rfl rfl
    have cG1_0_3 := HG1w1.out.cell 0 3 w.heap.size _ _ _ rfl rfl rfl
    have cG1_0_4 := HG1w1.out.cell 0 4 w.heap.size _ _ _ rfl rfl rfl
    have cG1_0_5 := HG1w1.out.cell 0 5 w.heap.size _ _ _ rfl rfl rfl
    have cG1_0_6 := HG1w1.out.cell 0 6 w.heap.size _ _ _ rfl rfl rfl
    have cG1_0_7 := HG1w1.out.cell 0 7 w.heap.size _ _ _ rfl rfl rfl
    go_wp2_with fail
    refine (HC.out _ (HP.out.below HG1w1.out.2.2) (HD.out.below HG1w1.out.2.2)).mono ?_
    rintro e w2 ⟨rfl, hb⟩
    have HG1w2 := hide (HG1w1.out.on hb)
    clear lG1_0 cG1_0_0 cG1_0_1 cG1_0_2 cG1_0_3 cG1_0_4 cG1_0_5 cG1_0_6 cG1_0_7
    clear hb HG1w1
    have lG1_0 := HG1w2.out.lt 0 w.heap.size (by simp) rfl
    have cG1_0_0 := HG1w2.out.cell 0 0 w.heap.size _ _ _ rfl rfl rfl
    have cG1_0_1 := HG1w2.out.cell 0 1 w.heap.size _ _ _ rfl rfl rfl
    have cG1_0_2 := HG1w2.out.cell 0 2 w.heap.size _ _ _ rfl rfl rfl
    have cG1_0_3 := HG1w2.out.cell 0 3 w.heap.size _ _ _ rfl rfl rfl
    have cG1_0_4 := HG1w2.out.cell 0 4 w.heap.size _ _ _ rfl rfl rfl
    have cG1_0_5 := HG1w2.out.cell 0 5 w.heap.size _ _ _ rfl rfl rfl
    have cG1_0_6 := HG1w2.out.cell 0 6 w.heap.size _ _ _ rfl rfl rfl
    have cG1_0_7 := HG1w2.out.cell 0 7 w.heap.size _ _ _ rfl rfl rfl
    go_wp2_with fail
    have hb := (Below.refl w2.heap.size w2).alloc (Nat.le_refl _) (.cells #[.int .i64 i, .int .i64 z, .int .i64 s, .slice oa P.length ca, .int .i64 v, .slice od D.length cd, .int .i64 l, .int .i64 u] 29)
    have HX : Hid ((w2.alloc (.cells #[.int .i64 i, .int .i64 z, .int .i64 s, .slice oa P.length ca, .int .i64 v, .slice od D.length cd, .int .i64 l, .int .i64 u] 29)).heap[w2.heap.size]? = some (.cells #[.int .i64 i, .int .i64 z, .int .i64 s, .slice oa P.length ca, .int .i64 v, .slice od D.length cd, .int .i64 l, .int .i64 u] 29)) := hide (heap_alloc_newG _ _ _ rfl)
    have HGx : Hid (Blks w (w2.alloc (.cells #[.int .i64 i, .int .i64 z, .int .i64 s, .slice oa P.length ca, .int .i64 v, .slice od D.length cd, .int .i64 l, .int .i64 u] 29)) [.cells #[.int .i64 i, .int .i64 z, .int .i64 s, .slice oa P.length ca, .int .i64 v, .slice od D.length cd, .int .i64 l, .int .i64 u] 29]) := hide (HG1w2.out.on hb)
    have HVx : Hid (GtL (w2.alloc (.cells #[.int .i64 i, .int .i64 z, .int .i64 s, .slice oa P.length ca, .int .i64 v, .slice od D.length cd, .int .i64 l, .int .i64 u] 29)) oa P.length ca od D.length cd P D) := hide ⟨⟨oa, ca, rfl, HP.out.below HGx.out.2.2, HK0.out.2.1, HK0.out.1.2⟩, ⟨od, cd, rfl, HD.out.below HGx.out.2.2, HK0.out.2.2.1, HK0.out.2.2.2⟩⟩
    have hbx : w.heap.size + 1 ≤ w2.heap.size := HG1w2.out.2.1
    clear hb HC HP HK0 HG1w2 lG1_0 cG1_0_0 cG1_0_1 cG1_0_2 cG1_0_3 cG1_0_4 cG1_0_5 cG1_0_6 cG1_0_7
    generalize w2.alloc (.cells #[.int .i64 i, .int .i64 z, .int .i64 s, .slice oa P.length ca, .int .i64 v, .slice od D.length cd, .int .i64 l, .int .i64 u] 29) = wx at *
    generalize w2.heap.size = bx at *
    clear w2 w1
    go_loopw [7, 9, 10, 11, 12, 13] (fun s7 s9 _ _ _ _ wr => ∃ (q : Nat) (s' : Int) (P' : List TP) (l' : Int) (o1 : Option Addr) (c1 : Nat) (o2 : Option Addr) (c2 : Nat), q ≤ L.length ∧ s9 = .int .i64 q ∧ s7 = .int .i64 l' ∧ Hid (chkG i z s' P' v D l' u = 0) ∧ Hid (wr.heap[bx]? = some (.cells #[.int .i64 i, .int .i64 z, .int .i64 s', .slice o1 P'.length c1, .int .i64 v, .slice o2 D.length c2, .int .i64 l', .int .i64 u] 29)) ∧ Hid (GtL wr o1 P'.length c1 o2 D.length c2 P' D) ∧ Hid (Blks w wr [.cells #[.int .i64 i, .int .i64 z, .int .i64 s, .slice oa P.length ca, .int .i64 v, .slice od D.length cd, .int .i64 l, .int .i64 u] 29])) (fun _ s9 _ _ _ _ _ => L.length - (intOf s9).toNat)
    case atStart => exact ⟨0, s, P, l, oa, ca, od, cd, Nat.zero_le _, rfl, rfl, HE, HX, HVx, HGx⟩
    case round =>
      obtain ⟨q, s', P', l', o1, c1, o2, c2, hq, rfl, rfl, HI, HXr, HV, HG⟩ := hrel
      clear HX HGx HVx HE
      have hbr := HG.out.2.1
      by_cases hgo : q < L.length
      · by_cases hgm : q < M.length
        · obtain ⟨x, hx⟩ : ∃ x, L[q]? = some x := ⟨L[q], by simp [hgo]⟩
          obtain ⟨m, hm⟩ : ∃ m, M[q]? = some m := ⟨M[q], by simp [hgm]⟩
          obtain ⟨Al, rfl, hT6⟩ := HL.out.below HG.out.2.2 q x hx
          obtain ⟨Am, rfl, hM1⟩ := HM.out.below HG.out.2.2 q m hm
          have HT6 := hide hT6
          have HM1 := hide hM1
          obtain ⟨⟨-, hPa, hPn⟩, -, hDa, -⟩ := HV.out.parts
          have hlP' : P'.length ≤ 12 := (errS_right (chkG_right HI.out).1).2.2.2
          have HC := hide (fun W (hb : Below wr.heap.size wr W) => gateTapX i z s' o1 P' c1 v o2 D c2 l' u x m W (hPa.below hb) (hDa.below hb) (by omega) hlD hPn)
          clear hT6 hM1 hx hm hPa hPn hDa
          have HTb := hide (fun (h : tapG i z s' P' v D l' u x m = 0) => And.intro (tap_bounds h) (chkG_tap h))
          generalize tapG i z s' P' v D l' u x m = E at *
          go_wp2_with fail
          rename_i K0 hK0
          have key : ∀ (b4 b5 : Nat) (ai az aq : Int) (x1 : Option Addr) (n1 d1 : Nat) (av : Int) (x2 : Option Addr) (n2 d2 : Nat) (al au pa pg ps pm pz : Int) (Pn : List TP) (Dn : List Int) (W : World), Hid (Below wr.heap.size wr W) → Hid (W.heap[b4]? = some (.cells #[.int .i64 ai, .int .i64 az, .int .i64 aq, .slice x1 n1 d1, .int .i64 av, .slice x2 n2 d2, .int .i64 al, .int .i64 au] 29)) → Hid (W.heap[b5]? = some (.cells #[.int .i64 pa, .int .i64 pg, .int .i64 ps, .int .i64 pm, .int .i64 pz] 35)) → wr.heap.size ≤ b4 → wr.heap.size ≤ b5 → Hid (GtL W x1 n1 d1 x2 n2 d2 Pn Dn) → Hid (GtA bx x1 x2 Pn Dn) → Hid (E = 0 → (i = ai ∧ z = az ∧ s' + 1 = aq ∧ v = av ∧ l' - 1 = al ∧ u = au) ∧ (x.i = pa ∧ i = pg ∧ s' + 1 = ps ∧ m = pm ∧ z = pz) ∧ Pn = P' ++ [⟨x.i, i, s' + 1, m, z⟩] ∧ D = Dn) → K0 ⟨#[gtV i z s oa P.length ca v od D.length cd l u, .slice (some Al) L.length cl, .slice (some Am) M.length ct, .pointer (some ⟨w.heap.size, 0, none⟩), undef, undef, u6, .int .i64 l', .pointer (some ⟨bx, 0, none⟩), .int .i64 (q : Int), .pointer (some ⟨b4, 0, none⟩), .pointer (some ⟨b5, 0, none⟩), .int .i64 E, u13, .bool true, .bool false, gtV i z s oa P.length ca v od D.length cd l u, .int .i64 0, .bool false, .pointer (some ⟨w.heap.size, 6, none⟩), .pointer (some ⟨w.heap.size, 6, none⟩), .int .i64 l, gtV i z s oa P.length ca v od D.length cd l u, .int .i64 (q : Int), .slice (some Al) L.length cl, .int .i64 (L.length : Int), .bool true, .bool true, .int .i64 (q : Int), .slice (some Am) M.length ct, .int .i64 (M.length : Int), .bool true, .bool true, u33, u34, .tuple #[gtV ai az aq x1 n1 d1 av x2 n2 d2 al au, tp pa pg ps pm pz, .int .i64 E], gtV i z s' o1 P'.length c1 v o2 D.length c2 l' u, .slice (some Al) L.length cl, .int .i64 (q : Int), .pointer (some (Al.add (q * 6))), tk x.i x.k x.f x.t x.z x.r, .slice (some Am) M.length ct, .int .i64 (q : Int), .pointer (some (Am.add q)), .int .i64 m, .tuple #[gtV ai az aq x1 n1 d1 av x2 n2 d2 al au, tp pa pg ps pm pz, .int .i64 E], gtV ai az aq x1 n1 d1 av x2 n2 d2 al au, tp pa pg ps pm pz, .int .i64 E, u49, u50, u51, u52, u53, u54, u55, u56, u57, u58, u59, u60, u61, u62, u63, u64, u65, u66, u67, u68, u69, u70, u71, u72, u73, u74, u75, u76, u77, u78, u79, u80, u81, u82, u83, u84, u85, u86, u87, u88, u89, u90, u91, u92, u93, u94, u95, u96, u97, u98, u99, u100, u101, u102, u103, u104, u105, u106, u107, u108, u109, u110, u111, u112, u113, u114, u115, u116, u117, u118, u119, u120, u121, u122, u123, u124, u125, u126, u127, u128, u129, u130, u131, u132, u133, u134, u135, u136, u137, u138], []⟩ W := by
            intro b4 b5 ai az aq x1 n1 d1 av x2 n2 d2 al au pa pg ps pm pz Pn Dn W HB HY HZ hb4 hb5 HVn HAx HEq
            refine hK0 _ _ ?_
            by_cases hz : E = 0
            · subst hz
              obtain ⟨⟨e1, e2, e3, e4, e5, e6⟩, ⟨e7, e8, e9, e10, e11⟩, e12, e13⟩ := HEq.out rfl
              subst e1 e2 e3 e4 e5 e6 e7 e8 e9 e10 e11 e13
              have HPn := hide e12
              obtain ⟨⟨⟨hl1, hl9⟩, hmu, hhas, hday, hP11, ⟨hs0, hs98⟩, hD12⟩, hck⟩ := HTb.out rfl
              have HDay := hide hday
              have HHas := hide hhas
              have HCk := hide (e12 ▸ hck)
              clear e12 hday hhas hck HEq HTb HC
              obtain ⟨⟨en1, -⟩, en2, -⟩ := HVn.out.parts
              subst en1 en2
              have HXW := hide (row_onG HXr.out HB.out)
              have HVW := hide (HV.out.below HB.out)
              have HGW := hide (HG.out.on HB.out)
              have HT6W := hide (HT6.out.below HB.out HT6.out.lt)
              clear HXr HV HG HT6 HM1 HI
              go_wp2_with fail
              go_loopw [13] (fun j wq => ∃ (n : Nat), n ≤ P'.length ∧ j = .int .i64 n ∧ Hid (Below W.heap.size W wq)) (fun j _ => P'.length - (intOf j).toNat)
              case atStart => exact ⟨0, Nat.zero_le _, rfl, hide (Below.refl _ _)⟩
              case round =>
                obtain ⟨n, hn, rfl, HBq⟩ := hrel
                obtain ⟨X0, X1, X2, X3, X4, X5, X6, X7⟩ := cells8 (row_onG HXW.out HBq.out)
                by_cases hgn : n < P'.length
                · obtain ⟨y, hy⟩ : ∃ y, P'[n]? = some y := ⟨P'[n], by simp [hgn]⟩
                  obtain ⟨Ap, rfl, y0, y1, y2, y3, y4⟩ := (HVW.out.below HBq.out).parts.1.2.1 n y hy
                  obtain ⟨t0, t1, t2, t3, t4, t5⟩ := HT6W.out.below HBq.out HT6W.out.lt
                  have hgI : (n : Int) < (P'.length : Int) := by omega
                  have hqI : (q : Int) < (L.length : Int) := by omega
                  cases hkd : (x.k != 2)
                  · clear hy
                    go_wp2_with fail
                    go_quiet (fail)
                    go_wp2_with fail
                    exact ⟨⟨n + 1, by omega, by simp, hide (below_drewG HBq.out _)⟩, by simp [intOf]; omega⟩
                  · have hne : (y.a == x.i) = false := by
                      simpa using HDay.out (by simpa using hkd) y (List.mem_of_getElem? hy)
                    clear hy
                    go_wp2_with fail
                    go_quiet (fail)
                    go_wp2_with fail
                    exact ⟨⟨n + 1, by omega, by simp, hide (below_drewG HBq.out _)⟩, by simp [intOf]; omega⟩
                · go_wp2_with fail
                  have HXq := hide (row_onG HXW.out HBq.out)
                  have HYq := hide (row_onG HY.out HBq.out)
                  have HZq := hide (row_onG HZ.out HBq.out)
                  have HGq := hide (HGW.out.on HBq.out)
                  have HVq := hide (HVn.out.below HBq.out)
                  have HOq := hide (HVW.out.below HBq.out)
                  have HDq := hide (HD.out.below HGq.out.2.2)
                  clear HXW HY HZ HGW HVn HVW HBq X0 X1 X2 X3 X4 X5 X6 X7 HT6W HDay hgn hn
                  refine wp_region_any (by kernel_rfl) ?_
                  refine wpAny_makersG spoilB reachB (fun w' => Below wr.heap.size wr w') (phiB wr.heap.size b4 b5 bx w.heap.size i z s' v l' u x.i m o1 c1 P' od cd D x1 d1 Pn x2 d2) 58 0 #[] [80, 81, 82, 83, 84, 85, 86, 87, 88, 89, 90, 91, 92, 93, 94, 95, 96, 97, 98, 99, 100, 101, 102, 103, 104, 105, 106, 107, 108, 109, 110, 111, 112, 113, 114, 115, 116, 117, 118, 119, 120, 121, 122, 123, 124, 125, 126, 127, 128, 129, 130, 131, 132, 133, 134, 135, 136, 137] (by kernel_rfl) (by kernel_rfl) (by kernel_rfl) (by kernel_rfl) (by kernel_rfl) 139 rfl (by kernel_rfl) ?_ ?_ ?_ ?_
                  · exact (Below.refl _ _).drew
                  · refine guards_of 58 [3, 7, 14, 22, 30, 37, 45] (by kernel_rfl) ?_
                    intro g hg v w h
                    simp only [List.mem_cons, List.not_mem_nil, or_false] at hg
                    rcases hg with rfl | rfl | rfl | rfl | rfl | rfl | rfl <;> exact h
                  · intro k o hk ho aa w' hS hd hb K' hK
                    have b3 : aa.tmps[3]?.getD undef = .pointer (some ⟨w.heap.size, 0, none⟩) := ev_of ((hb 3 (by intro j hj; revert j; decide +kernel)).trans rfl)
                    have b7 : aa.tmps[7]?.getD undef = .int .i64 (l' - 1) := ev_of ((hb 7 (by intro j hj; revert j; decide +kernel)).trans rfl)
                    have b8 : aa.tmps[8]?.getD undef = .pointer (some ⟨bx, 0, none⟩) := ev_of ((hb 8 (by intro j hj; revert j; decide +kernel)).trans rfl)
                    have b10 : aa.tmps[10]?.getD undef = .pointer (some ⟨b4, 0, none⟩) := ev_of ((hb 10 (by intro j hj; revert j; decide +kernel)).trans rfl)
                    have b11 : aa.tmps[11]?.getD undef = .pointer (some ⟨b5, 0, none⟩) := ev_of ((hb 11 (by intro j hj; revert j; decide +kernel)).trans rfl)
                    clear hb
                    match k, hk, ho, hK with
                    | 0, _, ho, hK =>
                      simp only [List.getElem?_toArray, List.getElem?_cons_zero, Option.some.injEq] at ho
                      subst ho
                      simp only [] at hd hK
                      obtain ⟨Y0, Y1, Y2, Y3, Y4, Y5, Y6, Y7⟩ := cells8 (row_onG HYq.out hS)
                      clear hd
                      go_simp
                      exact hK _ _ rfl hS (fun _ _ _ _ _ _ h => h)
                    | 1, _, ho, hK =>
                      simp only [List.getElem?_toArray, List.getElem?_cons_zero, List.getElem?_cons_succ, Option.some.injEq] at ho
                      subst ho
                      simp only [] at hd hK
                      have d0 : aa.eval (.tmp 80) = gtV i z (s' + 1) x1 Pn.length d1 v x2 D.length d2 (l' - 1) u := hd ⟨0, .data⟩ (by simp) rfl (by intro j hj; revert j; decide +kernel)
                      have d0 := ev_of d0
                      clear hd
                      obtain ⟨⟨-, hT9, -⟩, -, hI9, -⟩ := (HVq.out.below hS).parts
                      go_simp
                      refine (gateCheck_any i z (s' + 1) x1 Pn d1 v x2 D d2 (l' - 1) u w' hT9 hI9 hlD).mono ?_
                      rintro e w9 ⟨rfl, hb9⟩
                      rw [HCk.out]
                      exact hK _ _ rfl (hS.trans (hb9.mono hS.size)) (fun j u _ _ _ _ h => phiB_below j u _ _ h hb9)
                    | 2, _, ho, hK =>
                      simp only [List.getElem?_toArray, List.getElem?_cons_zero, List.getElem?_cons_succ, Option.some.injEq] at ho
                      subst ho
                      simp only [] at hd hK
                      have d1 : aa.eval (.tmp 81) = .int .i64 0 := hd ⟨1, .data⟩ (by simp) rfl (by intro j hj; revert j; decide +kernel)
                      have d1 := ev_of d1
                      clear hd
                      go_simp
                      exact hK _ _ rfl hS (fun _ _ _ _ _ _ h => h)
                    | 3, _, ho, hK =>
                      simp only [List.getElem?_toArray, List.getElem?_cons_zero, List.getElem?_cons_succ, Option.some.injEq] at ho
                      subst ho
                      simp only [] at hd hK
                      have d2 : aa.eval (.tmp 82) = .bool false := hd ⟨2, .data⟩ (by simp) rfl (by intro j hj; revert j; decide +kernel)
                      have d2 := ev_of d2
                      clear hd
                      go_simp
                      exact hK _ _ rfl hS (fun _ _ _ _ _ _ h => h)
                    | 4, _, ho, hK =>
                      simp only [List.getElem?_toArray, List.getElem?_cons_zero, List.getElem?_cons_succ, Option.some.injEq] at ho
                      subst ho
                      simp only [] at hd hK
                      clear hd
                      go_simp
                      exact hK _ _ rfl hS (fun _ _ _ _ _ _ h => h)
                    | 5, _, ho, hK =>
                      simp only [List.getElem?_toArray, List.getElem?_cons_zero, List.getElem?_cons_succ, Option.some.injEq] at ho
                      subst ho
                      simp only [] at hd hK
                      have d4 : aa.eval (.tmp 84) = .int .i64 (l' - 1) := hd ⟨4, .data⟩ (by simp) rfl (by intro j hj; revert j; decide +kernel)
                      have d4 := ev_of d4
                      clear hd
                      go_simp
                      exact hK _ _ (show Value.bool (decide (l' - 1 < 0)) = .bool false by rw [decide_eq_false (by omega)]) hS (fun _ _ _ _ _ _ h => h)
                    | 6, _, ho, hK =>
                      simp only [List.getElem?_toArray, List.getElem?_cons_zero, List.getElem?_cons_succ, Option.some.injEq] at ho
                      subst ho
                      simp only [] at hd hK
                      have d3 : aa.eval (.tmp 83) = .bool false := hd ⟨3, .data⟩ (by simp) rfl (by intro j hj; revert j; decide +kernel)
                      have d3 := ev_of d3
                      have d5 : aa.eval (.tmp 85) = .bool false := hd ⟨5, .data⟩ (by simp) rfl (by intro j hj; revert j; decide +kernel)
                      have d5 := ev_of d5
                      clear hd
                      go_simp
                      exact hK _ _ rfl hS (fun _ _ _ _ _ _ h => h)
                    | 7, _, ho, hK =>
                      simp only [List.getElem?_toArray, List.getElem?_cons_zero, List.getElem?_cons_succ, Option.some.injEq] at ho
                      subst ho
                      simp only [] at hd hK
                      have d6 : aa.eval (.tmp 86) = .bool false := hd ⟨6, .data⟩ (by simp) rfl (by intro j hj; revert j; decide +kernel)
                      have d6 := ev_of d6
                      clear hd
                      go_simp
                      exact hK _ _ rfl hS (fun _ _ _ _ _ _ h => h)
                    | 8, _, ho, hK =>
                      simp only [List.getElem?_toArray, List.getElem?_cons_zero, List.getElem?_cons_succ, Option.some.injEq] at ho
                      subst ho
                      simp only [] at hd hK
                      clear hd
                      go_simp
                      exact hK _ _ rfl hS (fun _ _ _ _ _ _ h => h)
                    | 9, _, ho, hK =>
                      simp only [List.getElem?_toArray, List.getElem?_cons_zero, List.getElem?_cons_succ, Option.some.injEq] at ho
                      subst ho
                      simp only [] at hd hK
                      have d8 : aa.eval (.tmp 88) = .pointer (some ⟨b4, 6, none⟩) := hd ⟨8, .data⟩ (by simp) rfl (by intro j hj; revert j; decide +kernel)
                      have d8 := ev_of d8
                      clear hd
                      go_simp
                      exact hK _ _ rfl hS (fun _ _ _ _ _ _ h => h)
                    | 10, _, ho, hK =>
                      simp only [List.getElem?_toArray, List.getElem?_cons_zero, List.getElem?_cons_succ, Option.some.injEq] at ho
                      subst ho
                      simp only [] at hd hK
                      have d9 : aa.eval (.tmp 89) = .pointer (some ⟨b4, 6, none⟩) := hd ⟨9, .data⟩ (by simp) rfl (by intro j hj; revert j; decide +kernel)
                      have d9 := ev_of d9
                      obtain ⟨Y0, Y1, Y2, Y3, Y4, Y5, Y6, Y7⟩ := cells8 (row_onG HYq.out hS)
                      clear hd
                      go_simp
                      exact hK _ _ rfl hS (fun _ _ _ _ _ _ h => h)
                    | 11, _, ho, hK =>
                      simp only [List.getElem?_toArray, List.getElem?_cons_zero, List.getElem?_cons_succ, Option.some.injEq] at ho
                      subst ho
                      simp only [] at hd hK
                      clear hd
                      go_simp
                      exact hK _ _ rfl hS (fun _ _ _ _ _ _ h => h)
                    | 12, _, ho, hK =>
                      simp only [List.getElem?_toArray, List.getElem?_cons_zero, List.getElem?_cons_succ, Option.some.injEq] at ho
                      subst ho
                      simp only [] at hd hK
                      have d10 : aa.eval (.tmp 90) = .int .i64 (l' - 1) := hd ⟨10, .data⟩ (by simp) rfl (by intro j hj; revert j; decide +kernel)
                      have d10 := ev_of d10
                      have d11 : aa.eval (.tmp 91) = .int .i64 (l' - 1) := hd ⟨11, .data⟩ (by simp) rfl (by intro j hj; revert j; decide +kernel)
                      have d11 := ev_of d11
                      clear hd
                      go_simp
                      exact hK _ _ rfl hS (fun _ _ _ _ _ _ h => h)
                    | 13, _, ho, hK =>
                      simp only [List.getElem?_toArray, List.getElem?_cons_zero, List.getElem?_cons_succ, Option.some.injEq] at ho
                      subst ho
                      simp only [] at hd hK
                      have d7 : aa.eval (.tmp 87) = .bool false := hd ⟨7, .data⟩ (by simp) rfl (by intro j hj; revert j; decide +kernel)
                      have d7 := ev_of d7
                      have d12 : aa.eval (.tmp 92) = .bool false := hd ⟨12, .data⟩ (by simp) rfl (by intro j hj; revert j; decide +kernel)
                      have d12 := ev_of d12
                      clear hd
                      go_simp
                      exact hK _ _ rfl hS (fun _ _ _ _ _ _ h => h)
                    | 14, _, ho, hK =>
                      simp only [List.getElem?_toArray, List.getElem?_cons_zero, List.getElem?_cons_succ, Option.some.injEq] at ho
                      subst ho
                      simp only [] at hd hK
                      have d13 : aa.eval (.tmp 93) = .bool false := hd ⟨13, .data⟩ (by simp) rfl (by intro j hj; revert j; decide +kernel)
                      have d13 := ev_of d13
                      clear hd
                      go_simp
                      exact hK _ _ rfl hS (fun _ _ _ _ _ _ h => h)
                    | 15, _, ho, hK =>
                      simp only [List.getElem?_toArray, List.getElem?_cons_zero, List.getElem?_cons_succ, Option.some.injEq] at ho
                      subst ho
                      simp only [] at hd hK
                      clear hd
                      go_simp
                      exact hK _ _ rfl hS (fun _ _ _ _ _ _ h => h)
                    | 16, _, ho, hK =>
                      simp only [List.getElem?_toArray, List.getElem?_cons_zero, List.getElem?_cons_succ, Option.some.injEq] at ho
                      subst ho
                      simp only [] at hd hK
                      have d15 : aa.eval (.tmp 95) = .pointer (some ⟨b5, 2, none⟩) := hd ⟨15, .data⟩ (by simp) rfl (by intro j hj; revert j; decide +kernel)
                      have d15 := ev_of d15
                      obtain ⟨Z0, Z1, Z2, Z3, Z4⟩ := cells5 (row_onG HZq.out hS)
                      clear hd
                      go_simp
                      exact hK _ _ rfl hS (fun _ _ _ _ _ _ h => h)
                    | 17, _, ho, hK =>
                      simp only [List.getElem?_toArray, List.getElem?_cons_zero, List.getElem?_cons_succ, Option.some.injEq] at ho
                      subst ho
                      simp only [] at hd hK
                      clear hd
                      go_simp
                      exact hK _ _ rfl hS (fun _ _ _ _ _ _ h => h)
                    | 18, _, ho, hK =>
                      simp only [List.getElem?_toArray, List.getElem?_cons_zero, List.getElem?_cons_succ, Option.some.injEq] at ho
                      subst ho
                      simp only [] at hd hK
                      have d17 : aa.eval (.tmp 97) = .pointer (some ⟨bx, 2, none⟩) := hd ⟨17, .data⟩ (by simp) rfl (by intro j hj; revert j; decide +kernel)
                      have d17 := ev_of d17
                      obtain ⟨X0, X1, X2, X3, X4, X5, X6, X7⟩ := cells8 (row_onG HXq.out hS)
                      clear hd
                      go_simp
                      exact hK _ _ rfl hS (fun _ _ _ _ _ _ h => h)
                    | 19, _, ho, hK =>
                      simp only [List.getElem?_toArray, List.getElem?_cons_zero, List.getElem?_cons_succ, Option.some.injEq] at ho
                      subst ho
                      simp only [] at hd hK
                      have d18 : aa.eval (.tmp 98) = .int .i64 s' := hd ⟨18, .data⟩ (by simp) rfl (by intro j hj; revert j; decide +kernel)
                      have d18 := ev_of d18
                      have hwrap : IntKind.i64.wrap (s' + 1) = s' + 1 := by rw [IntKind.wrap_i64]; omega
                      clear hd
                      go_simp
                      exact hK _ _ rfl hS (fun _ _ _ _ _ _ h => h)
                    | 20, _, ho, hK =>
                      simp only [List.getElem?_toArray, List.getElem?_cons_zero, List.getElem?_cons_succ, Option.some.injEq] at ho
                      subst ho
                      simp only [] at hd hK
                      have d16 : aa.eval (.tmp 96) = .int .i64 (s' + 1) := hd ⟨16, .data⟩ (by simp) rfl (by intro j hj; revert j; decide +kernel)
                      have d16 := ev_of d16
                      have d19 : aa.eval (.tmp 99) = .int .i64 (s' + 1) := hd ⟨19, .data⟩ (by simp) rfl (by intro j hj; revert j; decide +kernel)
                      have d19 := ev_of d19
                      clear hd
                      go_simp
                      exact hK _ _ rfl hS (fun _ _ _ _ _ _ h => h)
                    | 21, _, ho, hK =>
                      simp only [List.getElem?_toArray, List.getElem?_cons_zero, List.getElem?_cons_succ, Option.some.injEq] at ho
                      subst ho
                      simp only [] at hd hK
                      have d14 : aa.eval (.tmp 94) = .bool false := hd ⟨14, .data⟩ (by simp) rfl (by intro j hj; revert j; decide +kernel)
                      have d14 := ev_of d14
                      have d20 : aa.eval (.tmp 100) = .bool false := hd ⟨20, .data⟩ (by simp) rfl (by intro j hj; revert j; decide +kernel)
                      have d20 := ev_of d20
                      clear hd
                      go_simp
                      exact hK _ _ rfl hS (fun _ _ _ _ _ _ h => h)
                    | 22, _, ho, hK =>
                      simp only [List.getElem?_toArray, List.getElem?_cons_zero, List.getElem?_cons_succ, Option.some.injEq] at ho
                      subst ho
                      simp only [] at hd hK
                      have d21 : aa.eval (.tmp 101) = .bool false := hd ⟨21, .data⟩ (by simp) rfl (by intro j hj; revert j; decide +kernel)
                      have d21 := ev_of d21
                      clear hd
                      go_simp
                      exact hK _ _ rfl hS (fun _ _ _ _ _ _ h => h)
                    | 23, _, ho, hK =>
                      simp only [List.getElem?_toArray, List.getElem?_cons_zero, List.getElem?_cons_succ, Option.some.injEq] at ho
                      subst ho
                      simp only [] at hd hK
                      clear hd
                      go_simp
                      exact hK _ _ rfl hS (fun _ _ _ _ _ _ h => h)
                    | 24, _, ho, hK =>
                      simp only [List.getElem?_toArray, List.getElem?_cons_zero, List.getElem?_cons_succ, Option.some.injEq] at ho
                      subst ho
                      simp only [] at hd hK
                      have d23 : aa.eval (.tmp 103) = .pointer (some ⟨b5, 3, none⟩) := hd ⟨23, .data⟩ (by simp) rfl (by intro j hj; revert j; decide +kernel)
                      have d23 := ev_of d23
                      obtain ⟨Z0, Z1, Z2, Z3, Z4⟩ := cells5 (row_onG HZq.out hS)
                      clear hd
                      go_simp
                      exact hK _ _ rfl hS (fun _ _ _ _ _ _ h => h)
                    | 25, _, ho, hK =>
                      simp only [List.getElem?_toArray, List.getElem?_cons_zero, List.getElem?_cons_succ, Option.some.injEq] at ho
                      subst ho
                      simp only [] at hd hK
                      clear hd
                      go_simp
                      exact hK _ _ rfl hS (fun _ _ _ _ _ _ h => h)
                    | 26, _, ho, hK =>
                      simp only [List.getElem?_toArray, List.getElem?_cons_zero, List.getElem?_cons_succ, Option.some.injEq] at ho
                      subst ho
                      simp only [] at hd hK
                      have d25 : aa.eval (.tmp 105) = .pointer (some ⟨w.heap.size, 6, none⟩) := hd ⟨25, .data⟩ (by simp) rfl (by intro j hj; revert j; decide +kernel)
                      have d25 := ev_of d25
                      clear hd
                      go_simp
                      exact hK _ _ rfl hS (fun _ _ _ _ _ _ h => h)
                    | 27, _, ho, hK =>
                      simp only [List.getElem?_toArray, List.getElem?_cons_zero, List.getElem?_cons_succ, Option.some.injEq] at ho
                      subst ho
                      simp only [] at hd hK
                      have d26 : aa.eval (.tmp 106) = .pointer (some ⟨w.heap.size, 7, none⟩) := hd ⟨26, .data⟩ (by simp) rfl (by intro j hj; revert j; decide +kernel)
                      have d26 := ev_of d26
                      have G7 := (HGq.out.on hS).cell 0 7 w.heap.size _ _ _ rfl rfl rfl
                      clear hd
                      go_simp
                      exact hK _ _ rfl hS (fun _ _ _ _ _ _ h => h)
                    | 28, _, ho, hK =>
                      simp only [List.getElem?_toArray, List.getElem?_cons_zero, List.getElem?_cons_succ, Option.some.injEq] at ho
                      subst ho
                      simp only [] at hd hK
                      have d24 : aa.eval (.tmp 104) = .int .i64 m := hd ⟨24, .data⟩ (by simp) rfl (by intro j hj; revert j; decide +kernel)
                      have d24 := ev_of d24
                      have d27 : aa.eval (.tmp 107) = .int .i64 u := hd ⟨27, .data⟩ (by simp) rfl (by intro j hj; revert j; decide +kernel)
                      have d27 := ev_of d27
                      clear hd
                      go_simp
                      exact hK _ _ (show Value.bool (decide (u < m)) = .bool false by rw [decide_eq_false (by omega)]) hS (fun _ _ _ _ _ _ h => h)
                    | 29, _, ho, hK =>
                      simp only [List.getElem?_toArray, List.getElem?_cons_zero, List.getElem?_cons_succ, Option.some.injEq] at ho
                      subst ho
                      simp only [] at hd hK
                      have d22 : aa.eval (.tmp 102) = .bool false := hd ⟨22, .data⟩ (by simp) rfl (by intro j hj; revert j; decide +kernel)
                      have d22 := ev_of d22
                      have d28 : aa.eval (.tmp 108) = .bool false := hd ⟨28, .data⟩ (by simp) rfl (by intro j hj; revert j; decide +kernel)
                      have d28 := ev_of d28
                      clear hd
                      go_simp
                      exact hK _ _ rfl hS (fun _ _ _ _ _ _ h => h)
                    | 30, _, ho, hK =>
                      simp only [List.getElem?_toArray, List.getElem?_cons_zero, List.getElem?_cons_succ, Option.some.injEq] at ho
                      subst ho
                      simp only [] at hd hK
                      have d29 : aa.eval (.tmp 109) = .bool false := hd ⟨29, .data⟩ (by simp) rfl (by intro j hj; revert j; decide +kernel)
                      have d29 := ev_of d29
                      clear hd
                      go_simp
                      exact hK _ _ rfl hS (fun _ _ _ _ _ _ h => h)
                    | 31, _, ho, hK =>
                      simp only [List.getElem?_toArray, List.getElem?_cons_zero, List.getElem?_cons_succ, Option.some.injEq] at ho
                      subst ho
                      simp only [] at hd hK
                      clear hd
                      go_simp
                      exact hK _ _ rfl hS (fun _ _ _ _ _ _ h => h)
                    | 32, _, ho, hK =>
                      simp only [List.getElem?_toArray, List.getElem?_cons_zero, List.getElem?_cons_succ, Option.some.injEq] at ho
                      subst ho
                      simp only [] at hd hK
                      have d31 : aa.eval (.tmp 111) = .pointer (some ⟨b5, 4, none⟩) := hd ⟨31, .data⟩ (by simp) rfl (by intro j hj; revert j; decide +kernel)
                      have d31 := ev_of d31
                      obtain ⟨Z0, Z1, Z2, Z3, Z4⟩ := cells5 (row_onG HZq.out hS)
                      clear hd
                      go_simp
                      exact hK _ _ rfl hS (fun _ _ _ _ _ _ h => h)
                    | 33, _, ho, hK =>
                      simp only [List.getElem?_toArray, List.getElem?_cons_zero, List.getElem?_cons_succ, Option.some.injEq] at ho
                      subst ho
                      simp only [] at hd hK
                      clear hd
                      go_simp
                      exact hK _ _ rfl hS (fun _ _ _ _ _ _ h => h)
                    | 34, _, ho, hK =>
                      simp only [List.getElem?_toArray, List.getElem?_cons_zero, List.getElem?_cons_succ, Option.some.injEq] at ho
                      subst ho
                      simp only [] at hd hK
                      have d33 : aa.eval (.tmp 113) = .pointer (some ⟨w.heap.size, 1, none⟩) := hd ⟨33, .data⟩ (by simp) rfl (by intro j hj; revert j; decide +kernel)
                      have d33 := ev_of d33
                      have G1 := (HGq.out.on hS).cell 0 1 w.heap.size _ _ _ rfl rfl rfl
                      clear hd
                      go_simp
                      exact hK _ _ rfl hS (fun _ _ _ _ _ _ h => h)
                    | 35, _, ho, hK =>
                      simp only [List.getElem?_toArray, List.getElem?_cons_zero, List.getElem?_cons_succ, Option.some.injEq] at ho
                      subst ho
                      simp only [] at hd hK
                      have d32 : aa.eval (.tmp 112) = .int .i64 z := hd ⟨32, .data⟩ (by simp) rfl (by intro j hj; revert j; decide +kernel)
                      have d32 := ev_of d32
                      have d34 : aa.eval (.tmp 114) = .int .i64 z := hd ⟨34, .data⟩ (by simp) rfl (by intro j hj; revert j; decide +kernel)
                      have d34 := ev_of d34
                      clear hd
                      go_simp
                      exact hK _ _ rfl hS (fun _ _ _ _ _ _ h => h)
                    | 36, _, ho, hK =>
                      simp only [List.getElem?_toArray, List.getElem?_cons_zero, List.getElem?_cons_succ, Option.some.injEq] at ho
                      subst ho
                      simp only [] at hd hK
                      have d30 : aa.eval (.tmp 110) = .bool false := hd ⟨30, .data⟩ (by simp) rfl (by intro j hj; revert j; decide +kernel)
                      have d30 := ev_of d30
                      have d35 : aa.eval (.tmp 115) = .bool false := hd ⟨35, .data⟩ (by simp) rfl (by intro j hj; revert j; decide +kernel)
                      have d35 := ev_of d35
                      clear hd
                      go_simp
                      exact hK _ _ rfl hS (fun _ _ _ _ _ _ h => h)
                    | 37, _, ho, hK =>
                      simp only [List.getElem?_toArray, List.getElem?_cons_zero, List.getElem?_cons_succ, Option.some.injEq] at ho
                      subst ho
                      simp only [] at hd hK
                      have d36 : aa.eval (.tmp 116) = .bool false := hd ⟨36, .data⟩ (by simp) rfl (by intro j hj; revert j; decide +kernel)
                      have d36 := ev_of d36
                      clear hd
                      go_simp
                      exact hK _ _ rfl hS (fun _ _ _ _ _ _ h => h)
                    | 38, _, ho, hK =>
                      simp only [List.getElem?_toArray, List.getElem?_cons_zero, List.getElem?_cons_succ, Option.some.injEq] at ho
                      subst ho
                      simp only [] at hd hK
                      clear hd
                      go_simp
                      exact hK _ _ rfl hS (fun _ _ _ _ _ _ h => h)
                    | 39, _, ho, hK =>
                      simp only [List.getElem?_toArray, List.getElem?_cons_zero, List.getElem?_cons_succ, Option.some.injEq] at ho
                      subst ho
                      simp only [] at hd hK
                      have d38 : aa.eval (.tmp 118) = .pointer (some ⟨w.heap.size, 4, none⟩) := hd ⟨38, .data⟩ (by simp) rfl (by intro j hj; revert j; decide +kernel)
                      have d38 := ev_of d38
                      clear hd
                      go_simp
                      exact hK _ _ rfl hS (fun _ _ _ _ _ _ h => h)
                    | 40, _, ho, hK =>
                      simp only [List.getElem?_toArray, List.getElem?_cons_zero, List.getElem?_cons_succ, Option.some.injEq] at ho
                      subst ho
                      simp only [] at hd hK
                      have d39 : aa.eval (.tmp 119) = .pointer (some ⟨w.heap.size, 5, none⟩) := hd ⟨39, .data⟩ (by simp) rfl (by intro j hj; revert j; decide +kernel)
                      have d39 := ev_of d39
                      have G5 := (HGq.out.on hS).cell 0 5 w.heap.size _ _ _ rfl rfl rfl
                      clear hd
                      go_simp
                      exact hK _ _ rfl hS (fun _ _ _ _ _ _ h => h)
                    | 41, _, ho, hK =>
                      simp only [List.getElem?_toArray, List.getElem?_cons_zero, List.getElem?_cons_succ, Option.some.injEq] at ho
                      subst ho
                      simp only [] at hd hK
                      clear hd
                      go_simp
                      exact hK _ _ rfl hS (fun _ _ _ _ _ _ h => h)
                    | 42, _, ho, hK =>
                      simp only [List.getElem?_toArray, List.getElem?_cons_zero, List.getElem?_cons_succ, Option.some.injEq] at ho
                      subst ho
                      simp only [] at hd hK
                      have d41 : aa.eval (.tmp 121) = .pointer (some ⟨b5, 0, none⟩) := hd ⟨41, .data⟩ (by simp) rfl (by intro j hj; revert j; decide +kernel)
                      have d41 := ev_of d41
                      obtain ⟨Z0, Z1, Z2, Z3, Z4⟩ := cells5 (row_onG HZq.out hS)
                      clear hd
                      go_simp
                      exact hK _ _ rfl hS (fun _ _ _ _ _ _ h => h)
                    | 43, _, ho, hK =>
                      simp only [List.getElem?_toArray, List.getElem?_cons_zero, List.getElem?_cons_succ, Option.some.injEq] at ho
                      subst ho
                      simp only [] at hd hK
                      have d40 : aa.eval (.tmp 120) = .slice od D.length cd := hd ⟨40, .data⟩ (by simp) rfl (by intro j hj; revert j; decide +kernel)
                      have d40 := ev_of d40
                      have d42 : aa.eval (.tmp 122) = .int .i64 x.i := hd ⟨42, .data⟩ (by simp) rfl (by intro j hj; revert j; decide +kernel)
                      have d42 := ev_of d42
                      clear hd
                      go_simp
                      refine (hasInt_any D x.i od cd w' (HDq.out.below hS) hlD).mono ?_
                      rintro e w9 ⟨rfl, rfl⟩
                      rw [HHas.out]
                      exact hK _ _ rfl hS (fun _ _ _ _ _ _ h => h)
                    | 44, _, ho, hK =>
                      simp only [List.getElem?_toArray, List.getElem?_cons_zero, List.getElem?_cons_succ, Option.some.injEq] at ho
                      subst ho
                      simp only [] at hd hK
                      have d37 : aa.eval (.tmp 117) = .bool false := hd ⟨37, .data⟩ (by simp) rfl (by intro j hj; revert j; decide +kernel)
                      have d37 := ev_of d37
                      have d43 : aa.eval (.tmp 123) = .bool false := hd ⟨43, .data⟩ (by simp) rfl (by intro j hj; revert j; decide +kernel)
                      have d43 := ev_of d43
                      clear hd
                      go_simp
                      exact hK _ _ rfl hS (fun _ _ _ _ _ _ h => h)
                    | 45, _, ho, hK =>
                      simp only [List.getElem?_toArray, List.getElem?_cons_zero, List.getElem?_cons_succ, Option.some.injEq] at ho
                      subst ho
                      simp only [] at hd hK
                      have d44 : aa.eval (.tmp 124) = .bool false := hd ⟨44, .data⟩ (by simp) rfl (by intro j hj; revert j; decide +kernel)
                      have d44 := ev_of d44
                      clear hd
                      go_simp
                      exact hK _ _ rfl hS (fun _ _ _ _ _ _ h => h)
                    | 46, _, ho, hK =>
                      simp only [List.getElem?_toArray, List.getElem?_cons_zero, List.getElem?_cons_succ, Option.some.injEq] at ho
                      subst ho
                      simp only [] at hd hK
                      clear hd
                      go_simp
                      exact hK _ _ rfl hS (fun _ _ _ _ _ _ h => h)
                    | 47, _, ho, hK =>
                      simp only [List.getElem?_toArray, List.getElem?_cons_zero, List.getElem?_cons_succ, Option.some.injEq] at ho
                      subst ho
                      simp only [] at hd hK
                      have d46 : aa.eval (.tmp 126) = .pointer (some ⟨b4, 3, none⟩) := hd ⟨46, .data⟩ (by simp) rfl (by intro j hj; revert j; decide +kernel)
                      have d46 := ev_of d46
                      obtain ⟨Y0, Y1, Y2, Y3, Y4, Y5, Y6, Y7⟩ := cells8 (row_onG HYq.out hS)
                      clear hd
                      go_simp
                      exact hK _ _ rfl hS (fun _ _ _ _ _ _ h => h)
                    | 48, _, ho, hK =>
                      simp only [List.getElem?_toArray, List.getElem?_cons_zero, List.getElem?_cons_succ, Option.some.injEq] at ho
                      subst ho
                      simp only [] at hd hK
                      clear hd
                      have hbd := (Below.refl w'.heap.size w').alloc (Nat.le_refl _) (.cells #[] 35)
                      go_simp
                      exact hK _ _ ⟨w'.heap.size, rfl, hS.size, heap_alloc_newG _ _ _ rfl⟩ (hS.trans (hbd.mono hS.size)) (fun j u _ _ _ _ h => phiB_below j u _ _ h hbd)
                    | 49, _, ho, hK =>
                      simp only [List.getElem?_toArray, List.getElem?_cons_zero, List.getElem?_cons_succ, Option.some.injEq] at ho
                      subst ho
                      simp only [] at hd hK
                      clear hd
                      go_simp
                      exact hK _ _ rfl hS (fun _ _ _ _ _ _ h => h)
                    | 50, _, ho, hK =>
                      simp only [List.getElem?_toArray, List.getElem?_cons_zero, List.getElem?_cons_succ, Option.some.injEq] at ho
                      subst ho
                      simp only [] at hd hK
                      have d49 : aa.eval (.tmp 129) = .pointer (some ⟨bx, 3, none⟩) := hd ⟨49, .data⟩ (by simp) rfl (by intro j hj; revert j; decide +kernel)
                      have d49 := ev_of d49
                      obtain ⟨X0, X1, X2, X3, X4, X5, X6, X7⟩ := cells8 (row_onG HXq.out hS)
                      clear hd
                      go_simp
                      exact hK _ _ rfl hS (fun _ _ _ _ _ _ h => h)
                    | 51, _, ho, hK =>
                      simp only [List.getElem?_toArray, List.getElem?_cons_zero, List.getElem?_cons_succ, Option.some.injEq] at ho
                      subst ho
                      simp only [] at hd hK
                      obtain ⟨g2, d48, hg2, hh2⟩ : ∃ g, aa.eval (.tmp 128) = .slice (some ⟨g, 0, none⟩) 0 0 ∧ wr.heap.size ≤ g ∧ w'.heap[g]? = some (.cells #[] 35 (0, 0)) := hd ⟨48, .data⟩ (by simp) rfl (by intro j hj; revert j; decide +kernel)
                      have d50 : aa.eval (.tmp 130) = .slice o1 P'.length c1 := hd ⟨50, .data⟩ (by simp) rfl (by intro j hj; revert j; decide +kernel)
                      have hsz := hS.size
                      clear hd
                      obtain ⟨⟨oo, cc, ee, hta, hlc, hnn⟩, -⟩ := HOq.out
                      simp only [Value.slice.injEq] at ee
                      obtain ⟨rfl, -, rfl⟩ := ee
                      obtain ⟨i0, hi0, hz0, hz1, hz2⟩ := info_parts info32
                      refine wp_append_row _ _ 22 rfl wr.heap.size 35 i0 _ 5 40 Try.underlying22 hi0 hz0 hz1 hz2 rfl (by decide) _ 0 [] d48 ⟨rfl, Or.inr ⟨g2, 0, #[], rfl, hg2, hh2, Nat.le_refl _, by decide, rfl, rfl⟩⟩ o1 P'.length c1 (cellsP P') d50 (cellsP_len P') (fun ad e => taps_cells (e ▸ hta.below hS)) (oneP P') (fun e => ⟨by have := hnn e; omega, hnn e⟩) (by unfold maxLen; omega) (by omega) (by omega) ?_
                      intro v' w'' hown hgr
                      refine hK _ _ (by rw [Nat.zero_add, List.nil_append] at hown; exact hown) (hS.grown hgr hS.size (fun k hk => by simp [Value.ownBlock] at hk; omega)) (fun j u hj hjk hsp hre h => ?_)
                      refine phiB_tap j u _ _ _ h hgr (fun e => by subst e; cases hsp) hjk (fun _ g hg => ?_) (fun e => by subst e; cases hre)
                      simp [Value.ownBlock] at hg; subst hg; exact hh2
                    | 52, _, ho, hK =>
                      simp only [List.getElem?_toArray, List.getElem?_cons_zero, List.getElem?_cons_succ, Option.some.injEq] at ho
                      subst ho
                      simp only [] at hd hK
                      obtain ⟨Z0, Z1, Z2, Z3, Z4⟩ := cells5 (row_onG HZq.out hS)
                      clear hd
                      go_simp
                      exact hK _ _ rfl hS (fun _ _ _ _ _ _ h => h)
                    | 53, _, ho, hK =>
                      simp only [List.getElem?_toArray, List.getElem?_cons_zero, List.getElem?_cons_succ, Option.some.injEq] at ho
                      subst ho
                      simp only [] at hd hK
                      have d52 : aa.eval (.tmp 132) = tp x.i i (s' + 1) m z := hd ⟨52, .data⟩ (by simp) rfl (by intro j hj; revert j; decide +kernel)
                      have d52 := ev_of d52
                      clear hd
                      have hbd := (Below.refl w'.heap.size w').alloc (Nat.le_refl _) (.cells #[.int .i64 x.i, .int .i64 i, .int .i64 (s' + 1), .int .i64 m, .int .i64 z] 35)
                      go_simp
                      exact hK _ _ ⟨w'.heap.size, rfl, heap_alloc_newG _ _ _ rfl⟩ (hS.trans (hbd.mono hS.size)) (fun j u _ _ _ _ h => phiB_below j u _ _ h hbd)
                    | 54, _, ho, hK =>
                      simp only [List.getElem?_toArray, List.getElem?_cons_zero, List.getElem?_cons_succ, Option.some.injEq] at ho
                      subst ho
                      simp only [] at hd hK
                      have hown5 : w'.ownsRow wr.heap.size 35 5 (aa.eval (.tmp 131)) P'.length (cellsP P') := hd ⟨51, .data⟩ (by simp) rfl (by intro j hj; revert j; decide +kernel)
                      obtain ⟨b7', d53, hh7⟩ : ∃ b, aa.eval (.tmp 133) = .slice (some ⟨b, 0, none⟩) 1 1 ∧ w'.heap[b]? = some (.cells #[.int .i64 x.i, .int .i64 i, .int .i64 (s' + 1), .int .i64 m, .int .i64 z] 35 (0, 0)) := hd ⟨53, .data⟩ (by simp) rfl (by intro j hj; revert j; decide +kernel)
                      have hsz := hS.size
                      clear hd
                      obtain ⟨i0, hi0, hz0, hz1, hz2⟩ := info_parts info32
                      refine wp_append_row _ _ 22 rfl wr.heap.size 35 i0 _ 5 40 Try.underlying22 hi0 hz0 hz1 hz2 rfl (by decide) _ P'.length (cellsP P') rfl hown5 (some ⟨b7', 0, none⟩) 1 1 (cellsP [(⟨x.i, i, s' + 1, m, z⟩ : TP)]) d53 (cellsP_len _) (fun ad e => by cases e; exact cells_blockG hh7) (oneP _) (fun e => by cases e) (by unfold maxLen; omega) (by omega) (by omega) ?_
                      intro v' w'' hown hgr
                      refine hK _ _ (by rw [← cellsP_app] at hown; exact hown) (hS.grown hgr hS.size (fun k hk => (ownsRow_block hown5 k hk).1)) (fun j u hj hjk hsp hre h => ?_)
                      exact phiB_tap j u _ _ _ h hgr (fun e => by subst e; cases hsp) (fun e => by subst e; cases hsp) (fun e => by subst e; cases hsp) hjk
                    | 55, _, ho, hK =>
                      simp only [List.getElem?_toArray, List.getElem?_cons_zero, List.getElem?_cons_succ, Option.some.injEq] at ho
                      subst ho
                      simp only [] at hd hK
                      have d47 : aa.eval (.tmp 127) = .slice x1 Pn.length d1 := hd ⟨47, .data⟩ (by simp) rfl (by intro j hj; revert j; decide +kernel)
                      have d47 := ev_of d47
                      have hown : w'.ownsRow wr.heap.size 35 5 (aa.eval (.tmp 134)) (P'.length + 1) (cellsP (P' ++ [(⟨x.i, i, s' + 1, m, z⟩ : TP)])) := hd ⟨54, .data⟩ (by simp) rfl (by intro j hj; revert j; decide +kernel)
                      clear hd
                      rw [← HPn.out] at hown
                      obtain ⟨o9, c9, d54, h9, -⟩ := tapsV_own hown
                      have d54 := ev_of d54
                      clear hown
                      have hlen : Pn.length ≤ 100 := by rw [HPn.out]; simp; omega
                      have hT9 := (HVq.out.below hS).parts.1.2.1
                      go_simp
                      refine (sameTaps_same Pn x1 o9 d1 c9 w' hT9 h9 hlen).mono ?_
                      rintro e w9 ⟨rfl, hb9⟩
                      exact hK _ _ rfl (hS.trans (hb9.mono hS.size)) (fun j u _ _ _ _ h => phiB_below j u _ _ h hb9)
                    | 56, _, ho, hK =>
                      simp only [List.getElem?_toArray, List.getElem?_cons_zero, List.getElem?_cons_succ, Option.some.injEq] at ho
                      subst ho
                      simp only [] at hd hK
                      have d55 : aa.eval (.tmp 135) = .bool true := hd ⟨55, .data⟩ (by simp) rfl (by intro j hj; revert j; decide +kernel)
                      have d55 := ev_of d55
                      clear hd
                      go_simp
                      exact hK _ _ rfl hS (fun _ _ _ _ _ _ h => h)
                    | 57, _, ho, hK =>
                      simp only [List.getElem?_toArray, List.getElem?_cons_zero, List.getElem?_cons_succ, Option.some.injEq] at ho
                      subst ho
                      simp only [] at hd hK
                      have d45 : aa.eval (.tmp 125) = .bool false := hd ⟨45, .data⟩ (by simp) rfl (by intro j hj; revert j; decide +kernel)
                      have d45 := ev_of d45
                      have d56 : aa.eval (.tmp 136) = .bool false := hd ⟨56, .data⟩ (by simp) rfl (by intro j hj; revert j; decide +kernel)
                      have d56 := ev_of d56
                      clear hd
                      go_simp
                      exact hK _ _ rfl hS (fun _ _ _ _ _ _ h => h)
                  · intro vals wf hS hφ
                    have e57 : vals 57 = .bool false := hφ 57 (by decide) (by decide)
                    clear hφ
                    refine ⟨by kernel_rfl, ?_⟩
                    refine act_of (b := ⟨#[gtV i z s oa P.length ca v od D.length cd l u, .slice (some Al) L.length cl, .slice (some Am) M.length ct, .pointer (some ⟨w.heap.size, 0, none⟩), undef, undef, u6, .int .i64 (l' - 1), .pointer (some ⟨bx, 0, none⟩), .int .i64 (q : Int), .pointer (some ⟨b4, 0, none⟩), .pointer (some ⟨b5, 0, none⟩), .int .i64 0, .int .i64 (n : Int), .bool true, .bool false, gtV i z s oa P.length ca v od D.length cd l u, .int .i64 0, .bool false, .pointer (some ⟨w.heap.size, 6, none⟩), .pointer (some ⟨w.heap.size, 6, none⟩), .int .i64 l, gtV i z s oa P.length ca v od D.length cd l u, .int .i64 (q : Int), .slice (some Al) L.length cl, .int .i64 (L.length : Int), .bool true, .bool true, .int .i64 (q : Int), .slice (some Am) M.length ct, .int .i64 (M.length : Int), .bool true, .bool true, u33, u34, .tuple #[gtV i z (s' + 1) x1 Pn.length d1 v x2 D.length d2 (l' - 1) u, tp x.i i (s' + 1) m z, .int .i64 0], gtV i z s' o1 P'.length c1 v o2 D.length c2 l' u, .slice (some Al) L.length cl, .int .i64 (q : Int), .pointer (some (Al.add (q * 6))), tk x.i x.k x.f x.t x.z x.r, .slice (some Am) M.length ct, .int .i64 (q : Int), .pointer (some (Am.add q)), .int .i64 m, .tuple #[gtV i z (s' + 1) x1 Pn.length d1 v x2 D.length d2 (l' - 1) u, tp x.i i (s' + 1) m z, .int .i64 0], gtV i z (s' + 1) x1 Pn.length d1 v x2 D.length d2 (l' - 1) u, tp x.i i (s' + 1) m z, .int .i64 0, .int .i64 0, .bool false, .int .i64 (n : Int), .pointer (some ⟨bx, 3, none⟩), .slice o1 P'.length c1, .int .i64 (P'.length : Int), .bool false, u56, u57, u58, u59, u60, u61, u62, u63, u64, u65, u66, u67, u68, u69, u70, u71, u72, u73, u74, u75, u76, u77, .int .i64 l', .int .i64 (l' - 1), vals 0, vals 1, vals 2, vals 3, vals 4, vals 5, vals 6, vals 7, vals 8, vals 9, vals 10, vals 11, vals 12, vals 13, vals 14, vals 15, vals 16, vals 17, vals 18, vals 19, vals 20, vals 21, vals 22, vals 23, vals 24, vals 25, vals 26, vals 27, vals 28, vals 29, vals 30, vals 31, vals 32, vals 33, vals 34, vals 35, vals 36, vals 37, vals 38, vals 39, vals 40, vals 41, vals 42, vals 43, vals 44, vals 45, vals 46, vals 47, vals 48, vals 49, vals 50, vals 51, vals 52, vals 53, vals 54, vals 55, vals 56, vals 57, u138], []⟩) (by kernel_rfl) ?_
                    rw [e57]
                    clear e57
                    have HXf := hide (row_onG HXq.out hS)
                    have HYf := hide (row_onG HYq.out hS)
                    have HVf := hide (HVq.out.below hS)
                    have HGf := hide (HGq.out.on hS)
                    clear hS HXq HYq HZq HGq HVq HOq HDq
                    obtain ⟨X0, X1, X2, X3, X4, X5, X6, X7⟩ := cells8 HXf.out
                    obtain ⟨Y0, Y1, Y2, Y3, Y4, Y5, Y6, Y7⟩ := cells8 HYf.out
                    have F0 := frozen_of_row wf _ 0 _ _ HXf.out
                    have F1 := frozen_of_row wf _ 1 _ _ HXf.out
                    have F2 := frozen_of_row wf _ 2 _ _ HXf.out
                    have F3 := frozen_of_row wf _ 3 _ _ HXf.out
                    have F4 := frozen_of_row wf _ 4 _ _ HXf.out
                    have F5 := frozen_of_row wf _ 5 _ _ HXf.out
                    have F6 := frozen_of_row wf _ 6 _ _ HXf.out
                    have F7 := frozen_of_row wf _ 7 _ _ HXf.out
                    go_wp2_with fail
                    refine ⟨?_, ?_⟩
                    · iterate 123 apply Exists.intro
                      refine ⟨?_, rfl⟩
                      exact ⟨q + 1, s' + 1, Pn, l' - 1, x1, d1, x2, d2, by omega, by simp, rfl, HCk, hide (row8 HXf.out _ _ _ _ _ _ _ _), hide ((((((((HVf.out.set HAx.out 0 (.int .i64 i)).set HAx.out 1 (.int .i64 z)).set HAx.out 2 (.int .i64 (s' + 1))).set HAx.out 3 (.slice x1 Pn.length d1)).set HAx.out 4 (.int .i64 v)).set HAx.out 5 (.slice x2 D.length d2)).set HAx.out 6 (.int .i64 (l' - 1))).set HAx.out 7 (.int .i64 u)), hide ((((((((HGf.out.set ⟨bx, 0, none⟩ (by simp; omega) (.int .i64 i)).set ⟨bx, 1, none⟩ (by simp; omega) (.int .i64 z)).set ⟨bx, 2, none⟩ (by simp; omega) (.int .i64 (s' + 1))).set ⟨bx, 3, none⟩ (by simp; omega) (.slice x1 Pn.length d1)).set ⟨bx, 4, none⟩ (by simp; omega) (.int .i64 v)).set ⟨bx, 5, none⟩ (by simp; omega) (.slice x2 D.length d2)).set ⟨bx, 6, none⟩ (by simp; omega) (.int .i64 (l' - 1))).set ⟨bx, 7, none⟩ (by simp; omega) (.int .i64 u))⟩
                    · show L.length - (intOf (.int .i64 ((q : Int) + 1))).toNat < L.length - (intOf (.int .i64 (q : Int))).toNat
                      simp [intOf]; omega
            · have hz' : (E != 0) = true := by simpa using hz
              have HXW := hide (row_onG HXr.out HB.out)
              have HVW := hide (HV.out.below HB.out)
              have HGW := hide (HG.out.on HB.out)
              clear HXr HV HG HT6 HM1 HC HTb HEq HVn HAx HY HZ
              go_wp2_with fail
              refine ⟨?_, ?_⟩
              · iterate 123 apply Exists.intro
                refine ⟨?_, rfl⟩
                exact ⟨q + 1, s', P', l', o1, c1, o2, c2, by omega, by simp, rfl, HI, HXW, HVW, HGW⟩
              · show L.length - (intOf (.int .i64 ((q : Int) + 1))).toNat < L.length - (intOf (.int .i64 (q : Int))).toNat
                simp [intOf]; omega
          clear hK0 HTb
          have hbxr : bx < wr.heap.size := row_ltG HXr.out
          refine wp_region_reads (fun w' => Below wr.heap.size wr w') [0, 1, 2, 3, 4, 5, 6, 7, 8] 10 (by rfl) (by kernel_rfl) (by kernel_rfl) (by kernel_rfl) (fun c d v a w h => by cases d <;> exact h) ?_ ?_
          · exact (Below.refl _ _).drew
          refine wpPureH_step (gtV i z s' o1 P'.length c1 v o2 D.length c2 l' u) rfl rfl (fun w' hS => ?_) ?_
          · have hr := row_onG HXr.out hS
            have x0 := cell_of_row w' _ 0 _ _ _ hr
            have x1 := cell_of_row w' _ 1 _ _ _ hr
            have x2 := cell_of_row w' _ 2 _ _ _ hr
            have x3 := cell_of_row w' _ 3 _ _ _ hr
            have x4 := cell_of_row w' _ 4 _ _ _ hr
            have x5 := cell_of_row w' _ 5 _ _ _ hr
            have x6 := cell_of_row w' _ 6 _ _ _ hr
            have x7 := cell_of_row w' _ 7 _ _ _ hr
            simp at x0 x1 x2 x3 x4 x5 x6 x7
            go_simp
          refine wpPureH_step (.slice (some Al) L.length cl) rfl rfl (fun w' hS => ?_) ?_
          · go_simp
          refine wpPureH_step (.int .i64 (q : Int)) rfl rfl (fun w' hS => ?_) ?_
          · go_simp
          refine wpPureH_step (.pointer (some (Al.add (q * 6)))) rfl rfl (fun w' hS => ?_) ?_
          · go_simp
          refine wpPureH_step (tk x.i x.k x.f x.t x.z x.r) rfl rfl (fun w' hS => ?_) ?_
          · obtain ⟨c0, c1, c2, c3, c4, c5⟩ := HT6.out.below hS HT6.out.lt
            go_simp
          refine wpPureH_step (.slice (some Am) M.length ct) rfl rfl (fun w' hS => ?_) ?_
          · go_simp
          refine wpPureH_step (.int .i64 (q : Int)) rfl rfl (fun w' hS => ?_) ?_
          · go_simp
          refine wpPureH_step (.pointer (some (Am.add q))) rfl rfl (fun w' hS => ?_) ?_
          · go_simp
          refine wpPureH_step (.int .i64 m) rfl rfl (fun w' hS => ?_) ?_
          · have hc : w'.cell? (Am.add q) = some (.int .i64 m) := by rw [hS.cell (World.block_lt_of_cell? wr _ HM1.out)]; exact HM1.out
            go_simp
          refine wpPureH_nil ?_
          have HB := hide ((Below.refl wr.heap.size wr).drew)
          generalize wr.drew = X at *
          refine three_readyH (i := 9) (j := 14) (k := 15) (by kernel_rfl) rfl rfl rfl rfl rfl rfl (fun K hK => ?_) (fun K hK => ?_) (fun K hK => ?_)
          · skip
            go_simp
            refine (HC.out X HB.out).mono ?_
            rintro e X1 ⟨⟨ai, az, aq, x1, n1, d1, av, x2, n2, d2, al, au, pa, pg, ps, pm, pz, Pn, Dn, rfl, fr1, fr2, hVn, hEq⟩, hb⟩
            have HVn := hide hVn
            have HEq : Hid (E = 0 → (i = ai ∧ z = az ∧ s' + 1 = aq ∧ v = av ∧ l' - 1 = al ∧ u = au) ∧ (x.i = pa ∧ i = pg ∧ s' + 1 = ps ∧ m = pm ∧ z = pz) ∧ Pn = P' ++ [⟨x.i, i, s' + 1, m, z⟩] ∧ D = Dn) := hide (fun h => by obtain ⟨⟨g1, g2, g3, g4, g5, g6⟩, ⟨g7, g8, g9, g10, g11⟩, g12, g13⟩ := hEq h; exact ⟨⟨g1.symm, g2.symm, g3.symm, g4.symm, g5.symm, g6.symm⟩, ⟨g7.symm, g8.symm, g9.symm, g10.symm, g11.symm⟩, g12, g13.symm⟩)
            have hsz := HB.out.size
            have HB' := hide (HB.out.trans (hb.mono HB.out.size))
            have HAx : Hid (GtA bx x1 x2 Pn Dn) := hide (GtA.fresh fr1 fr2 (Nat.lt_of_lt_of_le hbxr HB.out.size))
            refine hK _ _ HB'.out ?_
            clear hK K hb HB fr1 fr2 hVn hEq hsz
            refine takesH (fuel := 5) (by kernel_rfl) (fun c d v a w h => by cases d <;> exact h) HB'.out [10, 11, 12, 13] _ _ (by kernel_rfl) ?_
            refine wpPureH_step (.tuple #[gtV ai az aq x1 n1 d1 av x2 n2 d2 al au, tp pa pg ps pm pz, .int .i64 E]) rfl rfl (fun w' hS => ?_) ?_
            · go_simp
            refine wpPureH_step (gtV ai az aq x1 n1 d1 av x2 n2 d2 al au) rfl rfl (fun w' hS => ?_) ?_
            · go_simp
            refine wpPureH_step (tp pa pg ps pm pz) rfl rfl (fun w' hS => ?_) ?_
            · go_simp
            refine wpPureH_step (.int .i64 E) rfl rfl (fun w' hS => ?_) ?_
            · go_simp
            refine wpPureH_nil ?_
            have HB := HB'
            clear HB'
            refine two_readyH (i := 14) (j := 15) (by kernel_rfl) rfl rfl rfl rfl (fun K hK => ?_) (fun K hK => ?_)
            · skip
              go_simp
              have hb := (Below.refl X1.heap.size X1).alloc (Nat.le_refl _) (.cells #[.int .i64 0, .int .i64 0, .int .i64 0, .slice none 0 0, .int .i64 0, .slice none 0 0, .int .i64 0, .int .i64 0] 29)
              have HY : Hid ((X1.alloc (.cells #[.int .i64 0, .int .i64 0, .int .i64 0, .slice none 0 0, .int .i64 0, .slice none 0 0, .int .i64 0, .int .i64 0] 29)).heap[X1.heap.size]? = some (.cells #[.int .i64 0, .int .i64 0, .int .i64 0, .slice none 0 0, .int .i64 0, .slice none 0 0, .int .i64 0, .int .i64 0] 29)) := hide (heap_alloc_newG _ _ _ rfl)
              have HB' := hide (HB.out.trans (hb.mono HB.out.size))
              have hb4 : wr.heap.size ≤ X1.heap.size := HB.out.size
              have HA4 : Hid (GtA X1.heap.size x1 x2 Pn Dn) := hide (GtA.late HVn.out (Nat.le_refl _))
              have HVn' := hide (HVn.out.below hb)
              refine hK _ _ HB'.out ?_
              clear hK K hb HB HVn
              generalize X1.alloc (.cells #[.int .i64 0, .int .i64 0, .int .i64 0, .slice none 0 0, .int .i64 0, .slice none 0 0, .int .i64 0, .int .i64 0] 29) = X2 at *
              generalize X1.heap.size = b4 at *
              have HB := HB'
              clear HB'
              have HVn := HVn'
              clear HVn'
              refine one_readyH (i := 15) (by kernel_rfl) rfl rfl (fun K hK => ?_)
              go_simp
              have hb := (Below.refl X2.heap.size X2).alloc (Nat.le_refl _) (.cells #[.int .i64 0, .int .i64 0, .int .i64 0, .int .i64 0, .int .i64 0] 35)
              have HZ : Hid ((X2.alloc (.cells #[.int .i64 0, .int .i64 0, .int .i64 0, .int .i64 0, .int .i64 0] 35)).heap[X2.heap.size]? = some (.cells #[.int .i64 0, .int .i64 0, .int .i64 0, .int .i64 0, .int .i64 0] 35)) := hide (heap_alloc_newG _ _ _ rfl)
              have HB' := hide (HB.out.trans (hb.mono HB.out.size))
              have hb5 : wr.heap.size ≤ X2.heap.size := HB.out.size
              have hlt := row_ltG HY.out
              have hn : b4 ≠ X2.heap.size := by omega
              have HY' := hide (row_onG HY.out hb)
              have HA5 : Hid (GtA X2.heap.size x1 x2 Pn Dn) := hide (GtA.late HVn.out (Nat.le_refl _))
              have HVn' := hide (HVn.out.below hb)
              refine hK _ _ HB'.out ?_
              clear hK K hb HB HY hlt HVn
              generalize X2.alloc (.cells #[.int .i64 0, .int .i64 0, .int .i64 0, .int .i64 0, .int .i64 0] 35) = X3 at *
              generalize X2.heap.size = b5 at *
              have HB := HB'
              clear HB'
              have HY := HY'
              clear HY'
              have HVn := HVn'
              clear HVn'
              have hn45 : b4 ≠ b5 := by omega
              clear hn
              have r0 := cell_of_row X3 _ 0 _ _ _ HY.out
              have f0 := frozen_of_row X3 _ 0 _ _ HY.out
              have r1 := cell_of_row X3 _ 1 _ _ _ HY.out
              have f1 := frozen_of_row X3 _ 1 _ _ HY.out
              have r2 := cell_of_row X3 _ 2 _ _ _ HY.out
              have f2 := frozen_of_row X3 _ 2 _ _ HY.out
              have r3 := cell_of_row X3 _ 3 _ _ _ HY.out
              have f3 := frozen_of_row X3 _ 3 _ _ HY.out
              have r4 := cell_of_row X3 _ 4 _ _ _ HY.out
              have f4 := frozen_of_row X3 _ 4 _ _ HY.out
              have r5 := cell_of_row X3 _ 5 _ _ _ HY.out
              have f5 := frozen_of_row X3 _ 5 _ _ HY.out
              have r6 := cell_of_row X3 _ 6 _ _ _ HY.out
              have f6 := frozen_of_row X3 _ 6 _ _ HY.out
              have r7 := cell_of_row X3 _ 7 _ _ _ HY.out
              have f7 := frozen_of_row X3 _ 7 _ _ HY.out
              simp at r0 r1 r2 r3 r4 r5 r6 r7
              refine one_readyH (i := 16) (by kernel_rfl) rfl rfl (fun K hK => ?_)
              go_simp
              have HY1 := hide (row8 HY.out (.int .i64 ai) (.int .i64 az) (.int .i64 aq) (.slice x1 n1 d1) (.int .i64 av) (.slice x2 n2 d2) (.int .i64 al) (.int .i64 au))
              have HB1 := hide ((((((((HB.out.setCell (p := ⟨b4, 0, none⟩) hb4 (.int .i64 ai)).setCell (p := ⟨b4, 1, none⟩) hb4 (.int .i64 az)).setCell (p := ⟨b4, 2, none⟩) hb4 (.int .i64 aq)).setCell (p := ⟨b4, 3, none⟩) hb4 (.slice x1 n1 d1)).setCell (p := ⟨b4, 4, none⟩) hb4 (.int .i64 av)).setCell (p := ⟨b4, 5, none⟩) hb4 (.slice x2 n2 d2)).setCell (p := ⟨b4, 6, none⟩) hb4 (.int .i64 al)).setCell (p := ⟨b4, 7, none⟩) hb4 (.int .i64 au))
              have HV1 := hide ((((((((HVn.out.set HA4.out 0 (.int .i64 ai)).set HA4.out 1 (.int .i64 az)).set HA4.out 2 (.int .i64 aq)).set HA4.out 3 (.slice x1 n1 d1)).set HA4.out 4 (.int .i64 av)).set HA4.out 5 (.slice x2 n2 d2)).set HA4.out 6 (.int .i64 al)).set HA4.out 7 (.int .i64 au))
              have HZ1 := hide (row_far (row_far (row_far (row_far (row_far (row_far (row_far (row_far HZ.out (fun h => hn45 h.symm) 0 (.int .i64 ai)) (fun h => hn45 h.symm) 1 (.int .i64 az)) (fun h => hn45 h.symm) 2 (.int .i64 aq)) (fun h => hn45 h.symm) 3 (.slice x1 n1 d1)) (fun h => hn45 h.symm) 4 (.int .i64 av)) (fun h => hn45 h.symm) 5 (.slice x2 n2 d2)) (fun h => hn45 h.symm) 6 (.int .i64 al)) (fun h => hn45 h.symm) 7 (.int .i64 au))
              refine hK _ _ HB1.out ?_
              clear hK K r0 r1 r2 r3 r4 r5 r6 r7 f0 f1 f2 f3 f4 f5 f6 f7 HY HB HVn HZ
              generalize ((((((((X3.setCell ⟨b4, 0, none⟩ (.int .i64 ai)).setCell ⟨b4, 1, none⟩ (.int .i64 az)).setCell ⟨b4, 2, none⟩ (.int .i64 aq)).setCell ⟨b4, 3, none⟩ (.slice x1 n1 d1)).setCell ⟨b4, 4, none⟩ (.int .i64 av)).setCell ⟨b4, 5, none⟩ (.slice x2 n2 d2)).setCell ⟨b4, 6, none⟩ (.int .i64 al)).setCell ⟨b4, 7, none⟩ (.int .i64 au)) = Xy at *
              have r0 := cell_of_row Xy _ 0 _ _ _ HZ1.out
              have f0 := frozen_of_row Xy _ 0 _ _ HZ1.out
              have r1 := cell_of_row Xy _ 1 _ _ _ HZ1.out
              have f1 := frozen_of_row Xy _ 1 _ _ HZ1.out
              have r2 := cell_of_row Xy _ 2 _ _ _ HZ1.out
              have f2 := frozen_of_row Xy _ 2 _ _ HZ1.out
              have r3 := cell_of_row Xy _ 3 _ _ _ HZ1.out
              have f3 := frozen_of_row Xy _ 3 _ _ HZ1.out
              have r4 := cell_of_row Xy _ 4 _ _ _ HZ1.out
              have f4 := frozen_of_row Xy _ 4 _ _ HZ1.out
              simp at r0 r1 r2 r3 r4
              refine one_readyH (i := 17) (by kernel_rfl) rfl rfl (fun K hK => ?_)
              go_simp
              have HZ2 := hide (row5 HZ1.out (.int .i64 pa) (.int .i64 pg) (.int .i64 ps) (.int .i64 pm) (.int .i64 pz))
              have HB2 := hide (((((HB1.out.setCell (p := ⟨b5, 0, none⟩) hb5 (.int .i64 pa)).setCell (p := ⟨b5, 1, none⟩) hb5 (.int .i64 pg)).setCell (p := ⟨b5, 2, none⟩) hb5 (.int .i64 ps)).setCell (p := ⟨b5, 3, none⟩) hb5 (.int .i64 pm)).setCell (p := ⟨b5, 4, none⟩) hb5 (.int .i64 pz))
              have HV2 := hide (((((HV1.out.set HA5.out 0 (.int .i64 pa)).set HA5.out 1 (.int .i64 pg)).set HA5.out 2 (.int .i64 ps)).set HA5.out 3 (.int .i64 pm)).set HA5.out 4 (.int .i64 pz))
              have HY2 := hide (row_far (row_far (row_far (row_far (row_far HY1.out hn45 0 (.int .i64 pa)) hn45 1 (.int .i64 pg)) hn45 2 (.int .i64 ps)) hn45 3 (.int .i64 pm)) hn45 4 (.int .i64 pz))
              refine hK _ _ HB2.out ?_
              clear hK K r0 r1 r2 r3 r4 f0 f1 f2 f3 f4 HY1 HB1 HV1 HZ1
              generalize (((((Xy.setCell ⟨b5, 0, none⟩ (.int .i64 pa)).setCell ⟨b5, 1, none⟩ (.int .i64 pg)).setCell ⟨b5, 2, none⟩ (.int .i64 ps)).setCell ⟨b5, 3, none⟩ (.int .i64 pm)).setCell ⟨b5, 4, none⟩ (.int .i64 pz)) = Xz at *
              refine one_readyH (i := 18) (by kernel_rfl) rfl rfl (fun K hK => ?_)
              go_simp
              refine hK _ _ HB2.out ?_
              clear hK K
              refine wpAnyH_done (by kernel_rfl) ?_ _
              exact key b4 b5 ai az aq x1 n1 d1 av x2 n2 d2 al au pa pg ps pm pz Pn Dn Xz HB2 HY2 HZ2 hb4 hb5 HV2 HAx HEq
            · skip
              go_simp
              have hb := (Below.refl X1.heap.size X1).alloc (Nat.le_refl _) (.cells #[.int .i64 0, .int .i64 0, .int .i64 0, .int .i64 0, .int .i64 0] 35)
              have HZ : Hid ((X1.alloc (.cells #[.int .i64 0, .int .i64 0, .int .i64 0, .int .i64 0, .int .i64 0] 35)).heap[X1.heap.size]? = some (.cells #[.int .i64 0, .int .i64 0, .int .i64 0, .int .i64 0, .int .i64 0] 35)) := hide (heap_alloc_newG _ _ _ rfl)
              have HB' := hide (HB.out.trans (hb.mono HB.out.size))
              have hb5 : wr.heap.size ≤ X1.heap.size := HB.out.size
              have HA5 : Hid (GtA X1.heap.size x1 x2 Pn Dn) := hide (GtA.late HVn.out (Nat.le_refl _))
              have HVn' := hide (HVn.out.below hb)
              refine hK _ _ HB'.out ?_
              clear hK K hb HB HVn
              generalize X1.alloc (.cells #[.int .i64 0, .int .i64 0, .int .i64 0, .int .i64 0, .int .i64 0] 35) = X4 at *
              generalize X1.heap.size = b5 at *
              have HB := HB'
              clear HB'
              have HVn := HVn'
              clear HVn'
              refine one_readyH (i := 14) (by kernel_rfl) rfl rfl (fun K hK => ?_)
              go_simp
              have hb := (Below.refl X4.heap.size X4).alloc (Nat.le_refl _) (.cells #[.int .i64 0, .int .i64 0, .int .i64 0, .slice none 0 0, .int .i64 0, .slice none 0 0, .int .i64 0, .int .i64 0] 29)
              have HY : Hid ((X4.alloc (.cells #[.int .i64 0, .int .i64 0, .int .i64 0, .slice none 0 0, .int .i64 0, .slice none 0 0, .int .i64 0, .int .i64 0] 29)).heap[X4.heap.size]? = some (.cells #[.int .i64 0, .int .i64 0, .int .i64 0, .slice none 0 0, .int .i64 0, .slice none 0 0, .int .i64 0, .int .i64 0] 29)) := hide (heap_alloc_newG _ _ _ rfl)
              have HB' := hide (HB.out.trans (hb.mono HB.out.size))
              have hb4 : wr.heap.size ≤ X4.heap.size := HB.out.size
              have hlt := row_ltG HZ.out
              have hn : b5 ≠ X4.heap.size := by omega
              have HZ' := hide (row_onG HZ.out hb)
              have HA4 : Hid (GtA X4.heap.size x1 x2 Pn Dn) := hide (GtA.late HVn.out (Nat.le_refl _))
              have HVn' := hide (HVn.out.below hb)
              refine hK _ _ HB'.out ?_
              clear hK K hb HB HZ hlt HVn
              generalize X4.alloc (.cells #[.int .i64 0, .int .i64 0, .int .i64 0, .slice none 0 0, .int .i64 0, .slice none 0 0, .int .i64 0, .int .i64 0] 29) = X5 at *
              generalize X4.heap.size = b4 at *
              have HB := HB'
              clear HB'
              have HZ := HZ'
              clear HZ'
              have HVn := HVn'
              clear HVn'
              have hn45 : b4 ≠ b5 := by omega
              clear hn
              have r0 := cell_of_row X5 _ 0 _ _ _ HY.out
              have f0 := frozen_of_row X5 _ 0 _ _ HY.out
              have r1 := cell_of_row X5 _ 1 _ _ _ HY.out
              have f1 := frozen_of_row X5 _ 1 _ _ HY.out
              have r2 := cell_of_row X5 _ 2 _ _ _ HY.out
              have f2 := frozen_of_row X5 _ 2 _ _ HY.out
              have r3 := cell_of_row X5 _ 3 _ _ _ HY.out
              have f3 := frozen_of_row X5 _ 3 _ _ HY.out
              have r4 := cell_of_row X5 _ 4 _ _ _ HY.out
              have f4 := frozen_of_row X5 _ 4 _ _ HY.out
              have r5 := cell_of_row X5 _ 5 _ _ _ HY.out
              have f5 := frozen_of_row X5 _ 5 _ _ HY.out
              have r6 := cell_of_row X5 _ 6 _ _ _ HY.out
              have f6 := frozen_of_row X5 _ 6 _ _ HY.out
              have r7 := cell_of_row X5 _ 7 _ _ _ HY.out
              have f7 := frozen_of_row X5 _ 7 _ _ HY.out
              simp at r0 r1 r2 r3 r4 r5 r6 r7
              refine one_readyH (i := 16) (by kernel_rfl) rfl rfl (fun K hK => ?_)
              go_simp
              have HY1 := hide (row8 HY.out (.int .i64 ai) (.int .i64 az) (.int .i64 aq) (.slice x1 n1 d1) (.int .i64 av) (.slice x2 n2 d2) (.int .i64 al) (.int .i64 au))
              have HB1 := hide ((((((((HB.out.setCell (p := ⟨b4, 0, none⟩) hb4 (.int .i64 ai)).setCell (p := ⟨b4, 1, none⟩) hb4 (.int .i64 az)).setCell (p := ⟨b4, 2, none⟩) hb4 (.int .i64 aq)).setCell (p := ⟨b4, 3, none⟩) hb4 (.slice x1 n1 d1)).setCell (p := ⟨b4, 4, none⟩) hb4 (.int .i64 av)).setCell (p := ⟨b4, 5, none⟩) hb4 (.slice x2 n2 d2)).setCell (p := ⟨b4, 6, none⟩) hb4 (.int .i64 al)).setCell (p := ⟨b4, 7, none⟩) hb4 (.int .i64 au))
              have HV1 := hide ((((((((HVn.out.set HA4.out 0 (.int .i64 ai)).set HA4.out 1 (.int .i64 az)).set HA4.out 2 (.int .i64 aq)).set HA4.out 3 (.slice x1 n1 d1)).set HA4.out 4 (.int .i64 av)).set HA4.out 5 (.slice x2 n2 d2)).set HA4.out 6 (.int .i64 al)).set HA4.out 7 (.int .i64 au))
              have HZ1 := hide (row_far (row_far (row_far (row_far (row_far (row_far (row_far (row_far HZ.out (fun h => hn45 h.symm) 0 (.int .i64 ai)) (fun h => hn45 h.symm) 1 (.int .i64 az)) (fun h => hn45 h.symm) 2 (.int .i64 aq)) (fun h => hn45 h.symm) 3 (.slice x1 n1 d1)) (fun h => hn45 h.symm) 4 (.int .i64 av)) (fun h => hn45 h.symm) 5 (.slice x2 n2 d2)) (fun h => hn45 h.symm) 6 (.int .i64 al)) (fun h => hn45 h.symm) 7 (.int .i64 au))
              refine hK _ _ HB1.out ?_
              clear hK K r0 r1 r2 r3 r4 r5 r6 r7 f0 f1 f2 f3 f4 f5 f6 f7 HY HB HVn HZ
              generalize ((((((((X5.setCell ⟨b4, 0, none⟩ (.int .i64 ai)).setCell ⟨b4, 1, none⟩ (.int .i64 az)).setCell ⟨b4, 2, none⟩ (.int .i64 aq)).setCell ⟨b4, 3, none⟩ (.slice x1 n1 d1)).setCell ⟨b4, 4, none⟩ (.int .i64 av)).setCell ⟨b4, 5, none⟩ (.slice x2 n2 d2)).setCell ⟨b4, 6, none⟩ (.int .i64 al)).setCell ⟨b4, 7, none⟩ (.int .i64 au)) = Xy at *
              have r0 := cell_of_row Xy _ 0 _ _ _ HZ1.out
              have f0 := frozen_of_row Xy _ 0 _ _ HZ1.out
              have r1 := cell_of_row Xy _ 1 _ _ _ HZ1.out
              have f1 := frozen_of_row Xy _ 1 _ _ HZ1.out
              have r2 := cell_of_row Xy _ 2 _ _ _ HZ1.out
              have f2 := frozen_of_row Xy _ 2 _ _ HZ1.out
              have r3 := cell_of_row Xy _ 3 _ _ _ HZ1.out
              have f3 := frozen_of_row Xy _ 3 _ _ HZ1.out
              have r4 := cell_of_row Xy _ 4 _ _ _ HZ1.out
              have f4 := frozen_of_row Xy _ 4 _ _ HZ1.out
              simp at r0 r1 r2 r3 r4
              refine one_readyH (i := 17) (by kernel_rfl) rfl rfl (fun K hK => ?_)
              go_simp
              have HZ2 := hide (row5 HZ1.out (.int .i64 pa) (.int .i64 pg) (.int .i64 ps) (.int .i64 pm) (.int .i64 pz))
              have HB2 := hide (((((HB1.out.setCell (p := ⟨b5, 0, none⟩) hb5 (.int .i64 pa)).setCell (p := ⟨b5, 1, none⟩) hb5 (.int .i64 pg)).setCell (p := ⟨b5, 2, none⟩) hb5 (.int .i64 ps)).setCell (p := ⟨b5, 3, none⟩) hb5 (.int .i64 pm)).setCell (p := ⟨b5, 4, none⟩) hb5 (.int .i64 pz))
              have HV2 := hide (((((HV1.out.set HA5.out 0 (.int .i64 pa)).set HA5.out 1 (.int .i64 pg)).set HA5.out 2 (.int .i64 ps)).set HA5.out 3 (.int .i64 pm)).set HA5.out 4 (.int .i64 pz))
              have HY2 := hide (row_far (row_far (row_far (row_far (row_far HY1.out hn45 0 (.int .i64 pa)) hn45 1 (.int .i64 pg)) hn45 2 (.int .i64 ps)) hn45 3 (.int .i64 pm)) hn45 4 (.int .i64 pz))
              refine hK _ _ HB2.out ?_
              clear hK K r0 r1 r2 r3 r4 f0 f1 f2 f3 f4 HY1 HB1 HV1 HZ1
              generalize (((((Xy.setCell ⟨b5, 0, none⟩ (.int .i64 pa)).setCell ⟨b5, 1, none⟩ (.int .i64 pg)).setCell ⟨b5, 2, none⟩ (.int .i64 ps)).setCell ⟨b5, 3, none⟩ (.int .i64 pm)).setCell ⟨b5, 4, none⟩ (.int .i64 pz)) = Xz at *
              refine one_readyH (i := 18) (by kernel_rfl) rfl rfl (fun K hK => ?_)
              go_simp
              refine hK _ _ HB2.out ?_
              clear hK K
              refine wpAnyH_done (by kernel_rfl) ?_ _
              exact key b4 b5 ai az aq x1 n1 d1 av x2 n2 d2 al au pa pg ps pm pz Pn Dn Xz HB2 HY2 HZ2 hb4 hb5 HV2 HAx HEq
          · skip
            go_simp
            have hb := (Below.refl X.heap.size X).alloc (Nat.le_refl _) (.cells #[.int .i64 0, .int .i64 0, .int .i64 0, .slice none 0 0, .int .i64 0, .slice none 0 0, .int .i64 0, .int .i64 0] 29)
            have HY : Hid ((X.alloc (.cells #[.int .i64 0, .int .i64 0, .int .i64 0, .slice none 0 0, .int .i64 0, .slice none 0 0, .int .i64 0, .int .i64 0] 29)).heap[X.heap.size]? = some (.cells #[.int .i64 0, .int .i64 0, .int .i64 0, .slice none 0 0, .int .i64 0, .slice none 0 0, .int .i64 0, .int .i64 0] 29)) := hide (heap_alloc_newG _ _ _ rfl)
            have HB' := hide (HB.out.trans (hb.mono HB.out.size))
            have hb4 : wr.heap.size ≤ X.heap.size := HB.out.size
            refine hK _ _ HB'.out ?_
            clear hK K hb HB
            generalize X.alloc (.cells #[.int .i64 0, .int .i64 0, .int .i64 0, .slice none 0 0, .int .i64 0, .slice none 0 0, .int .i64 0, .int .i64 0] 29) = X6 at *
            generalize X.heap.size = b4 at *
            have HB := HB'
            clear HB'
            refine two_readyH (i := 9) (j := 15) (by kernel_rfl) rfl rfl rfl rfl (fun K hK => ?_) (fun K hK => ?_)
            · skip
              go_simp
              refine (HC.out X6 HB.out).mono ?_
              rintro e X7 ⟨⟨ai, az, aq, x1, n1, d1, av, x2, n2, d2, al, au, pa, pg, ps, pm, pz, Pn, Dn, rfl, fr1, fr2, hVn, hEq⟩, hb⟩
              have HVn := hide hVn
              have HEq : Hid (E = 0 → (i = ai ∧ z = az ∧ s' + 1 = aq ∧ v = av ∧ l' - 1 = al ∧ u = au) ∧ (x.i = pa ∧ i = pg ∧ s' + 1 = ps ∧ m = pm ∧ z = pz) ∧ Pn = P' ++ [⟨x.i, i, s' + 1, m, z⟩] ∧ D = Dn) := hide (fun h => by obtain ⟨⟨g1, g2, g3, g4, g5, g6⟩, ⟨g7, g8, g9, g10, g11⟩, g12, g13⟩ := hEq h; exact ⟨⟨g1.symm, g2.symm, g3.symm, g4.symm, g5.symm, g6.symm⟩, ⟨g7.symm, g8.symm, g9.symm, g10.symm, g11.symm⟩, g12, g13.symm⟩)
              have hsz := HB.out.size
              have HB' := hide (HB.out.trans (hb.mono HB.out.size))
              have HAx : Hid (GtA bx x1 x2 Pn Dn) := hide (GtA.fresh fr1 fr2 (Nat.lt_of_lt_of_le hbxr HB.out.size))
              have HA4 : Hid (GtA b4 x1 x2 Pn Dn) := hide (GtA.fresh fr1 fr2 (row_ltG HY.out))
              have HY' := hide (row_onG HY.out hb)
              refine hK _ _ HB'.out ?_
              clear hK K hb HB fr1 fr2 hVn hEq hsz HY
              refine takesH (fuel := 4) (by kernel_rfl) (fun c d v a w h => by cases d <;> exact h) HB'.out [10, 11, 12, 13] _ _ (by kernel_rfl) ?_
              refine wpPureH_step (.tuple #[gtV ai az aq x1 n1 d1 av x2 n2 d2 al au, tp pa pg ps pm pz, .int .i64 E]) rfl rfl (fun w' hS => ?_) ?_
              · go_simp
              refine wpPureH_step (gtV ai az aq x1 n1 d1 av x2 n2 d2 al au) rfl rfl (fun w' hS => ?_) ?_
              · go_simp
              refine wpPureH_step (tp pa pg ps pm pz) rfl rfl (fun w' hS => ?_) ?_
              · go_simp
              refine wpPureH_step (.int .i64 E) rfl rfl (fun w' hS => ?_) ?_
              · go_simp
              refine wpPureH_nil ?_
              have HB := HB'
              clear HB'
              have HY := HY'
              clear HY'
              refine one_readyH (i := 15) (by kernel_rfl) rfl rfl (fun K hK => ?_)
              go_simp
              have hb := (Below.refl X7.heap.size X7).alloc (Nat.le_refl _) (.cells #[.int .i64 0, .int .i64 0, .int .i64 0, .int .i64 0, .int .i64 0] 35)
              have HZ : Hid ((X7.alloc (.cells #[.int .i64 0, .int .i64 0, .int .i64 0, .int .i64 0, .int .i64 0] 35)).heap[X7.heap.size]? = some (.cells #[.int .i64 0, .int .i64 0, .int .i64 0, .int .i64 0, .int .i64 0] 35)) := hide (heap_alloc_newG _ _ _ rfl)
              have HB' := hide (HB.out.trans (hb.mono HB.out.size))
              have hb5 : wr.heap.size ≤ X7.heap.size := HB.out.size
              have hlt := row_ltG HY.out
              have hn : b4 ≠ X7.heap.size := by omega
              have HY' := hide (row_onG HY.out hb)
              have HA5 : Hid (GtA X7.heap.size x1 x2 Pn Dn) := hide (GtA.late HVn.out (Nat.le_refl _))
              have HVn' := hide (HVn.out.below hb)
              refine hK _ _ HB'.out ?_
              clear hK K hb HB HY hlt HVn
              generalize X7.alloc (.cells #[.int .i64 0, .int .i64 0, .int .i64 0, .int .i64 0, .int .i64 0] 35) = X8 at *
              generalize X7.heap.size = b5 at *
              have HB := HB'
              clear HB'
              have HY := HY'
              clear HY'
              have HVn := HVn'
              clear HVn'
              have hn45 : b4 ≠ b5 := by omega
              clear hn
              have r0 := cell_of_row X8 _ 0 _ _ _ HY.out
              have f0 := frozen_of_row X8 _ 0 _ _ HY.out
              have r1 := cell_of_row X8 _ 1 _ _ _ HY.out
              have f1 := frozen_of_row X8 _ 1 _ _ HY.out
              have r2 := cell_of_row X8 _ 2 _ _ _ HY.out
              have f2 := frozen_of_row X8 _ 2 _ _ HY.out
              have r3 := cell_of_row X8 _ 3 _ _ _ HY.out
              have f3 := frozen_of_row X8 _ 3 _ _ HY.out
              have r4 := cell_of_row X8 _ 4 _ _ _ HY.out
              have f4 := frozen_of_row X8 _ 4 _ _ HY.out
              have r5 := cell_of_row X8 _ 5 _ _ _ HY.out
              have f5 := frozen_of_row X8 _ 5 _ _ HY.out
              have r6 := cell_of_row X8 _ 6 _ _ _ HY.out
              have f6 := frozen_of_row X8 _ 6 _ _ HY.out
              have r7 := cell_of_row X8 _ 7 _ _ _ HY.out
              have f7 := frozen_of_row X8 _ 7 _ _ HY.out
              simp at r0 r1 r2 r3 r4 r5 r6 r7
              refine one_readyH (i := 16) (by kernel_rfl) rfl rfl (fun K hK => ?_)
              go_simp
              have HY1 := hide (row8 HY.out (.int .i64 ai) (.int .i64 az) (.int .i64 aq) (.slice x1 n1 d1) (.int .i64 av) (.slice x2 n2 d2) (.int .i64 al) (.int .i64 au))
              have HB1 := hide ((((((((HB.out.setCell (p := ⟨b4, 0, none⟩) hb4 (.int .i64 ai)).setCell (p := ⟨b4, 1, none⟩) hb4 (.int .i64 az)).setCell (p := ⟨b4, 2, none⟩) hb4 (.int .i64 aq)).setCell (p := ⟨b4, 3, none⟩) hb4 (.slice x1 n1 d1)).setCell (p := ⟨b4, 4, none⟩) hb4 (.int .i64 av)).setCell (p := ⟨b4, 5, none⟩) hb4 (.slice x2 n2 d2)).setCell (p := ⟨b4, 6, none⟩) hb4 (.int .i64 al)).setCell (p := ⟨b4, 7, none⟩) hb4 (.int .i64 au))
              have HV1 := hide ((((((((HVn.out.set HA4.out 0 (.int .i64 ai)).set HA4.out 1 (.int .i64 az)).set HA4.out 2 (.int .i64 aq)).set HA4.out 3 (.slice x1 n1 d1)).set HA4.out 4 (.int .i64 av)).set HA4.out 5 (.slice x2 n2 d2)).set HA4.out 6 (.int .i64 al)).set HA4.out 7 (.int .i64 au))
              have HZ1 := hide (row_far (row_far (row_far (row_far (row_far (row_far (row_far (row_far HZ.out (fun h => hn45 h.symm) 0 (.int .i64 ai)) (fun h => hn45 h.symm) 1 (.int .i64 az)) (fun h => hn45 h.symm) 2 (.int .i64 aq)) (fun h => hn45 h.symm) 3 (.slice x1 n1 d1)) (fun h => hn45 h.symm) 4 (.int .i64 av)) (fun h => hn45 h.symm) 5 (.slice x2 n2 d2)) (fun h => hn45 h.symm) 6 (.int .i64 al)) (fun h => hn45 h.symm) 7 (.int .i64 au))
              refine hK _ _ HB1.out ?_
              clear hK K r0 r1 r2 r3 r4 r5 r6 r7 f0 f1 f2 f3 f4 f5 f6 f7 HY HB HVn HZ
              generalize ((((((((X8.setCell ⟨b4, 0, none⟩ (.int .i64 ai)).setCell ⟨b4, 1, none⟩ (.int .i64 az)).setCell ⟨b4, 2, none⟩ (.int .i64 aq)).setCell ⟨b4, 3, none⟩ (.slice x1 n1 d1)).setCell ⟨b4, 4, none⟩ (.int .i64 av)).setCell ⟨b4, 5, none⟩ (.slice x2 n2 d2)).setCell ⟨b4, 6, none⟩ (.int .i64 al)).setCell ⟨b4, 7, none⟩ (.int .i64 au)) = Xy at *
              have r0 := cell_of_row Xy _ 0 _ _ _ HZ1.out
              have f0 := frozen_of_row Xy _ 0 _ _ HZ1.out
              have r1 := cell_of_row Xy _ 1 _ _ _ HZ1.out
              have f1 := frozen_of_row Xy _ 1 _ _ HZ1.out
              have r2 := cell_of_row Xy _ 2 _ _ _ HZ1.out
              have f2 := frozen_of_row Xy _ 2 _ _ HZ1.out
              have r3 := cell_of_row Xy _ 3 _ _ _ HZ1.out
              have f3 := frozen_of_row Xy _ 3 _ _ HZ1.out
              have r4 := cell_of_row Xy _ 4 _ _ _ HZ1.out
              have f4 := frozen_of_row Xy _ 4 _ _ HZ1.out
              simp at r0 r1 r2 r3 r4
              refine one_readyH (i := 17) (by kernel_rfl) rfl rfl (fun K hK => ?_)
              go_simp
              have HZ2 := hide (row5 HZ1.out (.int .i64 pa) (.int .i64 pg) (.int .i64 ps) (.int .i64 pm) (.int .i64 pz))
              have HB2 := hide (((((HB1.out.setCell (p := ⟨b5, 0, none⟩) hb5 (.int .i64 pa)).setCell (p := ⟨b5, 1, none⟩) hb5 (.int .i64 pg)).setCell (p := ⟨b5, 2, none⟩) hb5 (.int .i64 ps)).setCell (p := ⟨b5, 3, none⟩) hb5 (.int .i64 pm)).setCell (p := ⟨b5, 4, none⟩) hb5 (.int .i64 pz))
              have HV2 := hide (((((HV1.out.set HA5.out 0 (.int .i64 pa)).set HA5.out 1 (.int .i64 pg)).set HA5.out 2 (.int .i64 ps)).set HA5.out 3 (.int .i64 pm)).set HA5.out 4 (.int .i64 pz))
              have HY2 := hide (row_far (row_far (row_far (row_far (row_far HY1.out hn45 0 (.int .i64 pa)) hn45 1 (.int .i64 pg)) hn45 2 (.int .i64 ps)) hn45 3 (.int .i64 pm)) hn45 4 (.int .i64 pz))
              refine hK _ _ HB2.out ?_
              clear hK K r0 r1 r2 r3 r4 f0 f1 f2 f3 f4 HY1 HB1 HV1 HZ1
              generalize (((((Xy.setCell ⟨b5, 0, none⟩ (.int .i64 pa)).setCell ⟨b5, 1, none⟩ (.int .i64 pg)).setCell ⟨b5, 2, none⟩ (.int .i64 ps)).setCell ⟨b5, 3, none⟩ (.int .i64 pm)).setCell ⟨b5, 4, none⟩ (.int .i64 pz)) = Xz at *
              refine one_readyH (i := 18) (by kernel_rfl) rfl rfl (fun K hK => ?_)
              go_simp
              refine hK _ _ HB2.out ?_
              clear hK K
              refine wpAnyH_done (by kernel_rfl) ?_ _
              exact key b4 b5 ai az aq x1 n1 d1 av x2 n2 d2 al au pa pg ps pm pz Pn Dn Xz HB2 HY2 HZ2 hb4 hb5 HV2 HAx HEq
            · skip
              go_simp
              have hb := (Below.refl X6.heap.size X6).alloc (Nat.le_refl _) (.cells #[.int .i64 0, .int .i64 0, .int .i64 0, .int .i64 0, .int .i64 0] 35)
              have HZ : Hid ((X6.alloc (.cells #[.int .i64 0, .int .i64 0, .int .i64 0, .int .i64 0, .int .i64 0] 35)).heap[X6.heap.size]? = some (.cells #[.int .i64 0, .int .i64 0, .int .i64 0, .int .i64 0, .int .i64 0] 35)) := hide (heap_alloc_newG _ _ _ rfl)
              have HB' := hide (HB.out.trans (hb.mono HB.out.size))
              have hb5 : wr.heap.size ≤ X6.heap.size := HB.out.size
              have hlt := row_ltG HY.out
              have hn : b4 ≠ X6.heap.size := by omega
              have HY' := hide (row_onG HY.out hb)
              refine hK _ _ HB'.out ?_
              clear hK K hb HB HY hlt
              generalize X6.alloc (.cells #[.int .i64 0, .int .i64 0, .int .i64 0, .int .i64 0, .int .i64 0] 35) = X9 at *
              generalize X6.heap.size = b5 at *
              have HB := HB'
              clear HB'
              have HY := HY'
              clear HY'
              have hn45 : b4 ≠ b5 := by omega
              clear hn
              refine one_readyH (i := 9) (by kernel_rfl) rfl rfl (fun K hK => ?_)
              go_simp
              refine (HC.out X9 HB.out).mono ?_
              rintro e X10 ⟨⟨ai, az, aq, x1, n1, d1, av, x2, n2, d2, al, au, pa, pg, ps, pm, pz, Pn, Dn, rfl, fr1, fr2, hVn, hEq⟩, hb⟩
              have HVn := hide hVn
              have HEq : Hid (E = 0 → (i = ai ∧ z = az ∧ s' + 1 = aq ∧ v = av ∧ l' - 1 = al ∧ u = au) ∧ (x.i = pa ∧ i = pg ∧ s' + 1 = ps ∧ m = pm ∧ z = pz) ∧ Pn = P' ++ [⟨x.i, i, s' + 1, m, z⟩] ∧ D = Dn) := hide (fun h => by obtain ⟨⟨g1, g2, g3, g4, g5, g6⟩, ⟨g7, g8, g9, g10, g11⟩, g12, g13⟩ := hEq h; exact ⟨⟨g1.symm, g2.symm, g3.symm, g4.symm, g5.symm, g6.symm⟩, ⟨g7.symm, g8.symm, g9.symm, g10.symm, g11.symm⟩, g12, g13.symm⟩)
              have hsz := HB.out.size
              have HB' := hide (HB.out.trans (hb.mono HB.out.size))
              have HAx : Hid (GtA bx x1 x2 Pn Dn) := hide (GtA.fresh fr1 fr2 (Nat.lt_of_lt_of_le hbxr HB.out.size))
              have HA4 : Hid (GtA b4 x1 x2 Pn Dn) := hide (GtA.fresh fr1 fr2 (row_ltG HY.out))
              have HY' := hide (row_onG HY.out hb)
              have HA5 : Hid (GtA b5 x1 x2 Pn Dn) := hide (GtA.fresh fr1 fr2 (row_ltG HZ.out))
              have HZ' := hide (row_onG HZ.out hb)
              refine hK _ _ HB'.out ?_
              clear hK K hb HB fr1 fr2 hVn hEq hsz HY HZ
              refine takesH (fuel := 3) (by kernel_rfl) (fun c d v a w h => by cases d <;> exact h) HB'.out [10, 11, 12, 13] _ _ (by kernel_rfl) ?_
              refine wpPureH_step (.tuple #[gtV ai az aq x1 n1 d1 av x2 n2 d2 al au, tp pa pg ps pm pz, .int .i64 E]) rfl rfl (fun w' hS => ?_) ?_
              · go_simp
              refine wpPureH_step (gtV ai az aq x1 n1 d1 av x2 n2 d2 al au) rfl rfl (fun w' hS => ?_) ?_
              · go_simp
              refine wpPureH_step (tp pa pg ps pm pz) rfl rfl (fun w' hS => ?_) ?_
              · go_simp
              refine wpPureH_step (.int .i64 E) rfl rfl (fun w' hS => ?_) ?_
              · go_simp
              refine wpPureH_nil ?_
              have HB := HB'
              clear HB'
              have HY := HY'
              clear HY'
              have HZ := HZ'
              clear HZ'
              have r0 := cell_of_row X10 _ 0 _ _ _ HY.out
              have f0 := frozen_of_row X10 _ 0 _ _ HY.out
              have r1 := cell_of_row X10 _ 1 _ _ _ HY.out
              have f1 := frozen_of_row X10 _ 1 _ _ HY.out
              have r2 := cell_of_row X10 _ 2 _ _ _ HY.out
              have f2 := frozen_of_row X10 _ 2 _ _ HY.out
              have r3 := cell_of_row X10 _ 3 _ _ _ HY.out
              have f3 := frozen_of_row X10 _ 3 _ _ HY.out
              have r4 := cell_of_row X10 _ 4 _ _ _ HY.out
              have f4 := frozen_of_row X10 _ 4 _ _ HY.out
              have r5 := cell_of_row X10 _ 5 _ _ _ HY.out
              have f5 := frozen_of_row X10 _ 5 _ _ HY.out
              have r6 := cell_of_row X10 _ 6 _ _ _ HY.out
              have f6 := frozen_of_row X10 _ 6 _ _ HY.out
              have r7 := cell_of_row X10 _ 7 _ _ _ HY.out
              have f7 := frozen_of_row X10 _ 7 _ _ HY.out
              simp at r0 r1 r2 r3 r4 r5 r6 r7
              refine one_readyH (i := 16) (by kernel_rfl) rfl rfl (fun K hK => ?_)
              go_simp
              have HY1 := hide (row8 HY.out (.int .i64 ai) (.int .i64 az) (.int .i64 aq) (.slice x1 n1 d1) (.int .i64 av) (.slice x2 n2 d2) (.int .i64 al) (.int .i64 au))
              have HB1 := hide ((((((((HB.out.setCell (p := ⟨b4, 0, none⟩) hb4 (.int .i64 ai)).setCell (p := ⟨b4, 1, none⟩) hb4 (.int .i64 az)).setCell (p := ⟨b4, 2, none⟩) hb4 (.int .i64 aq)).setCell (p := ⟨b4, 3, none⟩) hb4 (.slice x1 n1 d1)).setCell (p := ⟨b4, 4, none⟩) hb4 (.int .i64 av)).setCell (p := ⟨b4, 5, none⟩) hb4 (.slice x2 n2 d2)).setCell (p := ⟨b4, 6, none⟩) hb4 (.int .i64 al)).setCell (p := ⟨b4, 7, none⟩) hb4 (.int .i64 au))
              have HV1 := hide ((((((((HVn.out.set HA4.out 0 (.int .i64 ai)).set HA4.out 1 (.int .i64 az)).set HA4.out 2 (.int .i64 aq)).set HA4.out 3 (.slice x1 n1 d1)).set HA4.out 4 (.int .i64 av)).set HA4.out 5 (.slice x2 n2 d2)).set HA4.out 6 (.int .i64 al)).set HA4.out 7 (.int .i64 au))
              have HZ1 := hide (row_far (row_far (row_far (row_far (row_far (row_far (row_far (row_far HZ.out (fun h => hn45 h.symm) 0 (.int .i64 ai)) (fun h => hn45 h.symm) 1 (.int .i64 az)) (fun h => hn45 h.symm) 2 (.int .i64 aq)) (fun h => hn45 h.symm) 3 (.slice x1 n1 d1)) (fun h => hn45 h.symm) 4 (.int .i64 av)) (fun h => hn45 h.symm) 5 (.slice x2 n2 d2)) (fun h => hn45 h.symm) 6 (.int .i64 al)) (fun h => hn45 h.symm) 7 (.int .i64 au))
              refine hK _ _ HB1.out ?_
              clear hK K r0 r1 r2 r3 r4 r5 r6 r7 f0 f1 f2 f3 f4 f5 f6 f7 HY HB HVn HZ
              generalize ((((((((X10.setCell ⟨b4, 0, none⟩ (.int .i64 ai)).setCell ⟨b4, 1, none⟩ (.int .i64 az)).setCell ⟨b4, 2, none⟩ (.int .i64 aq)).setCell ⟨b4, 3, none⟩ (.slice x1 n1 d1)).setCell ⟨b4, 4, none⟩ (.int .i64 av)).setCell ⟨b4, 5, none⟩ (.slice x2 n2 d2)).setCell ⟨b4, 6, none⟩ (.int .i64 al)).setCell ⟨b4, 7, none⟩ (.int .i64 au)) = Xy at *
              have r0 := cell_of_row Xy _ 0 _ _ _ HZ1.out
              have f0 := frozen_of_row Xy _ 0 _ _ HZ1.out
              have r1 := cell_of_row Xy _ 1 _ _ _ HZ1.out
              have f1 := frozen_of_row Xy _ 1 _ _ HZ1.out
              have r2 := cell_of_row Xy _ 2 _ _ _ HZ1.out
              have f2 := frozen_of_row Xy _ 2 _ _ HZ1.out
              have r3 := cell_of_row Xy _ 3 _ _ _ HZ1.out
              have f3 := frozen_of_row Xy _ 3 _ _ HZ1.out
              have r4 := cell_of_row Xy _ 4 _ _ _ HZ1.out
              have f4 := frozen_of_row Xy _ 4 _ _ HZ1.out
              simp at r0 r1 r2 r3 r4
              refine one_readyH (i := 17) (by kernel_rfl) rfl rfl (fun K hK => ?_)
              go_simp
              have HZ2 := hide (row5 HZ1.out (.int .i64 pa) (.int .i64 pg) (.int .i64 ps) (.int .i64 pm) (.int .i64 pz))
              have HB2 := hide (((((HB1.out.setCell (p := ⟨b5, 0, none⟩) hb5 (.int .i64 pa)).setCell (p := ⟨b5, 1, none⟩) hb5 (.int .i64 pg)).setCell (p := ⟨b5, 2, none⟩) hb5 (.int .i64 ps)).setCell (p := ⟨b5, 3, none⟩) hb5 (.int .i64 pm)).setCell (p := ⟨b5, 4, none⟩) hb5 (.int .i64 pz))
              have HV2 := hide (((((HV1.out.set HA5.out 0 (.int .i64 pa)).set HA5.out 1 (.int .i64 pg)).set HA5.out 2 (.int .i64 ps)).set HA5.out 3 (.int .i64 pm)).set HA5.out 4 (.int .i64 pz))
              have HY2 := hide (row_far (row_far (row_far (row_far (row_far HY1.out hn45 0 (.int .i64 pa)) hn45 1 (.int .i64 pg)) hn45 2 (.int .i64 ps)) hn45 3 (.int .i64 pm)) hn45 4 (.int .i64 pz))
              refine hK _ _ HB2.out ?_
              clear hK K r0 r1 r2 r3 r4 f0 f1 f2 f3 f4 HY1 HB1 HV1 HZ1
              generalize (((((Xy.setCell ⟨b5, 0, none⟩ (.int .i64 pa)).setCell ⟨b5, 1, none⟩ (.int .i64 pg)).setCell ⟨b5, 2, none⟩ (.int .i64 ps)).setCell ⟨b5, 3, none⟩ (.int .i64 pm)).setCell ⟨b5, 4, none⟩ (.int .i64 pz)) = Xz at *
              refine one_readyH (i := 18) (by kernel_rfl) rfl rfl (fun K hK => ?_)
              go_simp
              refine hK _ _ HB2.out ?_
              clear hK K
              refine wpAnyH_done (by kernel_rfl) ?_ _
              exact key b4 b5 ai az aq x1 n1 d1 av x2 n2 d2 al au pa pg ps pm pz Pn Dn Xz HB2 HY2 HZ2 hb4 hb5 HV2 HAx HEq
          · skip
            go_simp
            have hb := (Below.refl X.heap.size X).alloc (Nat.le_refl _) (.cells #[.int .i64 0, .int .i64 0, .int .i64 0, .int .i64 0, .int .i64 0] 35)
            have HZ : Hid ((X.alloc (.cells #[.int .i64 0, .int .i64 0, .int .i64 0, .int .i64 0, .int .i64 0] 35)).heap[X.heap.size]? = some (.cells #[.int .i64 0, .int .i64 0, .int .i64 0, .int .i64 0, .int .i64 0] 35)) := hide (heap_alloc_newG _ _ _ rfl)
            have HB' := hide (HB.out.trans (hb.mono HB.out.size))
            have hb5 : wr.heap.size ≤ X.heap.size := HB.out.size
            refine hK _ _ HB'.out ?_
            clear hK K hb HB
            generalize X.alloc (.cells #[.int .i64 0, .int .i64 0, .int .i64 0, .int .i64 0, .int .i64 0] 35) = X11 at *
            generalize X.heap.size = b5 at *
            have HB := HB'
            clear HB'
            refine two_readyH (i := 9) (j := 14) (by kernel_rfl) rfl rfl rfl rfl (fun K hK => ?_) (fun K hK => ?_)
            · skip
              go_simp
              refine (HC.out X11 HB.out).mono ?_
              rintro e X12 ⟨⟨ai, az, aq, x1, n1, d1, av, x2, n2, d2, al, au, pa, pg, ps, pm, pz, Pn, Dn, rfl, fr1, fr2, hVn, hEq⟩, hb⟩
              have HVn := hide hVn
              have HEq : Hid (E = 0 → (i = ai ∧ z = az ∧ s' + 1 = aq ∧ v = av ∧ l' - 1 = al ∧ u = au) ∧ (x.i = pa ∧ i = pg ∧ s' + 1 = ps ∧ m = pm ∧ z = pz) ∧ Pn = P' ++ [⟨x.i, i, s' + 1, m, z⟩] ∧ D = Dn) := hide (fun h => by obtain ⟨⟨g1, g2, g3, g4, g5, g6⟩, ⟨g7, g8, g9, g10, g11⟩, g12, g13⟩ := hEq h; exact ⟨⟨g1.symm, g2.symm, g3.symm, g4.symm, g5.symm, g6.symm⟩, ⟨g7.symm, g8.symm, g9.symm, g10.symm, g11.symm⟩, g12, g13.symm⟩)
              have hsz := HB.out.size
              have HB' := hide (HB.out.trans (hb.mono HB.out.size))
              have HAx : Hid (GtA bx x1 x2 Pn Dn) := hide (GtA.fresh fr1 fr2 (Nat.lt_of_lt_of_le hbxr HB.out.size))
              have HA5 : Hid (GtA b5 x1 x2 Pn Dn) := hide (GtA.fresh fr1 fr2 (row_ltG HZ.out))
              have HZ' := hide (row_onG HZ.out hb)
              refine hK _ _ HB'.out ?_
              clear hK K hb HB fr1 fr2 hVn hEq hsz HZ
              refine takesH (fuel := 4) (by kernel_rfl) (fun c d v a w h => by cases d <;> exact h) HB'.out [10, 11, 12, 13] _ _ (by kernel_rfl) ?_
              refine wpPureH_step (.tuple #[gtV ai az aq x1 n1 d1 av x2 n2 d2 al au, tp pa pg ps pm pz, .int .i64 E]) rfl rfl (fun w' hS => ?_) ?_
              · go_simp
              refine wpPureH_step (gtV ai az aq x1 n1 d1 av x2 n2 d2 al au) rfl rfl (fun w' hS => ?_) ?_
              · go_simp
              refine wpPureH_step (tp pa pg ps pm pz) rfl rfl (fun w' hS => ?_) ?_
              · go_simp
              refine wpPureH_step (.int .i64 E) rfl rfl (fun w' hS => ?_) ?_
              · go_simp
              refine wpPureH_nil ?_
              have HB := HB'
              clear HB'
              have HZ := HZ'
              clear HZ'
              refine one_readyH (i := 14) (by kernel_rfl) rfl rfl (fun K hK => ?_)
              go_simp
              have hb := (Below.refl X12.heap.size X12).alloc (Nat.le_refl _) (.cells #[.int .i64 0, .int .i64 0, .int .i64 0, .slice none 0 0, .int .i64 0, .slice none 0 0, .int .i64 0, .int .i64 0] 29)
              have HY : Hid ((X12.alloc (.cells #[.int .i64 0, .int .i64 0, .int .i64 0, .slice none 0 0, .int .i64 0, .slice none 0 0, .int .i64 0, .int .i64 0] 29)).heap[X12.heap.size]? = some (.cells #[.int .i64 0, .int .i64 0, .int .i64 0, .slice none 0 0, .int .i64 0, .slice none 0 0, .int .i64 0, .int .i64 0] 29)) := hide (heap_alloc_newG _ _ _ rfl)
              have HB' := hide (HB.out.trans (hb.mono HB.out.size))
              have hb4 : wr.heap.size ≤ X12.heap.size := HB.out.size
              have hlt := row_ltG HZ.out
              have hn : b5 ≠ X12.heap.size := by omega
              have HZ' := hide (row_onG HZ.out hb)
              have HA4 : Hid (GtA X12.heap.size x1 x2 Pn Dn) := hide (GtA.late HVn.out (Nat.le_refl _))
              have HVn' := hide (HVn.out.below hb)
              refine hK _ _ HB'.out ?_
              clear hK K hb HB HZ hlt HVn
              generalize X12.alloc (.cells #[.int .i64 0, .int .i64 0, .int .i64 0, .slice none 0 0, .int .i64 0, .slice none 0 0, .int .i64 0, .int .i64 0] 29) = X13 at *
              generalize X12.heap.size = b4 at *
              have HB := HB'
              clear HB'
              have HZ := HZ'
              clear HZ'
              have HVn := HVn'
              clear HVn'
              have hn45 : b4 ≠ b5 := by omega
              clear hn
              have r0 := cell_of_row X13 _ 0 _ _ _ HY.out
              have f0 := frozen_of_row X13 _ 0 _ _ HY.out
              have r1 := cell_of_row X13 _ 1 _ _ _ HY.out
              have f1 := frozen_of_row X13 _ 1 _ _ HY.out
              have r2 := cell_of_row X13 _ 2 _ _ _ HY.out
              have f2 := frozen_of_row X13 _ 2 _ _ HY.out
              have r3 := cell_of_row X13 _ 3 _ _ _ HY.out
              have f3 := frozen_of_row X13 _ 3 _ _ HY.out
              have r4 := cell_of_row X13 _ 4 _ _ _ HY.out
              have f4 := frozen_of_row X13 _ 4 _ _ HY.out
              have r5 := cell_of_row X13 _ 5 _ _ _ HY.out
              have f5 := frozen_of_row X13 _ 5 _ _ HY.out
              have r6 := cell_of_row X13 _ 6 _ _ _ HY.out
              have f6 := frozen_of_row X13 _ 6 _ _ HY.out
              have r7 := cell_of_row X13 _ 7 _ _ _ HY.out
              have f7 := frozen_of_row X13 _ 7 _ _ HY.out
              simp at r0 r1 r2 r3 r4 r5 r6 r7
              refine one_readyH (i := 16) (by kernel_rfl) rfl rfl (fun K hK => ?_)
              go_simp
              have HY1 := hide (row8 HY.out (.int .i64 ai) (.int .i64 az) (.int .i64 aq) (.slice x1 n1 d1) (.int .i64 av) (.slice x2 n2 d2) (.int .i64 al) (.int .i64 au))
              have HB1 := hide ((((((((HB.out.setCell (p := ⟨b4, 0, none⟩) hb4 (.int .i64 ai)).setCell (p := ⟨b4, 1, none⟩) hb4 (.int .i64 az)).setCell (p := ⟨b4, 2, none⟩) hb4 (.int .i64 aq)).setCell (p := ⟨b4, 3, none⟩) hb4 (.slice x1 n1 d1)).setCell (p := ⟨b4, 4, none⟩) hb4 (.int .i64 av)).setCell (p := ⟨b4, 5, none⟩) hb4 (.slice x2 n2 d2)).setCell (p := ⟨b4, 6, none⟩) hb4 (.int .i64 al)).setCell (p := ⟨b4, 7, none⟩) hb4 (.int .i64 au))
              have HV1 := hide ((((((((HVn.out.set HA4.out 0 (.int .i64 ai)).set HA4.out 1 (.int .i64 az)).set HA4.out 2 (.int .i64 aq)).set HA4.out 3 (.slice x1 n1 d1)).set HA4.out 4 (.int .i64 av)).set HA4.out 5 (.slice x2 n2 d2)).set HA4.out 6 (.int .i64 al)).set HA4.out 7 (.int .i64 au))
              have HZ1 := hide (row_far (row_far (row_far (row_far (row_far (row_far (row_far (row_far HZ.out (fun h => hn45 h.symm) 0 (.int .i64 ai)) (fun h => hn45 h.symm) 1 (.int .i64 az)) (fun h => hn45 h.symm) 2 (.int .i64 aq)) (fun h => hn45 h.symm) 3 (.slice x1 n1 d1)) (fun h => hn45 h.symm) 4 (.int .i64 av)) (fun h => hn45 h.symm) 5 (.slice x2 n2 d2)) (fun h => hn45 h.symm) 6 (.int .i64 al)) (fun h => hn45 h.symm) 7 (.int .i64 au))
              refine hK _ _ HB1.out ?_
              clear hK K r0 r1 r2 r3 r4 r5 r6 r7 f0 f1 f2 f3 f4 f5 f6 f7 HY HB HVn HZ
              generalize ((((((((X13.setCell ⟨b4, 0, none⟩ (.int .i64 ai)).setCell ⟨b4, 1, none⟩ (.int .i64 az)).setCell ⟨b4, 2, none⟩ (.int .i64 aq)).setCell ⟨b4, 3, none⟩ (.slice x1 n1 d1)).setCell ⟨b4, 4, none⟩ (.int .i64 av)).setCell ⟨b4, 5, none⟩ (.slice x2 n2 d2)).setCell ⟨b4, 6, none⟩ (.int .i64 al)).setCell ⟨b4, 7, none⟩ (.int .i64 au)) = Xy at *
              have r0 := cell_of_row Xy _ 0 _ _ _ HZ1.out
              have f0 := frozen_of_row Xy _ 0 _ _ HZ1.out
              have r1 := cell_of_row Xy _ 1 _ _ _ HZ1.out
              have f1 := frozen_of_row Xy _ 1 _ _ HZ1.out
              have r2 := cell_of_row Xy _ 2 _ _ _ HZ1.out
              have f2 := frozen_of_row Xy _ 2 _ _ HZ1.out
              have r3 := cell_of_row Xy _ 3 _ _ _ HZ1.out
              have f3 := frozen_of_row Xy _ 3 _ _ HZ1.out
              have r4 := cell_of_row Xy _ 4 _ _ _ HZ1.out
              have f4 := frozen_of_row Xy _ 4 _ _ HZ1.out
              simp at r0 r1 r2 r3 r4
              refine one_readyH (i := 17) (by kernel_rfl) rfl rfl (fun K hK => ?_)
              go_simp
              have HZ2 := hide (row5 HZ1.out (.int .i64 pa) (.int .i64 pg) (.int .i64 ps) (.int .i64 pm) (.int .i64 pz))
              have HB2 := hide (((((HB1.out.setCell (p := ⟨b5, 0, none⟩) hb5 (.int .i64 pa)).setCell (p := ⟨b5, 1, none⟩) hb5 (.int .i64 pg)).setCell (p := ⟨b5, 2, none⟩) hb5 (.int .i64 ps)).setCell (p := ⟨b5, 3, none⟩) hb5 (.int .i64 pm)).setCell (p := ⟨b5, 4, none⟩) hb5 (.int .i64 pz))
              have HV2 := hide (((((HV1.out.set HA5.out 0 (.int .i64 pa)).set HA5.out 1 (.int .i64 pg)).set HA5.out 2 (.int .i64 ps)).set HA5.out 3 (.int .i64 pm)).set HA5.out 4 (.int .i64 pz))
              have HY2 := hide (row_far (row_far (row_far (row_far (row_far HY1.out hn45 0 (.int .i64 pa)) hn45 1 (.int .i64 pg)) hn45 2 (.int .i64 ps)) hn45 3 (.int .i64 pm)) hn45 4 (.int .i64 pz))
              refine hK _ _ HB2.out ?_
              clear hK K r0 r1 r2 r3 r4 f0 f1 f2 f3 f4 HY1 HB1 HV1 HZ1
              generalize (((((Xy.setCell ⟨b5, 0, none⟩ (.int .i64 pa)).setCell ⟨b5, 1, none⟩ (.int .i64 pg)).setCell ⟨b5, 2, none⟩ (.int .i64 ps)).setCell ⟨b5, 3, none⟩ (.int .i64 pm)).setCell ⟨b5, 4, none⟩ (.int .i64 pz)) = Xz at *
              refine one_readyH (i := 18) (by kernel_rfl) rfl rfl (fun K hK => ?_)
              go_simp
              refine hK _ _ HB2.out ?_
              clear hK K
              refine wpAnyH_done (by kernel_rfl) ?_ _
              exact key b4 b5 ai az aq x1 n1 d1 av x2 n2 d2 al au pa pg ps pm pz Pn Dn Xz HB2 HY2 HZ2 hb4 hb5 HV2 HAx HEq
            · skip
              go_simp
              have hb := (Below.refl X11.heap.size X11).alloc (Nat.le_refl _) (.cells #[.int .i64 0, .int .i64 0, .int .i64 0, .slice none 0 0, .int .i64 0, .slice none 0 0, .int .i64 0, .int .i64 0] 29)
              have HY : Hid ((X11.alloc (.cells #[.int .i64 0, .int .i64 0, .int .i64 0, .slice none 0 0, .int .i64 0, .slice none 0 0, .int .i64 0, .int .i64 0] 29)).heap[X11.heap.size]? = some (.cells #[.int .i64 0, .int .i64 0, .int .i64 0, .slice none 0 0, .int .i64 0, .slice none 0 0, .int .i64 0, .int .i64 0] 29)) := hide (heap_alloc_newG _ _ _ rfl)
              have HB' := hide (HB.out.trans (hb.mono HB.out.size))
              have hb4 : wr.heap.size ≤ X11.heap.size := HB.out.size
              have hlt := row_ltG HZ.out
              have hn : b5 ≠ X11.heap.size := by omega
              have HZ' := hide (row_onG HZ.out hb)
              refine hK _ _ HB'.out ?_
              clear hK K hb HB HZ hlt
              generalize X11.alloc (.cells #[.int .i64 0, .int .i64 0, .int .i64 0, .slice none 0 0, .int .i64 0, .slice none 0 0, .int .i64 0, .int .i64 0] 29) = X14 at *
              generalize X11.heap.size = b4 at *
              have HB := HB'
              clear HB'
              have HZ := HZ'
              clear HZ'
              have hn45 : b4 ≠ b5 := by omega
              clear hn
              refine one_readyH (i := 9) (by kernel_rfl) rfl rfl (fun K hK => ?_)
              go_simp
              refine (HC.out X14 HB.out).mono ?_
              rintro e X15 ⟨⟨ai, az, aq, x1, n1, d1, av, x2, n2, d2, al, au, pa, pg, ps, pm, pz, Pn, Dn, rfl, fr1, fr2, hVn, hEq⟩, hb⟩
              have HVn := hide hVn
              have HEq : Hid (E = 0 → (i = ai ∧ z = az ∧ s' + 1 = aq ∧ v = av ∧ l' - 1 = al ∧ u = au) ∧ (x.i = pa ∧ i = pg ∧ s' + 1 = ps ∧ m = pm ∧ z = pz) ∧ Pn = P' ++ [⟨x.i, i, s' + 1, m, z⟩] ∧ D = Dn) := hide (fun h => by obtain ⟨⟨g1, g2, g3, g4, g5, g6⟩, ⟨g7, g8, g9, g10, g11⟩, g12, g13⟩ := hEq h; exact ⟨⟨g1.symm, g2.symm, g3.symm, g4.symm, g5.symm, g6.symm⟩, ⟨g7.symm, g8.symm, g9.symm, g10.symm, g11.symm⟩, g12, g13.symm⟩)
              have hsz := HB.out.size
              have HB' := hide (HB.out.trans (hb.mono HB.out.size))
              have HAx : Hid (GtA bx x1 x2 Pn Dn) := hide (GtA.fresh fr1 fr2 (Nat.lt_of_lt_of_le hbxr HB.out.size))
              have HA4 : Hid (GtA b4 x1 x2 Pn Dn) := hide (GtA.fresh fr1 fr2 (row_ltG HY.out))
              have HY' := hide (row_onG HY.out hb)
              have HA5 : Hid (GtA b5 x1 x2 Pn Dn) := hide (GtA.fresh fr1 fr2 (row_ltG HZ.out))
              have HZ' := hide (row_onG HZ.out hb)
              refine hK _ _ HB'.out ?_
              clear hK K hb HB fr1 fr2 hVn hEq hsz HY HZ
              refine takesH (fuel := 3) (by kernel_rfl) (fun c d v a w h => by cases d <;> exact h) HB'.out [10, 11, 12, 13] _ _ (by kernel_rfl) ?_
              refine wpPureH_step (.tuple #[gtV ai az aq x1 n1 d1 av x2 n2 d2 al au, tp pa pg ps pm pz, .int .i64 E]) rfl rfl (fun w' hS => ?_) ?_
              · go_simp
              refine wpPureH_step (gtV ai az aq x1 n1 d1 av x2 n2 d2 al au) rfl rfl (fun w' hS => ?_) ?_
              · go_simp
              refine wpPureH_step (tp pa pg ps pm pz) rfl rfl (fun w' hS => ?_) ?_
              · go_simp
              refine wpPureH_step (.int .i64 E) rfl rfl (fun w' hS => ?_) ?_
              · go_simp
              refine wpPureH_nil ?_
              have HB := HB'
              clear HB'
              have HY := HY'
              clear HY'
              have HZ := HZ'
              clear HZ'
              have r0 := cell_of_row X15 _ 0 _ _ _ HY.out
              have f0 := frozen_of_row X15 _ 0 _ _ HY.out
              have r1 := cell_of_row X15 _ 1 _ _ _ HY.out
              have f1 := frozen_of_row X15 _ 1 _ _ HY.out
              have r2 := cell_of_row X15 _ 2 _ _ _ HY.out
              have f2 := frozen_of_row X15 _ 2 _ _ HY.out
              have r3 := cell_of_row X15 _ 3 _ _ _ HY.out
              have f3 := frozen_of_row X15 _ 3 _ _ HY.out
              have r4 := cell_of_row X15 _ 4 _ _ _ HY.out
              have f4 := frozen_of_row X15 _ 4 _ _ HY.out
              have r5 := cell_of_row X15 _ 5 _ _ _ HY.out
              have f5 := frozen_of_row X15 _ 5 _ _ HY.out
              have r6 := cell_of_row X15 _ 6 _ _ _ HY.out
              have f6 := frozen_of_row X15 _ 6 _ _ HY.out
              have r7 := cell_of_row X15 _ 7 _ _ _ HY.out
              have f7 := frozen_of_row X15 _ 7 _ _ HY.out
              simp at r0 r1 r2 r3 r4 r5 r6 r7
              refine one_readyH (i := 16) (by kernel_rfl) rfl rfl (fun K hK => ?_)
              go_simp
              have HY1 := hide (row8 HY.out (.int .i64 ai) (.int .i64 az) (.int .i64 aq) (.slice x1 n1 d1) (.int .i64 av) (.slice x2 n2 d2) (.int .i64 al) (.int .i64 au))
              have HB1 := hide ((((((((HB.out.setCell (p := ⟨b4, 0, none⟩) hb4 (.int .i64 ai)).setCell (p := ⟨b4, 1, none⟩) hb4 (.int .i64 az)).setCell (p := ⟨b4, 2, none⟩) hb4 (.int .i64 aq)).setCell (p := ⟨b4, 3, none⟩) hb4 (.slice x1 n1 d1)).setCell (p := ⟨b4, 4, none⟩) hb4 (.int .i64 av)).setCell (p := ⟨b4, 5, none⟩) hb4 (.slice x2 n2 d2)).setCell (p := ⟨b4, 6, none⟩) hb4 (.int .i64 al)).setCell (p := ⟨b4, 7, none⟩) hb4 (.int .i64 au))
              have HV1 := hide ((((((((HVn.out.set HA4.out 0 (.int .i64 ai)).set HA4.out 1 (.int .i64 az)).set HA4.out 2 (.int .i64 aq)).set HA4.out 3 (.slice x1 n1 d1)).set HA4.out 4 (.int .i64 av)).set HA4.out 5 (.slice x2 n2 d2)).set HA4.out 6 (.int .i64 al)).set HA4.out 7 (.int .i64 au))
              have HZ1 := hide (row_far (row_far (row_far (row_far (row_far (row_far (row_far (row_far HZ.out (fun h => hn45 h.symm) 0 (.int .i64 ai)) (fun h => hn45 h.symm) 1 (.int .i64 az)) (fun h => hn45 h.symm) 2 (.int .i64 aq)) (fun h => hn45 h.symm) 3 (.slice x1 n1 d1)) (fun h => hn45 h.symm) 4 (.int .i64 av)) (fun h => hn45 h.symm) 5 (.slice x2 n2 d2)) (fun h => hn45 h.symm) 6 (.int .i64 al)) (fun h => hn45 h.symm) 7 (.int .i64 au))
              refine hK _ _ HB1.out ?_
              clear hK K r0 r1 r2 r3 r4 r5 r6 r7 f0 f1 f2 f3 f4 f5 f6 f7 HY HB HVn HZ
              generalize ((((((((X15.setCell ⟨b4, 0, none⟩ (.int .i64 ai)).setCell ⟨b4, 1, none⟩ (.int .i64 az)).setCell ⟨b4, 2, none⟩ (.int .i64 aq)).setCell ⟨b4, 3, none⟩ (.slice x1 n1 d1)).setCell ⟨b4, 4, none⟩ (.int .i64 av)).setCell ⟨b4, 5, none⟩ (.slice x2 n2 d2)).setCell ⟨b4, 6, none⟩ (.int .i64 al)).setCell ⟨b4, 7, none⟩ (.int .i64 au)) = Xy at *
              have r0 := cell_of_row Xy _ 0 _ _ _ HZ1.out
              have f0 := frozen_of_row Xy _ 0 _ _ HZ1.out
              have r1 := cell_of_row Xy _ 1 _ _ _ HZ1.out
              have f1 := frozen_of_row Xy _ 1 _ _ HZ1.out
              have r2 := cell_of_row Xy _ 2 _ _ _ HZ1.out
              have f2 := frozen_of_row Xy _ 2 _ _ HZ1.out
              have r3 := cell_of_row Xy _ 3 _ _ _ HZ1.out
              have f3 := frozen_of_row Xy _ 3 _ _ HZ1.out
              have r4 := cell_of_row Xy _ 4 _ _ _ HZ1.out
              have f4 := frozen_of_row Xy _ 4 _ _ HZ1.out
              simp at r0 r1 r2 r3 r4
              refine one_readyH (i := 17) (by kernel_rfl) rfl rfl (fun K hK => ?_)
              go_simp
              have HZ2 := hide (row5 HZ1.out (.int .i64 pa) (.int .i64 pg) (.int .i64 ps) (.int .i64 pm) (.int .i64 pz))
              have HB2 := hide (((((HB1.out.setCell (p := ⟨b5, 0, none⟩) hb5 (.int .i64 pa)).setCell (p := ⟨b5, 1, none⟩) hb5 (.int .i64 pg)).setCell (p := ⟨b5, 2, none⟩) hb5 (.int .i64 ps)).setCell (p := ⟨b5, 3, none⟩) hb5 (.int .i64 pm)).setCell (p := ⟨b5, 4, none⟩) hb5 (.int .i64 pz))
              have HV2 := hide (((((HV1.out.set HA5.out 0 (.int .i64 pa)).set HA5.out 1 (.int .i64 pg)).set HA5.out 2 (.int .i64 ps)).set HA5.out 3 (.int .i64 pm)).set HA5.out 4 (.int .i64 pz))
              have HY2 := hide (row_far (row_far (row_far (row_far (row_far HY1.out hn45 0 (.int .i64 pa)) hn45 1 (.int .i64 pg)) hn45 2 (.int .i64 ps)) hn45 3 (.int .i64 pm)) hn45 4 (.int .i64 pz))
              refine hK _ _ HB2.out ?_
              clear hK K r0 r1 r2 r3 r4 f0 f1 f2 f3 f4 HY1 HB1 HV1 HZ1
              generalize (((((Xy.setCell ⟨b5, 0, none⟩ (.int .i64 pa)).setCell ⟨b5, 1, none⟩ (.int .i64 pg)).setCell ⟨b5, 2, none⟩ (.int .i64 ps)).setCell ⟨b5, 3, none⟩ (.int .i64 pm)).setCell ⟨b5, 4, none⟩ (.int .i64 pz)) = Xz at *
              refine one_readyH (i := 18) (by kernel_rfl) rfl rfl (fun K hK => ?_)
              go_simp
              refine hK _ _ HB2.out ?_
              clear hK K
              refine wpAnyH_done (by kernel_rfl) ?_ _
              exact key b4 b5 ai az aq x1 n1 d1 av x2 n2 d2 al au pa pg ps pm pz Pn Dn Xz HB2 HY2 HZ2 hb4 hb5 HV2 HAx HEq
        · go_wp2_with fail
          go_ret
          exact ⟨rfl, HG.out.2.2⟩
      · go_wp2_with fail
        go_ret
        exact ⟨rfl, HG.out.2.2⟩
  · have hE' : (chkG i z s P v D l u != 0) = true := by simpa using hE
    generalize chkG i z s P v D l u = E at *
    clear hE
    go_enter Try.func3, Try.ntmps3
    go_wp2_with fail
    have HG1 := hide ((Blks.nil w).more (.cells #[.int .i64 i, .int .i64 z, .int .i64 s, .slice oa P.length ca, .int .i64 v, .slice od D.length cd, .int .i64 l, .int .i64 u] 29) (by simp))
    refine (gateBegun_any _).mono ?_
    rintro e w1 ⟨rfl, hb⟩
    have HG1w1 := hide (HG1.out.on hb)
    clear hb HG1
    have lG1_0 := HG1w1.out.lt 0 w.heap.size (by simp) rfl
    have cG1_0_0 := HG1w1.out.cell 0 0 w.heap.size _ _ _ rfl rfl rfl
    have cG1_0_1 := HG1w1.out.cell 0 1 w.heap.size _ _ _ rfl rfl rfl
    have cG1_0_2 := HG1w1.out.cell 0 2 w.heap.size _ _ _ rfl rfl rfl
    have cG1_0_3 := HG1w1.out.cell 0 3 w.heap.size _ _ _ rfl rfl rfl
    have cG1_0_4 := HG1w1.out.cell 0 4 w.heap.size _ _ _ rfl rfl rfl
    have cG1_0_5 := HG1w1.out.cell 0 5 w.heap.size _ _ _ rfl rfl rfl
    have cG1_0_6 := HG1w1.out.cell 0 6 w.heap.size _ _ _ rfl rfl rfl
    have cG1_0_7 := HG1w1.out.cell 0 7 w.heap.size _ _ _ rfl rfl rfl
    go_wp2_with fail
    refine (HC.out _ (HP.out.below HG1w1.out.2.2) (HD.out.below HG1w1.out.2.2)).mono ?_
    rintro e w2 ⟨rfl, hb⟩
    have HG1w2 := hide (HG1w1.out.on hb)
    clear lG1_0 cG1_0_0 cG1_0_1 cG1_0_2 cG1_0_3 cG1_0_4 cG1_0_5 cG1_0_6 cG1_0_7
    clear hb HG1w1
    have lG1_0 := HG1w2.out.lt 0 w.heap.size (by simp) rfl
    have cG1_0_0 := HG1w2.out.cell 0 0 w.heap.size _ _ _ rfl rfl rfl
    have cG1_0_1 := HG1w2.out.cell 0 1 w.heap.size _ _ _ rfl rfl rfl
    have cG1_0_2 := HG1w2.out.cell 0 2 w.heap.size _ _ _ rfl rfl rfl
    have cG1_0_3 := HG1w2.out.cell 0 3 w.heap.size _ _ _ rfl rfl rfl
    have cG1_0_4 := HG1w2.out.cell 0 4 w.heap.size _ _ _ rfl rfl rfl
    have cG1_0_5 := HG1w2.out.cell 0 5 w.heap.size _ _ _ rfl rfl rfl
    have cG1_0_6 := HG1w2.out.cell 0 6 w.heap.size _ _ _ rfl rfl rfl
    have cG1_0_7 := HG1w2.out.cell 0 7 w.heap.size _ _ _ rfl rfl rfl
    go_wp2_with fail
    go_ret
    exact ⟨rfl, HG1w2.out.2.2⟩
end Go.Proofs.Ytlnmheooicancaa
