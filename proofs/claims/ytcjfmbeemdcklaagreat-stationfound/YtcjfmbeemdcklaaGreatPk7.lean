/-
  Texts joined: V7, W6, Z30, F12, Z31, Z33.
-/
import Derived.Lib.QuietBelow
import Derived.BigQuiet
import Derived.Test.YtcjfmbeemdcklaaGreatPk6
/-
  Views: 'Set' (package lead), 'SetOf', 'SameViews' (package leeboardref), 'viewsAre' (package leeboardlaw).
-/
namespace Go.Proofs.YtcjfmbeemdcklaaGreat

open Go.RowKit

set_option maxHeartbeats 1600000 in
set_option maxRecDepth 100000 in
theorem sameViews_same (L : List VW) (o o' : Option Addr) (c c' : Nat) (w : World) (hL : VwsAt w o L) (hM : VwsAt w o' L) (hlen : L.length ≤ 100) :
    Calls Tryz.prog 28 #[.slice o L.length c, .slice o' L.length c'] w fun e w' => e = .returned (.bool true) ∧ Below w.heap.size w w' := by
  have HL := hide hL
  have HM := hide hM
  clear hL hM
  go_enter Tryz.func28, Tryz.ntmps28
  go_wp2_with fail
  go_loopw [5] (fun j wr => ∃ (q : Nat), q ≤ L.length ∧ j = .int .i64 q ∧ Below w.heap.size w wr) (fun j _ => L.length - (intOf j).toNat)
  case atStart => exact ⟨0, Nat.zero_le _, rfl, Below.refl _ _⟩
  case round =>
    obtain ⟨q, hq, rfl, hbr⟩ := hrel
    by_cases hgo : q < L.length
    · obtain ⟨p, hp⟩ : ∃ p, L[q]? = some p := ⟨L[q], by simp [hgo]⟩
      obtain ⟨A, rfl, c0, c1, c2⟩ := (HL.out.below hbr) q p hp
      obtain ⟨A', rfl, d0, d1, d2⟩ := (HM.out.below hbr) q p hp
      clear hp
      go_wp2_with fail
      go_region
      go_wp2_with fail
      exact ⟨⟨q + 1, by omega, by simp, hbr.drew⟩, by simp [intOf]; omega⟩
    · go_wp2_with fail
      go_ret
      exact ⟨rfl, hbr⟩

end Go.Proofs.YtcjfmbeemdcklaaGreat

/-
  'SameTickets', 'SameInts', 'SameLedger' (package leeboardref), of the same ones.
-/
namespace Go.Proofs.YtcjfmbeemdcklaaGreat

open Go.RowKit

set_option maxHeartbeats 3200000 in
set_option maxRecDepth 100000 in
theorem sameTickets_same (L : List TK) (o o' : Option Addr) (c c' : Nat) (w : World) (hL : TiksAt w o L) (hM : TiksAt w o' L) (hlen : L.length ≤ 100) :
    Calls Tryz.prog 85 #[.slice o L.length c, .slice o' L.length c'] w fun e w' => e = .returned (.bool true) ∧ Below w.heap.size w w' := by
  have HL := hide hL
  have HM := hide hM
  clear hL hM
  go_enter Tryz.func85, Tryz.ntmps85
  go_wp2_with fail
  go_loopw [5] (fun j wr => ∃ (q : Nat), q ≤ L.length ∧ j = .int .i64 q ∧ Below w.heap.size w wr) (fun j _ => L.length - (intOf j).toNat)
  case atStart => exact ⟨0, Nat.zero_le _, rfl, Below.refl _ _⟩
  case round =>
    obtain ⟨q, hq, rfl, hbr⟩ := hrel
    by_cases hgo : q < L.length
    · obtain ⟨p, hp⟩ : ∃ p, L[q]? = some p := ⟨L[q], by simp [hgo]⟩
      obtain ⟨A, rfl, c0, c1, c2, c3, c4, c5⟩ := (HL.out.below hbr) q p hp
      obtain ⟨A', rfl, d0, d1, d2, d3, d4, d5⟩ := (HM.out.below hbr) q p hp
      clear hp
      go_wp2_with fail
      go_region
      go_wp2_with fail
      exact ⟨⟨q + 1, by omega, by simp, hbr.drew⟩, by simp [intOf]; omega⟩
    · go_wp2_with fail
      go_ret
      exact ⟨rfl, hbr⟩

set_option maxHeartbeats 3200000 in
set_option maxRecDepth 100000 in
theorem sameLedger_same (T : List TK) (P : List TP) (V : List Int) (o1 o2 o3 q1 q2 q3 : Option Addr) (c1 c2 c3 d1 d2 d3 : Nat) (w : World) (h1 : TiksAt w o1 T) (h2 : TapsAt w o2 P) (h3 : IntsAt w o3 V) (g1 : TiksAt w q1 T) (g2 : TapsAt w q2 P) (g3 : IntsAt w q3 V)
    (l1 : T.length ≤ 100) (l2 : P.length ≤ 100) (l3 : V.length ≤ 100) :
    Calls Tryz.prog 32 #[lg o1 o2 o3 T.length c1 P.length c2 V.length c3, lg q1 q2 q3 T.length d1 P.length d2 V.length d3] w fun e w' => e = .returned (.bool true) ∧ Below w.heap.size w w' := by
  have HA := hide (fun W (h : TiksAt W o1 T) (g : TiksAt W q1 T) => sameTickets_same T o1 q1 c1 d1 W h g l1)
  have HB := hide (fun W (h : TapsAt W o2 P) (g : TapsAt W q2 P) => sameTaps_same P o2 q2 c2 d2 W h g l2)
  have HC := hide (fun W (h : IntsAt W o3 V) (g : IntsAt W q3 V) => sameInts_same V o3 q3 c3 d3 W h g l3)
  have H1 := hide (And.intro h1 g1)
  have H2 := hide (And.intro h2 g2)
  have H3 := hide (And.intro h3 g3)
  clear h1 h2 h3 g1 g2 g3
  go_enter Tryz.func32, Tryz.ntmps32
  go_wp2_with fail
  have hb0 : Below w.heap.size w ((w.alloc (cL o1 o2 o3 T.length c1 P.length c2 V.length c3 26)).alloc (cL q1 q2 q3 T.length d1 P.length d2 V.length d3 26)) := ((Below.refl _ _).alloc (Nat.le_refl _) _).alloc (by simp) _
  have HL1 : Hid (Led3 ((w.alloc (cL o1 o2 o3 T.length c1 P.length c2 V.length c3 26)).alloc (cL q1 q2 q3 T.length d1 P.length d2 V.length d3 26)) w.heap.size o1 o2 o3 T.length c1 P.length c2 V.length c3) := hide ⟨by simp [go_sem], by simp [go_sem], by simp [go_sem]⟩
  have HL2 : Hid (Led3 ((w.alloc (cL o1 o2 o3 T.length c1 P.length c2 V.length c3 26)).alloc (cL q1 q2 q3 T.length d1 P.length d2 V.length d3 26)) (w.heap.size + 1) q1 q2 q3 T.length d1 P.length d2 V.length d3) := hide ⟨by simp [go_sem], by simp [go_sem], by simp [go_sem]⟩
  have HB0 := hide hb0
  clear hb0
  generalize (w.alloc (cL o1 o2 o3 T.length c1 P.length c2 V.length c3 26)).alloc (cL q1 q2 q3 T.length d1 P.length d2 V.length d3 26) = w1 at *
  refine (HA.out _ (H1.out.1.below HB0.out) (H1.out.2.below HB0.out)).mono ?_
  rintro e w2 ⟨rfl, hb2⟩
  have HB2 := hide (HB0.out.trans (hb2.mono HB0.out.size))
  have HL3 := hide (HL1.out.below hb2 HL1.out.lt)
  have HL4 := hide (HL2.out.below hb2 HL2.out.lt)
  clear hb2 HL1 HL2 HB0
  obtain ⟨x0, x1, x2⟩ := HL3.out
  obtain ⟨y0, y1, y2⟩ := HL4.out
  go_wp2_with fail
  refine (HB.out _ (H2.out.1.below HB2.out) (H2.out.2.below HB2.out)).mono ?_
  rintro e w3 ⟨rfl, hb3⟩
  have HB3 := hide (HB2.out.trans (hb3.mono HB2.out.size))
  have HL5 := hide (HL3.out.below hb3 HL3.out.lt)
  have HL6 := hide (HL4.out.below hb3 HL4.out.lt)
  clear hb3 HL3 HL4 HB2 x0 x1 x2 y0 y1 y2
  obtain ⟨x0, x1, x2⟩ := HL5.out
  obtain ⟨y0, y1, y2⟩ := HL6.out
  go_wp2_with fail
  refine (HC.out _ (H3.out.1.below HB3.out) (H3.out.2.below HB3.out)).mono ?_
  rintro e w4 ⟨rfl, hb4⟩
  have HB4 := hide (HB3.out.trans (hb4.mono HB3.out.size))
  clear hb4 HL5 HL6 HB3 x0 x1 x2 y0 y1 y2
  go_wp2_with fail
  go_ret
  exact ⟨rfl, HB4.out⟩

end Go.Proofs.YtcjfmbeemdcklaaGreat

/-
  'SameStation' (package leeboardref) of the same ones.
-/
namespace Go.Proofs.YtcjfmbeemdcklaaGreat

open Go.RowKit

set_option maxHeartbeats 12800000 in
set_option maxRecDepth 100000 in
theorem sameStation_same (T : List TK) (P : List TP) (V : List Int) (dv : Int) (D : List Int) (G : List GT) (W : List VW) (o1 o2 o3 od og ov : Option Addr) (c1 c2 c3 cd cg cv : Nat) (x1 x2 x3 x4 x5 x6 : Option Addr) (y1 y2 y3 y4 y5 y6 : Nat) (G' : List GT) (w : World) (hs : StW w o1 o2 o3 c1 c2 c3 T P V od cd D og cg G ov cv W) (hx : StW w x1 x2 x3 y1 y2 y3 T P V x4 y4 D x5 y5 G' x6 y6 W) (hm : G'.map GT.p = G.map GT.p)
    (l1 : T.length ≤ 100) (l2 : P.length ≤ 100) (l3 : V.length ≤ 100) (l4 : D.length ≤ 100) (l5 : W.length ≤ 100) (lG : G.length ≤ 100) (hG : ∀ g ∈ G, g.A.length ≤ 100 ∧ g.D.length ≤ 100) :
    Calls Tryz.prog 18 #[stV o1 o2 o3 T.length c1 P.length c2 V.length c3 dv od D.length cd og G.length cg ov W.length cv, stV x1 x2 x3 T.length y1 P.length y2 V.length y3 dv x4 D.length y4 x5 G'.length y5 x6 W.length y6] w fun e w' => e = .returned (.bool true) ∧ Below w.heap.size w w' := by
  have HB := hide (((Blks.nil w).more (.cells #[.slice o1 T.length c1, .slice o2 P.length c2, .slice o3 V.length c3, .int .i64 dv, .slice od D.length cd, .slice og G.length cg, .slice ov W.length cv] 32) (by simp)).more (.cells #[.slice x1 T.length y1, .slice x2 P.length y2, .slice x3 V.length y3, .int .i64 dv, .slice x4 D.length y4, .slice x5 G'.length y5, .slice x6 W.length y6] 32) (by simp))
  have Hw := hide HB.out.2.2
  have OS0 := hide (show _ = _ from HB.out.1 0 _ rfl)
  rw [Nat.add_zero] at OS0
  have OX0 := hide (show _ = _ from HB.out.1 1 _ rfl)
  have hl : G'.length = G.length := by have := congrArg List.length hm; simpa using this
  have hn : ((G.length : Int) != (G'.length : Int)) = false := by rw [hl]; simp
  have hl1 : G'.length ≤ G.length := by omega
  have hl2 : G.length ≤ G'.length := by omega
  have HM := hide hm
  have HG := hide hG
  clear hm hG hl
  have HS := hide hs
  have HX := hide hx
  clear hs hx
  have HE1 := hide (fun X (h : StW X o1 o2 o3 c1 c2 c3 T P V od cd D og cg G ov cv W) (g : StW X x1 x2 x3 y1 y2 y3 T P V x4 y4 D x5 y5 G' x6 y6 W) => sameLedger_same T P V o1 o2 o3 x1 x2 x3 c1 c2 c3 y1 y2 y3 X h.led.parts3.1.ats h.led.parts3.2.1.ats h.led.parts3.2.2.ats g.led.parts3.1.ats g.led.parts3.2.1.ats g.led.parts3.2.2.ats l1 l2 l3)
  have HE2 := hide (fun X (h : StW X o1 o2 o3 c1 c2 c3 T P V od cd D og cg G ov cv W) (g : StW X x1 x2 x3 y1 y2 y3 T P V x4 y4 D x5 y5 G' x6 y6 W) => sameDenied_same dv D od x4 cd y4 X h.den.1 g.den.1 l4)
  have HE3 := hide (fun X (h : StW X o1 o2 o3 c1 c2 c3 T P V od cd D og cg G ov cv W) (g : StW X x1 x2 x3 y1 y2 y3 T P V x4 y4 D x5 y5 G' x6 y6 W) => sameViews_same W ov x6 cv y6 X h.vws g.vws l5)
  go_enter Tryz.func18, Tryz.ntmps18
  have cS0 : ((w.alloc (.cells #[.slice o1 T.length c1, .slice o2 P.length c2, .slice o3 V.length c3, .int .i64 dv, .slice od D.length cd, .slice og G.length cg, .slice ov W.length cv] 32)).alloc (.cells #[.slice x1 T.length y1, .slice x2 P.length y2, .slice x3 V.length y3, .int .i64 dv, .slice x4 D.length y4, .slice x5 G'.length y5, .slice x6 W.length y6] 32)).cell? ⟨w.heap.size, 0, none⟩ = some (.slice o1 T.length c1) := by rw [cell_of_row _ _ 0 _ _ _ OS0.out]; rfl
  have cS1 : ((w.alloc (.cells #[.slice o1 T.length c1, .slice o2 P.length c2, .slice o3 V.length c3, .int .i64 dv, .slice od D.length cd, .slice og G.length cg, .slice ov W.length cv] 32)).alloc (.cells #[.slice x1 T.length y1, .slice x2 P.length y2, .slice x3 V.length y3, .int .i64 dv, .slice x4 D.length y4, .slice x5 G'.length y5, .slice x6 W.length y6] 32)).cell? ⟨w.heap.size, 1, none⟩ = some (.slice o2 P.length c2) := by rw [cell_of_row _ _ 1 _ _ _ OS0.out]; rfl
  have cS2 : ((w.alloc (.cells #[.slice o1 T.length c1, .slice o2 P.length c2, .slice o3 V.length c3, .int .i64 dv, .slice od D.length cd, .slice og G.length cg, .slice ov W.length cv] 32)).alloc (.cells #[.slice x1 T.length y1, .slice x2 P.length y2, .slice x3 V.length y3, .int .i64 dv, .slice x4 D.length y4, .slice x5 G'.length y5, .slice x6 W.length y6] 32)).cell? ⟨w.heap.size, 2, none⟩ = some (.slice o3 V.length c3) := by rw [cell_of_row _ _ 2 _ _ _ OS0.out]; rfl
  have cS3 : ((w.alloc (.cells #[.slice o1 T.length c1, .slice o2 P.length c2, .slice o3 V.length c3, .int .i64 dv, .slice od D.length cd, .slice og G.length cg, .slice ov W.length cv] 32)).alloc (.cells #[.slice x1 T.length y1, .slice x2 P.length y2, .slice x3 V.length y3, .int .i64 dv, .slice x4 D.length y4, .slice x5 G'.length y5, .slice x6 W.length y6] 32)).cell? ⟨w.heap.size, 3, none⟩ = some (.int .i64 dv) := by rw [cell_of_row _ _ 3 _ _ _ OS0.out]; rfl
  have cS4 : ((w.alloc (.cells #[.slice o1 T.length c1, .slice o2 P.length c2, .slice o3 V.length c3, .int .i64 dv, .slice od D.length cd, .slice og G.length cg, .slice ov W.length cv] 32)).alloc (.cells #[.slice x1 T.length y1, .slice x2 P.length y2, .slice x3 V.length y3, .int .i64 dv, .slice x4 D.length y4, .slice x5 G'.length y5, .slice x6 W.length y6] 32)).cell? ⟨w.heap.size, 4, none⟩ = some (.slice od D.length cd) := by rw [cell_of_row _ _ 4 _ _ _ OS0.out]; rfl
  have cS5 : ((w.alloc (.cells #[.slice o1 T.length c1, .slice o2 P.length c2, .slice o3 V.length c3, .int .i64 dv, .slice od D.length cd, .slice og G.length cg, .slice ov W.length cv] 32)).alloc (.cells #[.slice x1 T.length y1, .slice x2 P.length y2, .slice x3 V.length y3, .int .i64 dv, .slice x4 D.length y4, .slice x5 G'.length y5, .slice x6 W.length y6] 32)).cell? ⟨w.heap.size, 5, none⟩ = some (.slice og G.length cg) := by rw [cell_of_row _ _ 5 _ _ _ OS0.out]; rfl
  have cS6 : ((w.alloc (.cells #[.slice o1 T.length c1, .slice o2 P.length c2, .slice o3 V.length c3, .int .i64 dv, .slice od D.length cd, .slice og G.length cg, .slice ov W.length cv] 32)).alloc (.cells #[.slice x1 T.length y1, .slice x2 P.length y2, .slice x3 V.length y3, .int .i64 dv, .slice x4 D.length y4, .slice x5 G'.length y5, .slice x6 W.length y6] 32)).cell? ⟨w.heap.size, 6, none⟩ = some (.slice ov W.length cv) := by rw [cell_of_row _ _ 6 _ _ _ OS0.out]; rfl
  have cX0 : ((w.alloc (.cells #[.slice o1 T.length c1, .slice o2 P.length c2, .slice o3 V.length c3, .int .i64 dv, .slice od D.length cd, .slice og G.length cg, .slice ov W.length cv] 32)).alloc (.cells #[.slice x1 T.length y1, .slice x2 P.length y2, .slice x3 V.length y3, .int .i64 dv, .slice x4 D.length y4, .slice x5 G'.length y5, .slice x6 W.length y6] 32)).cell? ⟨w.heap.size + 1, 0, none⟩ = some (.slice x1 T.length y1) := by rw [cell_of_row _ _ 0 _ _ _ OX0.out]; rfl
  have cX1 : ((w.alloc (.cells #[.slice o1 T.length c1, .slice o2 P.length c2, .slice o3 V.length c3, .int .i64 dv, .slice od D.length cd, .slice og G.length cg, .slice ov W.length cv] 32)).alloc (.cells #[.slice x1 T.length y1, .slice x2 P.length y2, .slice x3 V.length y3, .int .i64 dv, .slice x4 D.length y4, .slice x5 G'.length y5, .slice x6 W.length y6] 32)).cell? ⟨w.heap.size + 1, 1, none⟩ = some (.slice x2 P.length y2) := by rw [cell_of_row _ _ 1 _ _ _ OX0.out]; rfl
  have cX2 : ((w.alloc (.cells #[.slice o1 T.length c1, .slice o2 P.length c2, .slice o3 V.length c3, .int .i64 dv, .slice od D.length cd, .slice og G.length cg, .slice ov W.length cv] 32)).alloc (.cells #[.slice x1 T.length y1, .slice x2 P.length y2, .slice x3 V.length y3, .int .i64 dv, .slice x4 D.length y4, .slice x5 G'.length y5, .slice x6 W.length y6] 32)).cell? ⟨w.heap.size + 1, 2, none⟩ = some (.slice x3 V.length y3) := by rw [cell_of_row _ _ 2 _ _ _ OX0.out]; rfl
  have cX3 : ((w.alloc (.cells #[.slice o1 T.length c1, .slice o2 P.length c2, .slice o3 V.length c3, .int .i64 dv, .slice od D.length cd, .slice og G.length cg, .slice ov W.length cv] 32)).alloc (.cells #[.slice x1 T.length y1, .slice x2 P.length y2, .slice x3 V.length y3, .int .i64 dv, .slice x4 D.length y4, .slice x5 G'.length y5, .slice x6 W.length y6] 32)).cell? ⟨w.heap.size + 1, 3, none⟩ = some (.int .i64 dv) := by rw [cell_of_row _ _ 3 _ _ _ OX0.out]; rfl
  have cX4 : ((w.alloc (.cells #[.slice o1 T.length c1, .slice o2 P.length c2, .slice o3 V.length c3, .int .i64 dv, .slice od D.length cd, .slice og G.length cg, .slice ov W.length cv] 32)).alloc (.cells #[.slice x1 T.length y1, .slice x2 P.length y2, .slice x3 V.length y3, .int .i64 dv, .slice x4 D.length y4, .slice x5 G'.length y5, .slice x6 W.length y6] 32)).cell? ⟨w.heap.size + 1, 4, none⟩ = some (.slice x4 D.length y4) := by rw [cell_of_row _ _ 4 _ _ _ OX0.out]; rfl
  have cX5 : ((w.alloc (.cells #[.slice o1 T.length c1, .slice o2 P.length c2, .slice o3 V.length c3, .int .i64 dv, .slice od D.length cd, .slice og G.length cg, .slice ov W.length cv] 32)).alloc (.cells #[.slice x1 T.length y1, .slice x2 P.length y2, .slice x3 V.length y3, .int .i64 dv, .slice x4 D.length y4, .slice x5 G'.length y5, .slice x6 W.length y6] 32)).cell? ⟨w.heap.size + 1, 5, none⟩ = some (.slice x5 G'.length y5) := by rw [cell_of_row _ _ 5 _ _ _ OX0.out]; rfl
  have cX6 : ((w.alloc (.cells #[.slice o1 T.length c1, .slice o2 P.length c2, .slice o3 V.length c3, .int .i64 dv, .slice od D.length cd, .slice og G.length cg, .slice ov W.length cv] 32)).alloc (.cells #[.slice x1 T.length y1, .slice x2 P.length y2, .slice x3 V.length y3, .int .i64 dv, .slice x4 D.length y4, .slice x5 G'.length y5, .slice x6 W.length y6] 32)).cell? ⟨w.heap.size + 1, 6, none⟩ = some (.slice x6 W.length y6) := by rw [cell_of_row _ _ 6 _ _ _ OX0.out]; rfl
  go_wp2_with fail
  generalize ((w.alloc (.cells #[.slice o1 T.length c1, .slice o2 P.length c2, .slice o3 V.length c3, .int .i64 dv, .slice od D.length cd, .slice og G.length cg, .slice ov W.length cv] 32)).alloc (.cells #[.slice x1 T.length y1, .slice x2 P.length y2, .slice x3 V.length y3, .int .i64 dv, .slice x4 D.length y4, .slice x5 G'.length y5, .slice x6 W.length y6] 32)) = w0 at *
  clear HB
  refine (HE1.out _ (HS.out.below Hw.out) (HX.out.below Hw.out)).mono ?_
  rintro e w1 ⟨rfl, hb⟩
  have Bww1 := hide (Hw.out.trans (hb.mono Hw.out.size))
  have OSw1 := hide (at_below OS0.out hb)
  have OXw1 := hide (at_below OX0.out hb)
  have zww1 : w.heap.size ≤ w1.heap.size := Bww1.out.size
  have lSw1 : w.heap.size < w1.heap.size := (Array.getElem?_eq_some_iff.1 OSw1.out).1
  have lXw1 : w.heap.size + 1 < w1.heap.size := (Array.getElem?_eq_some_iff.1 OXw1.out).1
  clear hb Hw OS0 OX0
  clear cS0 cS1 cS2 cS3 cS4 cS5 cS6
  clear cX0 cX1 cX2 cX3 cX4 cX5 cX6
  have cS0 : w1.cell? ⟨w.heap.size, 0, none⟩ = some (.slice o1 T.length c1) := by rw [cell_of_row _ _ 0 _ _ _ OSw1.out]; rfl
  have cS1 : w1.cell? ⟨w.heap.size, 1, none⟩ = some (.slice o2 P.length c2) := by rw [cell_of_row _ _ 1 _ _ _ OSw1.out]; rfl
  have cS2 : w1.cell? ⟨w.heap.size, 2, none⟩ = some (.slice o3 V.length c3) := by rw [cell_of_row _ _ 2 _ _ _ OSw1.out]; rfl
  have cS3 : w1.cell? ⟨w.heap.size, 3, none⟩ = some (.int .i64 dv) := by rw [cell_of_row _ _ 3 _ _ _ OSw1.out]; rfl
  have cS4 : w1.cell? ⟨w.heap.size, 4, none⟩ = some (.slice od D.length cd) := by rw [cell_of_row _ _ 4 _ _ _ OSw1.out]; rfl
  have cS5 : w1.cell? ⟨w.heap.size, 5, none⟩ = some (.slice og G.length cg) := by rw [cell_of_row _ _ 5 _ _ _ OSw1.out]; rfl
  have cS6 : w1.cell? ⟨w.heap.size, 6, none⟩ = some (.slice ov W.length cv) := by rw [cell_of_row _ _ 6 _ _ _ OSw1.out]; rfl
  have cX0 : w1.cell? ⟨w.heap.size + 1, 0, none⟩ = some (.slice x1 T.length y1) := by rw [cell_of_row _ _ 0 _ _ _ OXw1.out]; rfl
  have cX1 : w1.cell? ⟨w.heap.size + 1, 1, none⟩ = some (.slice x2 P.length y2) := by rw [cell_of_row _ _ 1 _ _ _ OXw1.out]; rfl
  have cX2 : w1.cell? ⟨w.heap.size + 1, 2, none⟩ = some (.slice x3 V.length y3) := by rw [cell_of_row _ _ 2 _ _ _ OXw1.out]; rfl
  have cX3 : w1.cell? ⟨w.heap.size + 1, 3, none⟩ = some (.int .i64 dv) := by rw [cell_of_row _ _ 3 _ _ _ OXw1.out]; rfl
  have cX4 : w1.cell? ⟨w.heap.size + 1, 4, none⟩ = some (.slice x4 D.length y4) := by rw [cell_of_row _ _ 4 _ _ _ OXw1.out]; rfl
  have cX5 : w1.cell? ⟨w.heap.size + 1, 5, none⟩ = some (.slice x5 G'.length y5) := by rw [cell_of_row _ _ 5 _ _ _ OXw1.out]; rfl
  have cX6 : w1.cell? ⟨w.heap.size + 1, 6, none⟩ = some (.slice x6 W.length y6) := by rw [cell_of_row _ _ 6 _ _ _ OXw1.out]; rfl
  go_wp2_with fail
  refine (HE2.out _ (HS.out.below Bww1.out) (HX.out.below Bww1.out)).mono ?_
  rintro e w2 ⟨rfl, hb⟩
  have Bww2 := hide (Bww1.out.trans (hb.mono Bww1.out.size))
  have OSw2 := hide (at_below OSw1.out hb)
  have OXw2 := hide (at_below OXw1.out hb)
  have zww2 : w.heap.size ≤ w2.heap.size := Bww2.out.size
  have lSw2 : w.heap.size < w2.heap.size := (Array.getElem?_eq_some_iff.1 OSw2.out).1
  have lXw2 : w.heap.size + 1 < w2.heap.size := (Array.getElem?_eq_some_iff.1 OXw2.out).1
  clear hb Bww1 OSw1 OXw1
  clear cS0 cS1 cS2 cS3 cS4 cS5 cS6
  clear cX0 cX1 cX2 cX3 cX4 cX5 cX6
  have cS0 : w2.cell? ⟨w.heap.size, 0, none⟩ = some (.slice o1 T.length c1) := by rw [cell_of_row _ _ 0 _ _ _ OSw2.out]; rfl
  have cS1 : w2.cell? ⟨w.heap.size, 1, none⟩ = some (.slice o2 P.length c2) := by rw [cell_of_row _ _ 1 _ _ _ OSw2.out]; rfl
  have cS2 : w2.cell? ⟨w.heap.size, 2, none⟩ = some (.slice o3 V.length c3) := by rw [cell_of_row _ _ 2 _ _ _ OSw2.out]; rfl
  have cS3 : w2.cell? ⟨w.heap.size, 3, none⟩ = some (.int .i64 dv) := by rw [cell_of_row _ _ 3 _ _ _ OSw2.out]; rfl
  have cS4 : w2.cell? ⟨w.heap.size, 4, none⟩ = some (.slice od D.length cd) := by rw [cell_of_row _ _ 4 _ _ _ OSw2.out]; rfl
  have cS5 : w2.cell? ⟨w.heap.size, 5, none⟩ = some (.slice og G.length cg) := by rw [cell_of_row _ _ 5 _ _ _ OSw2.out]; rfl
  have cS6 : w2.cell? ⟨w.heap.size, 6, none⟩ = some (.slice ov W.length cv) := by rw [cell_of_row _ _ 6 _ _ _ OSw2.out]; rfl
  have cX0 : w2.cell? ⟨w.heap.size + 1, 0, none⟩ = some (.slice x1 T.length y1) := by rw [cell_of_row _ _ 0 _ _ _ OXw2.out]; rfl
  have cX1 : w2.cell? ⟨w.heap.size + 1, 1, none⟩ = some (.slice x2 P.length y2) := by rw [cell_of_row _ _ 1 _ _ _ OXw2.out]; rfl
  have cX2 : w2.cell? ⟨w.heap.size + 1, 2, none⟩ = some (.slice x3 V.length y3) := by rw [cell_of_row _ _ 2 _ _ _ OXw2.out]; rfl
  have cX3 : w2.cell? ⟨w.heap.size + 1, 3, none⟩ = some (.int .i64 dv) := by rw [cell_of_row _ _ 3 _ _ _ OXw2.out]; rfl
  have cX4 : w2.cell? ⟨w.heap.size + 1, 4, none⟩ = some (.slice x4 D.length y4) := by rw [cell_of_row _ _ 4 _ _ _ OXw2.out]; rfl
  have cX5 : w2.cell? ⟨w.heap.size + 1, 5, none⟩ = some (.slice x5 G'.length y5) := by rw [cell_of_row _ _ 5 _ _ _ OXw2.out]; rfl
  have cX6 : w2.cell? ⟨w.heap.size + 1, 6, none⟩ = some (.slice x6 W.length y6) := by rw [cell_of_row _ _ 6 _ _ _ OXw2.out]; rfl
  go_wp2_with fail
  refine (HE3.out _ (HS.out.below Bww2.out) (HX.out.below Bww2.out)).mono ?_
  rintro e w3 ⟨rfl, hb⟩
  have Bww3 := hide (Bww2.out.trans (hb.mono Bww2.out.size))
  have OSw3 := hide (at_below OSw2.out hb)
  have OXw3 := hide (at_below OXw2.out hb)
  have zww3 : w.heap.size ≤ w3.heap.size := Bww3.out.size
  have lSw3 : w.heap.size < w3.heap.size := (Array.getElem?_eq_some_iff.1 OSw3.out).1
  have lXw3 : w.heap.size + 1 < w3.heap.size := (Array.getElem?_eq_some_iff.1 OXw3.out).1
  clear hb Bww2 OSw2 OXw2
  clear cS0 cS1 cS2 cS3 cS4 cS5 cS6
  clear cX0 cX1 cX2 cX3 cX4 cX5 cX6
  have cS0 : w3.cell? ⟨w.heap.size, 0, none⟩ = some (.slice o1 T.length c1) := by rw [cell_of_row _ _ 0 _ _ _ OSw3.out]; rfl
  have cS1 : w3.cell? ⟨w.heap.size, 1, none⟩ = some (.slice o2 P.length c2) := by rw [cell_of_row _ _ 1 _ _ _ OSw3.out]; rfl
  have cS2 : w3.cell? ⟨w.heap.size, 2, none⟩ = some (.slice o3 V.length c3) := by rw [cell_of_row _ _ 2 _ _ _ OSw3.out]; rfl
  have cS3 : w3.cell? ⟨w.heap.size, 3, none⟩ = some (.int .i64 dv) := by rw [cell_of_row _ _ 3 _ _ _ OSw3.out]; rfl
  have cS4 : w3.cell? ⟨w.heap.size, 4, none⟩ = some (.slice od D.length cd) := by rw [cell_of_row _ _ 4 _ _ _ OSw3.out]; rfl
  have cS5 : w3.cell? ⟨w.heap.size, 5, none⟩ = some (.slice og G.length cg) := by rw [cell_of_row _ _ 5 _ _ _ OSw3.out]; rfl
  have cS6 : w3.cell? ⟨w.heap.size, 6, none⟩ = some (.slice ov W.length cv) := by rw [cell_of_row _ _ 6 _ _ _ OSw3.out]; rfl
  have cX0 : w3.cell? ⟨w.heap.size + 1, 0, none⟩ = some (.slice x1 T.length y1) := by rw [cell_of_row _ _ 0 _ _ _ OXw3.out]; rfl
  have cX1 : w3.cell? ⟨w.heap.size + 1, 1, none⟩ = some (.slice x2 P.length y2) := by rw [cell_of_row _ _ 1 _ _ _ OXw3.out]; rfl
  have cX2 : w3.cell? ⟨w.heap.size + 1, 2, none⟩ = some (.slice x3 V.length y3) := by rw [cell_of_row _ _ 2 _ _ _ OXw3.out]; rfl
  have cX3 : w3.cell? ⟨w.heap.size + 1, 3, none⟩ = some (.int .i64 dv) := by rw [cell_of_row _ _ 3 _ _ _ OXw3.out]; rfl
  have cX4 : w3.cell? ⟨w.heap.size + 1, 4, none⟩ = some (.slice x4 D.length y4) := by rw [cell_of_row _ _ 4 _ _ _ OXw3.out]; rfl
  have cX5 : w3.cell? ⟨w.heap.size + 1, 5, none⟩ = some (.slice x5 G'.length y5) := by rw [cell_of_row _ _ 5 _ _ _ OXw3.out]; rfl
  have cX6 : w3.cell? ⟨w.heap.size + 1, 6, none⟩ = some (.slice x6 W.length y6) := by rw [cell_of_row _ _ 6 _ _ _ OXw3.out]; rfl
  go_wp2_with fail
  go_loopw [5] (fun j wr => ∃ (p : Nat), p ≤ G.length ∧ j = .int .i64 p ∧ Hid (Below w3.heap.size w3 wr)) (fun j _ => G.length - (intOf j).toNat)
  case atStart => exact ⟨0, by omega, rfl, hide (Below.refl _ _)⟩
  case round =>
    clear cS0 cS1 cS2 cS3 cS4 cS5 cS6
    clear cX0 cX1 cX2 cX3 cX4 cX5 cX6
    obtain ⟨p, hp, rfl, HR⟩ := hrel
    have hb := HR.out
    have Bwwr := hide (Bww3.out.trans (hb.mono Bww3.out.size))
    have Bw3wr := hide hb
    have OSwr := hide (at_below OSw3.out hb)
    have OXwr := hide (at_below OXw3.out hb)
    clear hb Bww3 OSw3 OXw3
    have zwwr : w.heap.size ≤ wr.heap.size := Bwwr.out.size
    have zw3wr : w3.heap.size ≤ wr.heap.size := Bw3wr.out.size
    have lSwr : w.heap.size < wr.heap.size := (Array.getElem?_eq_some_iff.1 OSwr.out).1
    have lXwr : w.heap.size + 1 < wr.heap.size := (Array.getElem?_eq_some_iff.1 OXwr.out).1
    clear HR
    have cS0 : wr.cell? ⟨w.heap.size, 0, none⟩ = some (.slice o1 T.length c1) := by rw [cell_of_row _ _ 0 _ _ _ OSwr.out]; rfl
    have cS1 : wr.cell? ⟨w.heap.size, 1, none⟩ = some (.slice o2 P.length c2) := by rw [cell_of_row _ _ 1 _ _ _ OSwr.out]; rfl
    have cS2 : wr.cell? ⟨w.heap.size, 2, none⟩ = some (.slice o3 V.length c3) := by rw [cell_of_row _ _ 2 _ _ _ OSwr.out]; rfl
    have cS3 : wr.cell? ⟨w.heap.size, 3, none⟩ = some (.int .i64 dv) := by rw [cell_of_row _ _ 3 _ _ _ OSwr.out]; rfl
    have cS4 : wr.cell? ⟨w.heap.size, 4, none⟩ = some (.slice od D.length cd) := by rw [cell_of_row _ _ 4 _ _ _ OSwr.out]; rfl
    have cS5 : wr.cell? ⟨w.heap.size, 5, none⟩ = some (.slice og G.length cg) := by rw [cell_of_row _ _ 5 _ _ _ OSwr.out]; rfl
    have cS6 : wr.cell? ⟨w.heap.size, 6, none⟩ = some (.slice ov W.length cv) := by rw [cell_of_row _ _ 6 _ _ _ OSwr.out]; rfl
    have cX0 : wr.cell? ⟨w.heap.size + 1, 0, none⟩ = some (.slice x1 T.length y1) := by rw [cell_of_row _ _ 0 _ _ _ OXwr.out]; rfl
    have cX1 : wr.cell? ⟨w.heap.size + 1, 1, none⟩ = some (.slice x2 P.length y2) := by rw [cell_of_row _ _ 1 _ _ _ OXwr.out]; rfl
    have cX2 : wr.cell? ⟨w.heap.size + 1, 2, none⟩ = some (.slice x3 V.length y3) := by rw [cell_of_row _ _ 2 _ _ _ OXwr.out]; rfl
    have cX3 : wr.cell? ⟨w.heap.size + 1, 3, none⟩ = some (.int .i64 dv) := by rw [cell_of_row _ _ 3 _ _ _ OXwr.out]; rfl
    have cX4 : wr.cell? ⟨w.heap.size + 1, 4, none⟩ = some (.slice x4 D.length y4) := by rw [cell_of_row _ _ 4 _ _ _ OXwr.out]; rfl
    have cX5 : wr.cell? ⟨w.heap.size + 1, 5, none⟩ = some (.slice x5 G'.length y5) := by rw [cell_of_row _ _ 5 _ _ _ OXwr.out]; rfl
    have cX6 : wr.cell? ⟨w.heap.size + 1, 6, none⟩ = some (.slice x6 W.length y6) := by rw [cell_of_row _ _ 6 _ _ _ OXwr.out]; rfl
    have HSx := hide (HS.out.below Bwwr.out)
    have HXx := hide (HX.out.below Bwwr.out)
    by_cases hgo : p < G.length
    · obtain ⟨e0, he0⟩ : ∃ e0, G[p]? = some e0 := ⟨_, List.getElem?_eq_getElem (by omega)⟩
      obtain ⟨e1, he1, hep⟩ : ∃ e1, G'[p]? = some e1 ∧ e1.p = e0.p := by
        have h := congrArg (fun l => l[p]?) HM.out
        simp only [List.getElem?_map] at h
        rw [he0, Option.map_some, Option.map_eq_some_iff] at h
        exact h
      have hch := HG.out e0 (List.mem_of_getElem? he0)
      have hok := HSx.out.gok e0 (List.mem_of_getElem? he0)
      obtain ⟨b1, rfl, h81, ha1, hi1⟩ := HSx.out.gts p e0 he0
      obtain ⟨b2, rfl, h82, ha2, hi2⟩ := HXx.out.gts p e1 he1
      clear he0 he1
      obtain ⟨ei, ez, es, eoa, eA, eca, ev, eod, eD, ecd, el, eu⟩ := e0
      obtain ⟨fi, fz, fs, foa, fA, fca, fv, fod, fD, fcd, fl, fu⟩ := e1
      simp only [GT.p, GP.mk.injEq] at hep
      obtain ⟨rfl, rfl, rfl, rfl, rfl, rfl, rfl, rfl⟩ := hep
      obtain ⟨s0, s1, s2, s3, s4, s5, s6, s7⟩ := h81
      obtain ⟨t0, t1, t2, t3, t4, t5, t6, t7⟩ := h82
      simp only at s0 s1 s2 s3 s4 s5 s6 s7 t0 t1 t2 t3 t4 t5 t6 t7 ha1 ha2 hi1 hi2 hch
      have Ha1 := hide ha1
      have Ha2 := hide ha2
      have Hi1 := hide hi1
      have Hi2 := hide hi2
      clear ha1 ha2 hi1 hi2 hok
      have qcS0 := cell_regrown cS0
      have qcS1 := cell_regrown cS1
      have qcS2 := cell_regrown cS2
      have qcS3 := cell_regrown cS3
      have qcS4 := cell_regrown cS4
      have qcS5 := cell_regrown cS5
      have qcS6 := cell_regrown cS6
      have qcX0 := cell_regrown cX0
      have qcX1 := cell_regrown cX1
      have qcX2 := cell_regrown cX2
      have qcX3 := cell_regrown cX3
      have qcX4 := cell_regrown cX4
      have qcX5 := cell_regrown cX5
      have qcX6 := cell_regrown cX6
      have qs0 := cell_regrown s0
      have qs1 := cell_regrown s1
      have qs2 := cell_regrown s2
      have qs3 := cell_regrown s3
      have qs4 := cell_regrown s4
      have qs5 := cell_regrown s5
      have qs6 := cell_regrown s6
      have qs7 := cell_regrown s7
      have qt0 := cell_regrown t0
      have qt1 := cell_regrown t1
      have qt2 := cell_regrown t2
      have qt3 := cell_regrown t3
      have qt4 := cell_regrown t4
      have qt5 := cell_regrown t5
      have qt6 := cell_regrown t6
      have qt7 := cell_regrown t7
      have kG : ∀ d os, Calls Tryz.prog 29 #[gtV fi fz fs eoa fA.length eca fv eod fD.length ecd fl fu, gtV fi fz fs foa fA.length fca fv fod fD.length fcd fl fu] (Sort.grow (redrawn wr d) os) fun e w'' => e = .returned (.bool true) ∧ ∃ p : Regrown, w'' = Sort.grow (redrawn wr p.d) p.os :=
        fun d os => Calls.regrown_of (sameGate_same fi fz fs fA fv fD fl fu eoa foa eod fod eca fca ecd fcd _ (Ha1.out.below (below_regrown wr d os)).ats (Ha2.out.below (below_regrown wr d os)).ats (Hi1.out.below (below_regrown wr d os)).ats (Hi2.out.below (below_regrown wr d os)).ats hch.1 hch.2)
      go_wp2_with fail
      refine wp_region_quiet_below (by kernel_rfl) (by kernel_rfl) ?_
      repeat (go_big_quiet_step (first | exact kG _ _))
      refine wpQuiet_nil ?_
      intro _ hw'
      obtain ⟨⟨dq, osq⟩, hw''⟩ := hw'
      subst hw''
      have hb := below_regrown wr dq osq
      clear qcS0 cS0 qcS1 cS1 qcS2 cS2 qcS3 cS3 qcS4 cS4 qcS5 cS5 qcS6 cS6 qcX0 cX0 qcX1 cX1 qcX2 cX2 qcX3 cX3 qcX4 cX4 qcX5 cX5 qcX6 cX6 qs0 s0 qs1 s1 qs2 s2 qs3 s3 qs4 s4 qs5 s5 qs6 s6 qs7 s7 qt0 t0 qt1 t1 qt2 t2 qt3 t3 qt4 t4 qt5 t5 qt6 t6 qt7 t7 kG
      have Bwwq := hide (Bwwr.out.trans (hb.mono Bwwr.out.size))
      have Bw3wq := hide (Bw3wr.out.trans (hb.mono Bw3wr.out.size))
      have OSwq := hide (at_below OSwr.out hb)
      have OXwq := hide (at_below OXwr.out hb)
      clear hb Bwwr Bw3wr OSwr OXwr
      generalize (Sort.grow (redrawn wr dq) osq) = wq at *
      have zwwq : w.heap.size ≤ wq.heap.size := Bwwq.out.size
      have zw3wq : w3.heap.size ≤ wq.heap.size := Bw3wq.out.size
      have lSwq : w.heap.size < wq.heap.size := (Array.getElem?_eq_some_iff.1 OSwq.out).1
      have lXwq : w.heap.size + 1 < wq.heap.size := (Array.getElem?_eq_some_iff.1 OXwq.out).1
      go_wp2_with fail
      exact ⟨⟨p + 1, by omega, by simp, Bw3wq⟩, by simp [intOf]; omega⟩
    · go_wp2_with fail
      go_ret
      exact ⟨rfl, Bwwr.out⟩

end Go.Proofs.YtcjfmbeemdcklaaGreat

/-
  'mergeBegun' (package leeboardlaw).
-/
namespace Go.Proofs.YtcjfmbeemdcklaaGreat

open Go.RowKit

def mO : List TP := [⟨1, 1, 1, 9, 1⟩, ⟨1, 0, 2, 9, 1⟩, ⟨1, 0, 1, 5, 1⟩]

def mQ : List TP := [⟨1, 0, 1, 5, 1⟩, ⟨1, 0, 2, 9, 1⟩, ⟨1, 1, 1, 9, 1⟩]

def mM : List TP := [⟨4, 2, 1, 30, 1⟩, ⟨1, 2, 2, 15, 1⟩, ⟨9, 2, 3, 70, 1⟩]

def mS : List TP := [⟨1, 2, 2, 15, 1⟩, ⟨1, 0, 1, 20, 1⟩, ⟨4, 2, 1, 30, 1⟩, ⟨1, 1, 1, 60, 1⟩, ⟨9, 2, 3, 70, 1⟩]

def mP : List TP := [⟨1, 2, 2, 15, 1⟩, ⟨1, 0, 1, 20, 1⟩, ⟨4, 2, 1, 30, 1⟩, ⟨1, 1, 1, 60, 1⟩]

def mD : List TP := [⟨9, 2, 3, 70, 1⟩]

def mV : List Int := (bldA bookT mS [] [] []).2.2.1

theorem m_e : ordE mO = 0 := by decide +kernel

theorem m_q : ordR mO = mQ := by
  rw [ordR, if_pos m_e]
  exact (srt_eq (by simp [Ord, mQ, befP]) (show mQ.Perm mO from List.reverse_perm mO) (by simp [DistP, mO])).symm

theorem m_s : srt (bookP ++ mM) = mS := by
  have hp : mS.Perm (bookP ++ mM) := by
    show [_, _, _, _, _].Perm [_, _, _, _, _]
    refine (List.Perm.swap _ _ _).trans (List.Perm.cons _ ?_)
    refine List.Perm.trans (List.Perm.cons _ (List.Perm.swap _ _ _)) ?_
    refine (List.Perm.swap _ _ _).trans (List.Perm.cons _ ?_)
    exact List.Perm.swap _ _ _
  exact (srt_eq (by simp [Ord, mS, befP]) hp (by simp [DistP, bookP, mM])).symm

theorem m_b : intoB bookT bookP mM = (0, mP, mV, mD) := by
  rw [intoB, m_s]
  rfl

theorem m_c : chkL bookT bookP bookV = 0 := by decide +kernel

theorem m_o : ordE (bookP ++ mM) = 0 := by decide +kernel

theorem m_i : intoE bookT bookP bookV mM = 0 := by
  rw [intoE, if_pos m_c, if_neg (by decide), if_pos m_o, m_b]

theorem m_p : intoP bookT bookP bookV mM = mP := by rw [intoP, if_pos m_i, m_b]

theorem m_v : intoV bookT bookP bookV mM = mV := by rw [intoV, if_pos m_i, m_b]

theorem m_d : intoD bookT bookP bookV mM = mD := by rw [intoD, if_pos m_i, m_b]

theorem m_t : intoT bookT bookP bookV mM = bookT := by rw [intoT, if_pos m_i]

theorem m_vv : mV = [1, 2, 1, 2] := by decide +kernel

set_option maxHeartbeats 6400000 in
set_option maxRecDepth 100000 in
theorem mergeBegun_any (w : World) : Calls Tryz.prog 23 #[] w fun e w' => e = .returned (.bool true) ∧ Below w.heap.size w w' := by
  have HB := hide (Below.refl w.heap.size w)
  go_enter Tryz.func23, Tryz.ntmps23
  go_wp2_with fail
  refine (at_any _ _ _ _ _).mono ?_
  rintro e w1 ⟨rfl, hb⟩
  have HB' := hide (HB.out.trans (hb.mono HB.out.size))
  clear HB
  have HB := HB'
  clear HB'
  clear hb
  go_wp2_with fail
  refine (at_any _ _ _ _ _).mono ?_
  rintro e w2 ⟨rfl, hb⟩
  have HB' := hide (HB.out.trans (hb.mono HB.out.size))
  clear HB
  have HB := HB'
  clear HB'
  clear hb
  go_wp2_with fail
  refine (at_any _ _ _ _ _).mono ?_
  rintro e w3 ⟨rfl, hb⟩
  have HB' := hide (HB.out.trans (hb.mono HB.out.size))
  clear HB
  have HB := HB'
  clear HB'
  clear hb
  go_wp2_with fail
  have hb := (Below.refl w3.heap.size w3).alloc (Nat.le_refl _) (.cells #[.int .i64 1, .int .i64 1, .int .i64 1, .int .i64 9, .int .i64 1, .int .i64 1, .int .i64 0, .int .i64 2, .int .i64 9, .int .i64 1, .int .i64 1, .int .i64 0, .int .i64 1, .int .i64 5, .int .i64 1] 58)
  have HO : Hid (TapsV (w3.alloc (.cells #[.int .i64 1, .int .i64 1, .int .i64 1, .int .i64 9, .int .i64 1, .int .i64 1, .int .i64 0, .int .i64 2, .int .i64 9, .int .i64 1, .int .i64 1, .int .i64 0, .int .i64 1, .int .i64 5, .int .i64 1] 58)) (.slice (some ⟨w3.heap.size, 0, none⟩) 3 3) mO) :=
    hide (tapsV_own (base := 0) (n := 3) ⟨rfl, .inr ⟨w3.heap.size, 3, _, rfl, Nat.zero_le _, heap_alloc_new _ _, Nat.le_refl _, by decide, rfl, rfl⟩⟩)
  have HB' := hide (HB.out.trans (hb.mono HB.out.size))
  clear HB
  have HB := HB'
  clear HB'
  clear hb
  generalize w3.alloc (.cells #[.int .i64 1, .int .i64 1, .int .i64 1, .int .i64 9, .int .i64 1, .int .i64 1, .int .i64 0, .int .i64 2, .int .i64 9, .int .i64 1, .int .i64 1, .int .i64 0, .int .i64 1, .int .i64 5, .int .i64 1] 58) = w4 at *
  refine (order_any (some ⟨w3.heap.size, 0, none⟩) 3 mO _ HO.out.eqs.2.1 (by decide) (by simp)).mono ?_
  rintro e w5 ⟨⟨oo, no, co, rfl, hov, -⟩, hb⟩
  rw [m_e]
  rw [m_q] at hov
  obtain ⟨rfl, hov, -, -⟩ := hov.eqs
  clear HO
  have HB' := hide (HB.out.trans (hb.mono HB.out.size))
  clear HB
  have HB := HB'
  clear HB'
  clear hb
  have HQ := hide hov
  clear hov
  clear hov
  rw [show mQ.length = 3 from rfl]
  go_wp2_with fail
  refine (book_any _).mono ?_
  rintro e w6 ⟨⟨vb, rfl, hvb⟩, hb⟩
  have HQ' := hide (HQ.out.below hb)
  clear HQ
  have HQ := HQ'
  clear HQ'
  have HB' := hide (HB.out.trans (hb.mono HB.out.size))
  clear HB
  have HB := HB'
  clear HB'
  clear hb
  obtain ⟨ob1, cb1, ob2, cb2, ob3, cb3, rfl, -⟩ := hvb.opened
  have HBk := hide hvb
  clear hvb
  go_wp2_with fail
  refine (at_any _ _ _ _ _).mono ?_
  rintro e w7 ⟨rfl, hb⟩
  have HQ' := hide (HQ.out.below hb)
  have HBk' := hide (HBk.out.below hb)
  clear HQ
  have HQ := HQ'
  clear HQ'
  clear HBk
  have HBk := HBk'
  clear HBk'
  have HB' := hide (HB.out.trans (hb.mono HB.out.size))
  clear HB
  have HB := HB'
  clear HB'
  clear hb
  go_wp2_with fail
  refine (at_any _ _ _ _ _).mono ?_
  rintro e w8 ⟨rfl, hb⟩
  have HQ' := hide (HQ.out.below hb)
  have HBk' := hide (HBk.out.below hb)
  clear HQ
  have HQ := HQ'
  clear HQ'
  clear HBk
  have HBk := HBk'
  clear HBk'
  have HB' := hide (HB.out.trans (hb.mono HB.out.size))
  clear HB
  have HB := HB'
  clear HB'
  clear hb
  go_wp2_with fail
  refine (at_any _ _ _ _ _).mono ?_
  rintro e w9 ⟨rfl, hb⟩
  have HQ' := hide (HQ.out.below hb)
  have HBk' := hide (HBk.out.below hb)
  clear HQ
  have HQ := HQ'
  clear HQ'
  clear HBk
  have HBk := HBk'
  clear HBk'
  have HB' := hide (HB.out.trans (hb.mono HB.out.size))
  clear HB
  have HB := HB'
  clear HB'
  clear hb
  go_wp2_with fail
  have hb := (Below.refl w9.heap.size w9).alloc (Nat.le_refl _) (.cells #[.int .i64 4, .int .i64 2, .int .i64 1, .int .i64 30, .int .i64 1, .int .i64 1, .int .i64 2, .int .i64 2, .int .i64 15, .int .i64 1, .int .i64 9, .int .i64 2, .int .i64 3, .int .i64 70, .int .i64 1] 58)
  have HM : Hid (TapsV (w9.alloc (.cells #[.int .i64 4, .int .i64 2, .int .i64 1, .int .i64 30, .int .i64 1, .int .i64 1, .int .i64 2, .int .i64 2, .int .i64 15, .int .i64 1, .int .i64 9, .int .i64 2, .int .i64 3, .int .i64 70, .int .i64 1] 58)) (.slice (some ⟨w9.heap.size, 0, none⟩) 3 3) mM) :=
    hide (tapsV_own (base := 0) (n := 3) ⟨rfl, .inr ⟨w9.heap.size, 3, _, rfl, Nat.zero_le _, heap_alloc_new _ _, Nat.le_refl _, by decide, rfl, rfl⟩⟩)
  have HQ' := hide (HQ.out.below hb)
  have HBk' := hide (HBk.out.below hb)
  clear HQ
  have HQ := HQ'
  clear HQ'
  clear HBk
  have HBk := HBk'
  clear HBk'
  have HB' := hide (HB.out.trans (hb.mono HB.out.size))
  clear HB
  have HB := HB'
  clear HB'
  clear hb
  generalize w9.alloc (.cells #[.int .i64 4, .int .i64 2, .int .i64 1, .int .i64 30, .int .i64 1, .int .i64 1, .int .i64 2, .int .i64 2, .int .i64 15, .int .i64 1, .int .i64 9, .int .i64 2, .int .i64 3, .int .i64 70, .int .i64 1] 58) = w10 at *
  refine (into_any bookT bookP bookV mM ob1 ob2 ob3 (some ⟨w9.heap.size, 0, none⟩) cb1 cb2 cb3 3 _ HBk.out book_lens HM.out.eqs.2.1 (by decide) (by simp)).mono ?_
  rintro e w11 ⟨⟨lv, od, nd, cd, rfl, hln, hod, -⟩, hb⟩
  rw [m_i]
  rw [m_t, m_p, m_v] at hln
  rw [m_d] at hod
  obtain ⟨rfl, hod, -, -⟩ := hod.eqs
  clear HM HBk
  have HQ' := hide (HQ.out.below hb)
  clear HQ
  have HQ := HQ'
  clear HQ'
  have HB' := hide (HB.out.trans (hb.mono HB.out.size))
  clear HB
  have HB := HB'
  clear HB'
  clear hb
  have HD := hide hod
  clear hod
  clear hod
  rw [show mD.length = 1 from rfl]
  obtain ⟨v1, v2, v3, rfl, ⟨⟨a1, x1, rfl, -, -⟩, -⟩, ⟨⟨a2, x2, rfl, -, -⟩, -⟩, ⟨⟨a3, x3, rfl, hv3, -⟩, -⟩⟩ := hln
  rw [m_vv] at hv3
  have HV := hide hv3
  clear hv3
  rw [show mP.length = 4 from rfl, show mV.length = 4 from rfl, show bookT.length = 2 from rfl]
  go_wp2_with fail
  have hb := (Below.refl w11.heap.size w11).alloc (Nat.le_refl _) (.cells #[.slice a1 2 x1, .slice a2 4 x2, .slice a3 4 x3] 26)
  have HGa := hide (heap_alloc_new w11 (.cells #[.slice a1 2 x1, .slice a2 4 x2, .slice a3 4 x3] 26))
  have HQ' := hide (HQ.out.below hb)
  have HD' := hide (HD.out.below hb)
  have HV' := hide (HV.out.below hb)
  clear HQ
  have HQ := HQ'
  clear HQ'
  clear HD
  have HD := HD'
  clear HD'
  clear HV
  have HV := HV'
  clear HV'
  have HB' := hide (HB.out.trans (hb.mono HB.out.size))
  clear HB
  have HB := HB'
  clear HB'
  clear hb
  generalize w11.alloc (.cells #[.slice a1 2 x1, .slice a2 4 x2, .slice a3 4 x3] 26) = w12 at *
  refine (at_any _ _ _ _ _).mono ?_
  rintro e w13 ⟨rfl, hb⟩
  have HQ' := hide (HQ.out.below hb)
  have HD' := hide (HD.out.below hb)
  have HV' := hide (HV.out.below hb)
  have HGa' := hide (at_below HGa.out hb)
  clear HQ
  have HQ := HQ'
  clear HQ'
  clear HD
  have HD := HD'
  clear HD'
  clear HV
  have HV := HV'
  clear HV'
  clear HGa
  have HGa := HGa'
  clear HGa'
  have HB' := hide (HB.out.trans (hb.mono HB.out.size))
  clear HB
  have HB := HB'
  clear HB'
  clear hb
  go_wp2_with fail
  refine (at_any _ _ _ _ _).mono ?_
  rintro e w14 ⟨rfl, hb⟩
  have HQ' := hide (HQ.out.below hb)
  have HD' := hide (HD.out.below hb)
  have HV' := hide (HV.out.below hb)
  have HGa' := hide (at_below HGa.out hb)
  clear HQ
  have HQ := HQ'
  clear HQ'
  clear HD
  have HD := HD'
  clear HD'
  clear HV
  have HV := HV'
  clear HV'
  clear HGa
  have HGa := HGa'
  clear HGa'
  have HB' := hide (HB.out.trans (hb.mono HB.out.size))
  clear HB
  have HB := HB'
  clear HB'
  clear hb
  go_wp2_with fail
  refine (at_any _ _ _ _ _).mono ?_
  rintro e w15 ⟨rfl, hb⟩
  have HQ' := hide (HQ.out.below hb)
  have HD' := hide (HD.out.below hb)
  have HV' := hide (HV.out.below hb)
  have HGa' := hide (at_below HGa.out hb)
  clear HQ
  have HQ := HQ'
  clear HQ'
  clear HD
  have HD := HD'
  clear HD'
  clear HV
  have HV := HV'
  clear HV'
  clear HGa
  have HGa := HGa'
  clear HGa'
  have HB' := hide (HB.out.trans (hb.mono HB.out.size))
  clear HB
  have HB := HB'
  clear HB'
  clear hb
  go_wp2_with fail
  have hb := (Below.refl w15.heap.size w15).alloc (Nat.le_refl _) (.cells #[.int .i64 1, .int .i64 0, .int .i64 1, .int .i64 5, .int .i64 1, .int .i64 1, .int .i64 0, .int .i64 2, .int .i64 9, .int .i64 1, .int .i64 1, .int .i64 1, .int .i64 1, .int .i64 9, .int .i64 1] 58)
  have HN : Hid (TapsV (w15.alloc (.cells #[.int .i64 1, .int .i64 0, .int .i64 1, .int .i64 5, .int .i64 1, .int .i64 1, .int .i64 0, .int .i64 2, .int .i64 9, .int .i64 1, .int .i64 1, .int .i64 1, .int .i64 1, .int .i64 9, .int .i64 1] 58)) (.slice (some ⟨w15.heap.size, 0, none⟩) 3 3) mQ) :=
    hide (tapsV_own (base := 0) (n := 3) ⟨rfl, .inr ⟨w15.heap.size, 3, _, rfl, Nat.zero_le _, heap_alloc_new _ _, Nat.le_refl _, by decide, rfl, rfl⟩⟩)
  have HQ' := hide (HQ.out.below hb)
  have HD' := hide (HD.out.below hb)
  have HV' := hide (HV.out.below hb)
  have HGa' := hide (at_below HGa.out hb)
  clear HQ
  have HQ := HQ'
  clear HQ'
  clear HD
  have HD := HD'
  clear HD'
  clear HV
  have HV := HV'
  clear HV'
  clear HGa
  have HGa := HGa'
  clear HGa'
  have HB' := hide (HB.out.trans (hb.mono HB.out.size))
  clear HB
  have HB := HB'
  clear HB'
  clear hb
  generalize w15.alloc (.cells #[.int .i64 1, .int .i64 0, .int .i64 1, .int .i64 5, .int .i64 1, .int .i64 1, .int .i64 0, .int .i64 2, .int .i64 9, .int .i64 1, .int .i64 1, .int .i64 1, .int .i64 1, .int .i64 9, .int .i64 1] 58) = w16 at *
  refine (sameTaps_same mQ oo (some ⟨w15.heap.size, 0, none⟩) co 3 _ HQ.out HN.out.eqs.2.1 (by decide)).mono ?_
  rintro e w17 ⟨rfl, hb⟩
  clear HN
  have HQ' := hide (HQ.out.below hb)
  have HD' := hide (HD.out.below hb)
  have HV' := hide (HV.out.below hb)
  have HGa' := hide (at_below HGa.out hb)
  clear HQ
  have HQ := HQ'
  clear HQ'
  clear HD
  have HD := HD'
  clear HD'
  clear HV
  have HV := HV'
  clear HV'
  clear HGa
  have HGa := HGa'
  clear HGa'
  have HB' := hide (HB.out.trans (hb.mono HB.out.size))
  clear HB
  have HB := HB'
  clear HB'
  clear hb
  clear HQ
  have b1 := cell_of_row _ _ 1 _ _ _ HGa.out
  have b2 := cell_of_row _ _ 2 _ _ _ HGa.out
  obtain ⟨A3, rfl, hA3⟩ := HV.out 1 2 rfl
  have hA4 : w17.cell? ⟨A3.block, A3.off + 1, none⟩ = some (.int .i64 2) := by rw [← hA3]; first | rfl | simp [Addr.add]
  go_wp2_with fail
  clear b1 b2 hA3 hA4 HGa HV
  refine (at_any _ _ _ _ _).mono ?_
  rintro e w18 ⟨rfl, hb⟩
  have HD' := hide (HD.out.below hb)
  clear HD
  have HD := HD'
  clear HD'
  have HB' := hide (HB.out.trans (hb.mono HB.out.size))
  clear HB
  have HB := HB'
  clear HB'
  clear hb
  go_wp2_with fail
  have hb := (Below.refl w18.heap.size w18).alloc (Nat.le_refl _) (.cells #[.int .i64 9, .int .i64 2, .int .i64 3, .int .i64 70, .int .i64 1] 58)
  have HN : Hid (TapsV (w18.alloc (.cells #[.int .i64 9, .int .i64 2, .int .i64 3, .int .i64 70, .int .i64 1] 58)) (.slice (some ⟨w18.heap.size, 0, none⟩) 1 1) mD) :=
    hide (tapsV_own (base := 0) (n := 1) ⟨rfl, .inr ⟨w18.heap.size, 1, _, rfl, Nat.zero_le _, heap_alloc_new _ _, Nat.le_refl _, by decide, rfl, rfl⟩⟩)
  have HD' := hide (HD.out.below hb)
  clear HD
  have HD := HD'
  clear HD'
  have HB' := hide (HB.out.trans (hb.mono HB.out.size))
  clear HB
  have HB := HB'
  clear HB'
  clear hb
  generalize w18.alloc (.cells #[.int .i64 9, .int .i64 2, .int .i64 3, .int .i64 70, .int .i64 1] 58) = w19 at *
  refine (sameTaps_same mD od (some ⟨w18.heap.size, 0, none⟩) cd 1 _ HD.out HN.out.eqs.2.1 (by decide)).mono ?_
  rintro e w20 ⟨rfl, hb⟩
  clear HN
  have HD' := hide (HD.out.below hb)
  clear HD
  have HD := HD'
  clear HD'
  have HB' := hide (HB.out.trans (hb.mono HB.out.size))
  clear HB
  have HB := HB'
  clear HB'
  clear hb
  go_wp2_with fail
  go_ret
  exact ⟨rfl, HB.out⟩

end Go.Proofs.YtcjfmbeemdcklaaGreat

/-
  The walk of 'StationFound'.
-/
namespace Go.Proofs.YtcjfmbeemdcklaaGreat

open Go.RowKit

theorem wpList_append_tapsF {ops : Array Oper} {rest : List Oper} {o : Oper} {a : Act} {Q : Exit → Act → World → Prop} {w : World} (hgd : o.guard = none) (s x : Operand)
    (ho : o.op = .call { callee := .builtin .append, args := #[s, x], argTypes := #[23, 23] })
    (base : Nat) (v : Value) (R : List TP) (hs : a.eval s = v) (hown : w.ownsRow base 58 5 v R.length (cellsP R))
    (ox : Option Addr) (c : Nat) (L : List TP) (hx : a.eval x = .slice ox L.length c) (hL : TapsV w (.slice ox L.length c) L) (hb : (R.length + L.length) * 40 ≤ 140737488355328) (hbase : base ≤ w.heap.size)
    (h : ∀ v' w', w'.ownsRow base 58 5 v' (R ++ L).length (cellsP (R ++ L)) → w.grownBy w' v.ownBlock → wpList Tryz.prog ops Q rest (a.put o.dst v') w') : wpList Tryz.prog ops Q (o :: rest) a w := by
  obtain ⟨i0, hi, hz0, hz1, hz2⟩ := info_parts info32
  obtain ⟨o', c', e, hat, hlc, hn⟩ := hL
  simp only [Value.slice.injEq] at e
  obtain ⟨rfl, -, rfl⟩ := e
  refine wpList_plain hgd fun _ hK => wp_append_row s x 23 ho base 58 i0 _ 5 40 Tryz.underlying23 hi hz0 hz1 hz2 rfl (by decide) v R.length (cellsP R) hs hown ox L.length c (cellsP L) hx (cellsP_len L) ?_ (oneP L) ?_ (by unfold maxLen; omega) hb hbase fun v' w' h2 h3 => hK _ _ (h v' w' ?_ h3)
  · intro ad had
    subst had
    exact taps_cells hat
  · intro hno
    subst hno
    refine ⟨?_, hn rfl⟩
    have := hn rfl
    omega
  · rw [cellsP_app, List.length_append]
    exact h2

theorem into_boundsF (T : List TK) (P : List TP) (V : List Int) (M : List TP) : (intoT T P V M).length ≤ 72 ∧ (intoP T P V M).length ≤ 72 ∧ (intoV T P V M).length ≤ 72 ∧ (intoD T P V M).length ≤ 72 := by
  by_cases h : intoE T P V M = 0
  · have h1 := into_small h
    have h2 := into_lens h
    have h3 := chkL_lens (into_chk h)
    exact ⟨by rw [(into_right h).2.2.2.2.1]; omega, by omega, by omega, by omega⟩
  · obtain ⟨e1, e2, e3, e4⟩ := into_err h
    rw [e1, e2, e3, e4]
    simp

/-- a sync that gives an error -/
theorem syncErr (T : List TK) (P : List TP) (V : List Int) (dv : Int) (D : List Int) (G : List GT) (W : List VW) (o1 o2 o3 od og ov : Option Addr) (c1 c2 c3 cd cg cv : Nat) (n m : Int) (w : World) (hs : StW w o1 o2 o3 c1 c2 c3 T P V od cd D og cg G ov cv W) (h : syncS T P V dv D G W n m ≠ 0) :
    Calls Tryz.prog 12 #[stV o1 o2 o3 T.length c1 P.length c2 V.length c3 dv od D.length cd og G.length cg ov W.length cv, .int .i64 n, .int .i64 m] w fun e w' => (∃ o c, e = .returned (.tuple #[stV none none none 0 0 0 0 0 0 0 none 0 0 none 0 0 none 0 0, .slice o 0 c, .int .i64 (syncS T P V dv D G W n m)])) ∧ Below w.heap.size w w' := by
  refine (stationSync_any T P V dv D G W o1 o2 o3 od og ov c1 c2 c3 cd cg cv n m w hs).mono ?_
  rintro e w' ⟨⟨v, E, M, o, c, hE, hM, rfl, -, h1, -⟩, hb⟩
  rw [← hE] at h ⊢
  have : M = [] := by
    rw [hM]
    split
    · rw [toldR, if_neg h]
    · rfl
  subst this
  exact ⟨⟨o, c, by rw [h1 h]; rfl⟩, hb⟩

/-- a sync that gives none -/
theorem syncSafe (T : List TK) (P : List TP) (V : List Int) (dv : Int) (D : List Int) (G : List GT) (W : List VW) (o1 o2 o3 od og ov : Option Addr) (c1 c2 c3 cd cg cv : Nat) (q : Nat) (g : GT) (m : Int) (w : World) (hs : StW w o1 o2 o3 c1 c2 c3 T P V od cd D og cg G ov cv W) (h : syncS T P V dv D G W q m = 0) (hg : G[q]? = some g) :
    Calls Tryz.prog 12 #[stV o1 o2 o3 T.length c1 P.length c2 V.length c3 dv od D.length cd og G.length cg ov W.length cv, .int .i64 (q : Int), .int .i64 m] w fun e w' => (∃ x1 y1 x2 y2 x3 y3 x4 y4 x5 y5 x6 y6 G' ot ct, e = .returned (.tuple #[stV x1 x2 x3 T.length y1 (intoP T P V g.A).length y2 (intoV T P V g.A).length y3 (denA (intoD T P V g.A) dv D).1 x4 (denA (intoD T P V g.A) dv D).2.length y4 x5 G'.length y5 x6 W.length y6, .slice ot (intoD T P V g.A).length ct, .int .i64 0]) ∧
      G'.map GT.p = (G.map GT.p).set q (gSync g.p (denA (intoD T P V g.A) dv D).1 (denA (intoD T P V g.A) dv D).2 m) ∧ StW w' x1 x2 x3 y1 y2 y3 T (intoP T P V g.A) (intoV T P V g.A) x4 y4 (denA (intoD T P V g.A) dv D).2 x5 y5 G' x6 y6 W ∧ TapsV w' (.slice ot (intoD T P V g.A).length ct) (intoD T P V g.A)) ∧ Below w.heap.size w w' := by
  refine (stationSync_any T P V dv D G W o1 o2 o3 od og ov c1 c2 c3 cd cg cv q m w hs).mono ?_
  rintro e w' ⟨⟨v, E, M, o, c, hE, hM, rfl, ⟨hT, -⟩, -, h2⟩, hb⟩
  obtain ⟨hc, q', g', hq, -, hg', -, -, hI⟩ := sync_right h
  obtain rfl : q = q' := by omega
  rw [hg] at hg'
  obtain rfl := Option.some.inj hg'
  rw [h] at hE
  subst hE
  rw [if_pos hc, toldR, if_pos rfl, gAt_of hg] at hM
  have hM' : M = intoD T P V g.A := hM
  subst hM'
  obtain ⟨G', hm, hr⟩ := h2 rfl
  rw [toldR, if_pos rfl, gAt_of hg] at hm hr
  have hTT : intoT T P V g.p.A = T := (into_right hI).2.2.2.2.1
  rw [hTT] at hr
  obtain ⟨x1, y1, x2, y2, x3, y3, x4, y4, x5, y5, x6, y6, rfl, hs', -⟩ := hr.of
  exact ⟨⟨x1, y1, x2, y2, x3, y3, x4, y4, x5, y5, x6, y6, G', o, c, rfl, by rw [Int.toNat_natCast] at hm; exact hm, hs', hT⟩, hb⟩

/-- what is found, lists alone -/
theorem found_lists {T : List TK} {P : List TP} {V : List Int} {dv : Int} {D : List Int} {G : List GT} {W : List VW} {q : Nat} {g : GT} {m : Int} {P' M : List TP} {V' D' : List Int} {dv' : Int} {G' : List GT} (h : syncS T P V dv D G W q m = 0) (hg : G[q]? = some g)
    (hP : P' = intoP T P V g.A) (hV : V' = intoV T P V g.A) (hM : M = intoD T P V g.A) (hd : dv' = (denA (intoD T P V g.A) dv D).1) (hD : D' = (denA (intoD T P V g.A) dv D).2) (hm : G'.map GT.p = (G.map GT.p).set q (gSync g.p dv' D' m)) :
    q < 3 ∧ G.length = 3 ∧ G'.length = 3 ∧ W.length = 3 ∧ chkS T P' V' dv' D' G' W = 0 ∧ (∀ p ∈ g.A, (P' ++ M).countP (fun x => eqT x p) = 1) ∧ (∀ p ∈ M, wi p.a 1 9999 = true ∧ (hasI D' p.a = true ∨ 12 ≤ D'.length ∨ 999 ≤ dv')) ∧ T.length ≤ 12 ∧ P'.length ≤ 60 ∧ V'.length ≤ 60 ∧ D'.length ≤ 12 ∧ M.length ≤ 72 ∧ g.A.length ≤ 12 ∧ chkD dv' D' = 0 ∧
    (∃ g', G'[q]? = some g' ∧ g'.p = gSync g.p dv' D' m) ∧ (∀ g ∈ G', g.A.length ≤ 100 ∧ g.D.length ≤ 100) ∧
    syncS T P' V' dv' D' G' W q m = 0 ∧ (∀ g', G'[q]? = some g' → intoP T P' V' g'.A = P' ∧ intoV T P' V' g'.A = V' ∧ intoD T P' V' g'.A = [] ∧ gSync g'.p dv' D' m = g'.p) := by
  obtain ⟨hc, q', g', hq, hq3, hg', hn, hwm, hI⟩ := sync_right h
  obtain rfl : q = q' := by omega
  rw [hg] at hg'
  obtain rfl := Option.some.inj hg'
  obtain ⟨hL, hDD, hG3, hGs, hW0, hW3⟩ := chkS_right hc
  obtain ⟨i1, i2, i3, i4, i5, -⟩ := into_right hI
  have hG' : G'.length = 3 := by have := congrArg List.length hm; simpa [hG3] using this
  have hck : chkS T P' V' dv' D' G' W = 0 := by
    rw [chkS_p, hm, hP, hV, hd, hD]
    have := sync_chk hc hg hwm hI
    rw [i5] at this
    exact this
  obtain ⟨k1, k2, k3, k4, k5, k6⟩ := chkS_right hck
  obtain ⟨l1, l2, l3⟩ := chkL_lens k1
  have hMc : ∀ p ∈ M, chkT p = 0 := fun p hp => by
    rw [hM] at hp
    exact (ordE_right (into_both hI).2.1).2.1 p (List.mem_append_right _ hp)
  have hwa : ∀ p : TP, chkT p = 0 → wi p.a 1 9999 = true := fun p hp => by
    unfold chkT chkP at hp
    by_cases hr : (wi p.a 1 9999 && wi p.g 0 2 && wi p.s 1 99 && wi p.m 0 9999) = true
    · simp only [Bool.and_eq_true] at hr
      exact hr.1.1.1
    · simp only [Bool.not_eq_true] at hr
      rw [if_pos hr] at hp
      cases hp
  obtain ⟨g', hg', hgp⟩ : ∃ g', G'[q]? = some g' ∧ g'.p = gSync g.p dv' D' m := by
    have h := congrArg (fun l => l[q]?) hm
    simp only [List.getElem?_map] at h
    rw [List.getElem?_set_self (by rw [List.length_map]; omega), Option.map_eq_some_iff] at h
    exact h
  have hA : g'.A = [] := congrArg GP.A hgp
  obtain ⟨a0, a1, a2, a3, a4⟩ := into_again hI
  rw [← hP, ← hV] at a0 a1 a2 a3 a4
  obtain ⟨g1, -, -, -⟩ := gateE_right (k4 q g' hg')
  have hlens : ∀ g ∈ G', g.A.length ≤ 100 ∧ g.D.length ≤ 100 := fun e he => by
    obtain ⟨j, hj⟩ := List.getElem?_of_mem he
    obtain ⟨r1, -⟩ := gateE_right (k4 j e hj)
    obtain ⟨r2, -, r3, -⟩ := chkG_right r1
    have := (errS_right r2).2.2.2
    have := (chkD_right r3).2.2.1
    constructor <;> omega
  have hgA : g.A.length ≤ 12 := by
    obtain ⟨r1, -⟩ := gateE_right (hGs q g hg)
    exact (errS_right (chkG_right r1).1).2.2.2
  have hs2 : syncS T P' V' dv' D' G' W q m = 0 := by
    rw [syncS, if_pos hck, syncR, wi_in (by omega) (by omega), if_neg (by decide), gAt_of hg', syncK, hn, if_pos rfl]
    have hs : syncG g'.p.i g'.p.z g'.p.s g'.p.A g'.p.v g'.p.D g'.p.l g'.p.u dv' D' m = 0 := by
      show syncG g'.i g'.z g'.s g'.A g'.v g'.D g'.l g'.u dv' D' m = 0
      rw [syncG, if_pos g1, newE, if_pos (chkG_right g1).2.2.1, k2, if_pos rfl, if_pos hwm]
    rw [if_pos hs]
    show intoE T P' V' g'.A = 0
    rw [hA]
    exact a0
  refine ⟨hq3, hG3, hG', hW3, hck, fun p hp => by rw [hP, hM]; exact sync_once hI p hp, fun p hp => ⟨hwa p (hMc p hp), ?_⟩, l1, l2, by omega, (chkD_right k2).2.2.1, ?_, hgA, k2, ⟨g', hg', hgp⟩, hlens, hs2, fun g2 hg2 => ?_⟩
  · rw [hd, hD]
    refine denA_told _ dv D hDD ?_ p (hM ▸ hp)
    intro y hy
    exact hMc y (hM ▸ hy)
  · have := (into_boundsF T P V g.A).2.2.2
    rw [hM]
    exact this
  · rw [hg'] at hg2
    obtain rfl := Option.some.inj hg2
    rw [hA, hgp]
    exact ⟨a2, a3, a4, rfl⟩

theorem count_take (P : List TP) (y : TP) : ∀ (j : Nat) (x : TP), P[j]? = some x → (P.take (j + 1)).countP (fun z => eqT z y) = (P.take j).countP (fun z => eqT z y) + (if eqT x y = true then 1 else 0) := by
  intro j x hx
  rw [List.take_add_one, hx, Option.toList_some, List.countP_append]
  simp [List.countP_cons]

set_option maxHeartbeats 12800000 in
set_option maxRecDepth 100000 in
theorem found_bad (T : List TK) (P : List TP) (V : List Int) (dv : Int) (D : List Int) (G : List GT) (W : List VW) (o1 o2 o3 od og ov : Option Addr) (c1 c2 c3 cd cg cv : Nat) (n m : Int) (w : World) (hs : StW w o1 o2 o3 c1 c2 c3 T P V od cd D og cg G ov cv W) (h1 : syncS T P V dv D G W n m ≠ 0) :
    Calls Tryz.prog 5 #[stV o1 o2 o3 T.length c1 P.length c2 V.length c3 dv od D.length cd og G.length cg ov W.length cv, .int .i64 n, .int .i64 m] w fun e w' => e = .returned (.bool true) ∧ Below w.heap.size w w' := by
  have HTa := hide (fun X (h : StW X o1 o2 o3 c1 c2 c3 T P V od cd D og cg G ov cv W) => syncErr T P V dv D G W o1 o2 o3 od og ov c1 c2 c3 cd cg cv n m X h h1)
  have h2 : (syncS T P V dv D G W n m != 0) = true := by simpa using h1
  clear h1
  generalize syncS T P V dv D G W n m = R at *
  have HB := hide ((Blks.nil w).more (.cells #[.slice o1 T.length c1, .slice o2 P.length c2, .slice o3 V.length c3, .int .i64 dv, .slice od D.length cd, .slice og G.length cg, .slice ov W.length cv] 32) (by simp))
  have Hw := hide HB.out.2.2
  have OS0 := hide (show _ = _ from HB.out.1 0 _ rfl)
  rw [Nat.add_zero] at OS0
  have HS := hide hs
  clear hs
  have cS0 : (w.alloc (.cells #[.slice o1 T.length c1, .slice o2 P.length c2, .slice o3 V.length c3, .int .i64 dv, .slice od D.length cd, .slice og G.length cg, .slice ov W.length cv] 32)).cell? ⟨w.heap.size, 0, none⟩ = some (.slice o1 T.length c1) := by rw [cell_of_row _ _ 0 _ _ _ OS0.out]; rfl
  have cS1 : (w.alloc (.cells #[.slice o1 T.length c1, .slice o2 P.length c2, .slice o3 V.length c3, .int .i64 dv, .slice od D.length cd, .slice og G.length cg, .slice ov W.length cv] 32)).cell? ⟨w.heap.size, 1, none⟩ = some (.slice o2 P.length c2) := by rw [cell_of_row _ _ 1 _ _ _ OS0.out]; rfl
  have cS2 : (w.alloc (.cells #[.slice o1 T.length c1, .slice o2 P.length c2, .slice o3 V.length c3, .int .i64 dv, .slice od D.length cd, .slice og G.length cg, .slice ov W.length cv] 32)).cell? ⟨w.heap.size, 2, none⟩ = some (.slice o3 V.length c3) := by rw [cell_of_row _ _ 2 _ _ _ OS0.out]; rfl
  have cS3 : (w.alloc (.cells #[.slice o1 T.length c1, .slice o2 P.length c2, .slice o3 V.length c3, .int .i64 dv, .slice od D.length cd, .slice og G.length cg, .slice ov W.length cv] 32)).cell? ⟨w.heap.size, 3, none⟩ = some (.int .i64 dv) := by rw [cell_of_row _ _ 3 _ _ _ OS0.out]; rfl
  have cS4 : (w.alloc (.cells #[.slice o1 T.length c1, .slice o2 P.length c2, .slice o3 V.length c3, .int .i64 dv, .slice od D.length cd, .slice og G.length cg, .slice ov W.length cv] 32)).cell? ⟨w.heap.size, 4, none⟩ = some (.slice od D.length cd) := by rw [cell_of_row _ _ 4 _ _ _ OS0.out]; rfl
  have cS5 : (w.alloc (.cells #[.slice o1 T.length c1, .slice o2 P.length c2, .slice o3 V.length c3, .int .i64 dv, .slice od D.length cd, .slice og G.length cg, .slice ov W.length cv] 32)).cell? ⟨w.heap.size, 5, none⟩ = some (.slice og G.length cg) := by rw [cell_of_row _ _ 5 _ _ _ OS0.out]; rfl
  have cS6 : (w.alloc (.cells #[.slice o1 T.length c1, .slice o2 P.length c2, .slice o3 V.length c3, .int .i64 dv, .slice od D.length cd, .slice og G.length cg, .slice ov W.length cv] 32)).cell? ⟨w.heap.size, 6, none⟩ = some (.slice ov W.length cv) := by rw [cell_of_row _ _ 6 _ _ _ OS0.out]; rfl
  go_enter Tryz.func5, Tryz.ntmps5
  go_wp2_with fail
  generalize (w.alloc (.cells #[.slice o1 T.length c1, .slice o2 P.length c2, .slice o3 V.length c3, .int .i64 dv, .slice od D.length cd, .slice og G.length cg, .slice ov W.length cv] 32)) = w0 at *
  clear HB
  refine (HTa.out _ (HS.out.below Hw.out)).mono ?_
  rintro e w1 ⟨⟨ot, ct, rfl⟩, hb⟩
  have Bww1 := hide (Hw.out.trans (hb.mono Hw.out.size))
  have OSw1 := hide (at_below OS0.out hb)
  have zww1 : w.heap.size ≤ w1.heap.size := Bww1.out.size
  have lSw1 : w.heap.size < w1.heap.size := (Array.getElem?_eq_some_iff.1 OSw1.out).1
  clear hb Hw OS0
  clear cS0 cS1 cS2 cS3 cS4 cS5 cS6
  go_wp2_with fail
  have hb := (Below.refl w1.heap.size w1).alloc (Nat.le_refl _) (.cells #[.slice none 0 0, .slice none 0 0, .slice none 0 0, .int .i64 0, .slice none 0 0, .slice none 0 0, .slice none 0 0] 32)
  have OAw1a := hide (heap_alloc_new w1 (.cells #[.slice none 0 0, .slice none 0 0, .slice none 0 0, .int .i64 0, .slice none 0 0, .slice none 0 0, .slice none 0 0] 32))
  have Bww1a := hide (Bww1.out.trans (hb.mono Bww1.out.size))
  have OSw1a := hide (at_below OSw1.out hb)
  clear hb Bww1 OSw1
  generalize (w1.alloc (.cells #[.slice none 0 0, .slice none 0 0, .slice none 0 0, .int .i64 0, .slice none 0 0, .slice none 0 0, .slice none 0 0] 32)) = w1a at *
  have zww1a : w.heap.size ≤ w1a.heap.size := Bww1a.out.size
  have lSw1a : w.heap.size < w1a.heap.size := (Array.getElem?_eq_some_iff.1 OSw1a.out).1
  have lAw1a : w1.heap.size < w1a.heap.size := (Array.getElem?_eq_some_iff.1 OAw1a.out).1
  refine (stationBegun_any _).mono ?_
  rintro e w2 ⟨rfl, hb⟩
  have Bww2 := hide (Bww1a.out.trans (hb.mono Bww1a.out.size))
  have OSw2 := hide (at_below OSw1a.out hb)
  have OAw2 := hide (at_below OAw1a.out hb)
  have zww2 : w.heap.size ≤ w2.heap.size := Bww2.out.size
  have lSw2 : w.heap.size < w2.heap.size := (Array.getElem?_eq_some_iff.1 OSw2.out).1
  have lAw2 : w1.heap.size < w2.heap.size := (Array.getElem?_eq_some_iff.1 OAw2.out).1
  clear hb Bww1a OSw1a OAw1a
  go_wp2_with fail
  refine (mergeBegun_any _).mono ?_
  rintro e w3 ⟨rfl, hb⟩
  have Bww3 := hide (Bww2.out.trans (hb.mono Bww2.out.size))
  have OSw3 := hide (at_below OSw2.out hb)
  have OAw3 := hide (at_below OAw2.out hb)
  have zww3 : w.heap.size ≤ w3.heap.size := Bww3.out.size
  have lSw3 : w.heap.size < w3.heap.size := (Array.getElem?_eq_some_iff.1 OSw3.out).1
  have lAw3 : w1.heap.size < w3.heap.size := (Array.getElem?_eq_some_iff.1 OAw3.out).1
  clear hb Bww2 OSw2 OAw2
  go_wp2_with fail
  refine (deniedBegun_any _).mono ?_
  rintro e w4 ⟨rfl, hb⟩
  have Bww4 := hide (Bww3.out.trans (hb.mono Bww3.out.size))
  have OSw4 := hide (at_below OSw3.out hb)
  have OAw4 := hide (at_below OAw3.out hb)
  have zww4 : w.heap.size ≤ w4.heap.size := Bww4.out.size
  have lSw4 : w.heap.size < w4.heap.size := (Array.getElem?_eq_some_iff.1 OSw4.out).1
  have lAw4 : w1.heap.size < w4.heap.size := (Array.getElem?_eq_some_iff.1 OAw4.out).1
  clear hb Bww3 OSw3 OAw3
  have cA0 : w4.cell? ⟨w1.heap.size, 0, none⟩ = some (.slice none 0 0) := by rw [cell_of_row _ _ 0 _ _ _ OAw4.out]; rfl
  have cA1 : w4.cell? ⟨w1.heap.size, 1, none⟩ = some (.slice none 0 0) := by rw [cell_of_row _ _ 1 _ _ _ OAw4.out]; rfl
  have cA2 : w4.cell? ⟨w1.heap.size, 2, none⟩ = some (.slice none 0 0) := by rw [cell_of_row _ _ 2 _ _ _ OAw4.out]; rfl
  have cA3 : w4.cell? ⟨w1.heap.size, 3, none⟩ = some (.int .i64 0) := by rw [cell_of_row _ _ 3 _ _ _ OAw4.out]; rfl
  have cA4 : w4.cell? ⟨w1.heap.size, 4, none⟩ = some (.slice none 0 0) := by rw [cell_of_row _ _ 4 _ _ _ OAw4.out]; rfl
  have cA5 : w4.cell? ⟨w1.heap.size, 5, none⟩ = some (.slice none 0 0) := by rw [cell_of_row _ _ 5 _ _ _ OAw4.out]; rfl
  have cA6 : w4.cell? ⟨w1.heap.size, 6, none⟩ = some (.slice none 0 0) := by rw [cell_of_row _ _ 6 _ _ _ OAw4.out]; rfl
  go_wp2_with fail
  go_ret
  exact ⟨rfl, Bww4.out⟩

set_option maxHeartbeats 12800000 in
set_option maxRecDepth 100000 in
theorem found_ok (T : List TK) (P : List TP) (V : List Int) (dv : Int) (D : List Int) (G : List GT) (W : List VW) (o1 o2 o3 od og ov : Option Addr) (c1 c2 c3 cd cg cv : Nat) (n m : Int) (w : World) (hs : StW w o1 o2 o3 c1 c2 c3 T P V od cd D og cg G ov cv W) (h1 : syncS T P V dv D G W n m = 0) :
    Calls Tryz.prog 5 #[stV o1 o2 o3 T.length c1 P.length c2 V.length c3 dv od D.length cd og G.length cg ov W.length cv, .int .i64 n, .int .i64 m] w fun e w' => e = .returned (.bool true) ∧ Below w.heap.size w w' := by
  obtain ⟨hc, q, g, rfl, -, hg, -, -, -⟩ := sync_right h1
  obtain ⟨A, rfl, -⟩ := hs.gts q g hg
  have HTa := hide (fun X (h : StW X o1 o2 o3 c1 c2 c3 T P V od cd D (some A) cg G ov cv W) => syncSafe T P V dv D G W o1 o2 o3 od (some A) ov c1 c2 c3 cd cg cv q g m X h h1 hg)
  have HFL := hide (fun P' M V' D' dv' G' (h2 : P' = _) (h3 : V' = _) (h4 : M = _) (h5 : dv' = _) (h6 : D' = _) (h7 : G'.map GT.p = _) => found_lists (G' := G') h1 hg h2 h3 h4 h5 h6 h7)
  obtain ⟨P', hP'⟩ : ∃ P', P' = intoP T P V g.A := ⟨_, rfl⟩
  obtain ⟨V', hV'⟩ : ∃ V', V' = intoV T P V g.A := ⟨_, rfl⟩
  obtain ⟨M, hM'⟩ : ∃ M, M = intoD T P V g.A := ⟨_, rfl⟩
  obtain ⟨dv', hd'⟩ : ∃ d, d = (denA (intoD T P V g.A) dv D).1 := ⟨_, rfl⟩
  obtain ⟨D', hD'⟩ : ∃ d, d = (denA (intoD T P V g.A) dv D).2 := ⟨_, rfl⟩
  rw [← hd', ← hD', ← hP', ← hV', ← hM'] at HTa
  have HFX := hide (fun G' h7 => HFL.out P' M V' D' dv' G' hP' hV' hM' hd' hD' h7)
  have HG := hide hg
  clear HFL hP' hV' hM' hd' hD' hg hc h1
  have HB := hide ((Blks.nil w).more (.cells #[.slice o1 T.length c1, .slice o2 P.length c2, .slice o3 V.length c3, .int .i64 dv, .slice od D.length cd, .slice (some A) G.length cg, .slice ov W.length cv] 32) (by simp))
  have Hw := hide HB.out.2.2
  have OS0 := hide (show _ = _ from HB.out.1 0 _ rfl)
  rw [Nat.add_zero] at OS0
  have HS := hide hs
  clear hs
  have cS0 : (w.alloc (.cells #[.slice o1 T.length c1, .slice o2 P.length c2, .slice o3 V.length c3, .int .i64 dv, .slice od D.length cd, .slice (some A) G.length cg, .slice ov W.length cv] 32)).cell? ⟨w.heap.size, 0, none⟩ = some (.slice o1 T.length c1) := by rw [cell_of_row _ _ 0 _ _ _ OS0.out]; rfl
  have cS1 : (w.alloc (.cells #[.slice o1 T.length c1, .slice o2 P.length c2, .slice o3 V.length c3, .int .i64 dv, .slice od D.length cd, .slice (some A) G.length cg, .slice ov W.length cv] 32)).cell? ⟨w.heap.size, 1, none⟩ = some (.slice o2 P.length c2) := by rw [cell_of_row _ _ 1 _ _ _ OS0.out]; rfl
  have cS2 : (w.alloc (.cells #[.slice o1 T.length c1, .slice o2 P.length c2, .slice o3 V.length c3, .int .i64 dv, .slice od D.length cd, .slice (some A) G.length cg, .slice ov W.length cv] 32)).cell? ⟨w.heap.size, 2, none⟩ = some (.slice o3 V.length c3) := by rw [cell_of_row _ _ 2 _ _ _ OS0.out]; rfl
  have cS3 : (w.alloc (.cells #[.slice o1 T.length c1, .slice o2 P.length c2, .slice o3 V.length c3, .int .i64 dv, .slice od D.length cd, .slice (some A) G.length cg, .slice ov W.length cv] 32)).cell? ⟨w.heap.size, 3, none⟩ = some (.int .i64 dv) := by rw [cell_of_row _ _ 3 _ _ _ OS0.out]; rfl
  have cS4 : (w.alloc (.cells #[.slice o1 T.length c1, .slice o2 P.length c2, .slice o3 V.length c3, .int .i64 dv, .slice od D.length cd, .slice (some A) G.length cg, .slice ov W.length cv] 32)).cell? ⟨w.heap.size, 4, none⟩ = some (.slice od D.length cd) := by rw [cell_of_row _ _ 4 _ _ _ OS0.out]; rfl
  have cS5 : (w.alloc (.cells #[.slice o1 T.length c1, .slice o2 P.length c2, .slice o3 V.length c3, .int .i64 dv, .slice od D.length cd, .slice (some A) G.length cg, .slice ov W.length cv] 32)).cell? ⟨w.heap.size, 5, none⟩ = some (.slice (some A) G.length cg) := by rw [cell_of_row _ _ 5 _ _ _ OS0.out]; rfl
  have cS6 : (w.alloc (.cells #[.slice o1 T.length c1, .slice o2 P.length c2, .slice o3 V.length c3, .int .i64 dv, .slice od D.length cd, .slice (some A) G.length cg, .slice ov W.length cv] 32)).cell? ⟨w.heap.size, 6, none⟩ = some (.slice ov W.length cv) := by rw [cell_of_row _ _ 6 _ _ _ OS0.out]; rfl
  go_enter Tryz.func5, Tryz.ntmps5
  go_wp2_with fail
  generalize (w.alloc (.cells #[.slice o1 T.length c1, .slice o2 P.length c2, .slice o3 V.length c3, .int .i64 dv, .slice od D.length cd, .slice (some A) G.length cg, .slice ov W.length cv] 32)) = w0 at *
  clear HB
  refine (HTa.out _ (HS.out.below Hw.out)).mono ?_
  rintro e w1 ⟨⟨x1, y1, x2, y2, x3, y3, x4, y4, x5, y5, x6, y6, G', ot, ct, rfl, hm, hsa, hTM⟩, hb⟩
  have Bww1 := hide (Hw.out.trans (hb.mono Hw.out.size))
  have OSw1 := hide (at_below OS0.out hb)
  have zww1 : w.heap.size ≤ w1.heap.size := Bww1.out.size
  have lSw1 : w.heap.size < w1.heap.size := (Array.getElem?_eq_some_iff.1 OSw1.out).1
  clear hb Hw OS0
  obtain ⟨hq3, hG3, hG3', hW3, hck, hon, hto, lT, lP, lV, lD, lM, lA, hcd, ⟨g', hg', hgp⟩, hlg, hs2, hag⟩ := HFX.out G' hm
  clear HFX HTa
  obtain ⟨A', rfl, -⟩ := hsa.gts q g' hg'
  obtain ⟨e1, e2, e3, e4⟩ := hag g' hg'
  have hmm : (G'.map GT.p).set q g'.p = G'.map GT.p := by
    refine List.ext_getElem? fun j => ?_
    by_cases hj : j = q
    · subst hj
      rw [List.getElem?_set_self (by rw [List.length_map]; omega), List.getElem?_map, hg']
      rfl
    · rw [List.getElem?_set_ne (fun e => hj e.symm)]
  have HT2 := hide (fun X (h : StW X x1 x2 x3 y1 y2 y3 T P' V' x4 y4 D' (some A') y5 G' x6 y6 W) => syncSafe T P' V' dv' D' G' W x1 x2 x3 x4 (some A') x6 y1 y2 y3 y4 y5 y6 q g' m X h hs2 hg')
  rw [e3] at HT2
  simp only [denA, e1, e2, e4, hmm] at HT2
  have HSA := hide hsa
  have HTM := hide hTM
  have HG' := hide hg'
  have HCK := hide hck
  have HON := hide hon
  have HTO := hide hto
  have HCD := hide hcd
  have HLG := hide hlg
  have HGP := hide hgp
  have HW3 := hide hW3
  have n3 : ((G'.length : Int) != 3) = false := by rw [hG3']; rfl
  have n3a : G'.length ≤ 3 := by omega
  have n3b : 3 ≤ G'.length := by omega
  have hq' : q < G'.length := by omega
  have hq : q < G.length := by omega
  have k1 : decide ((q : Int) < 0) = false := by simp
  have k2 : decide ((G.length : Int) ≤ (q : Int)) = false := by simp; omega
  have k3 : ¬ G.length ≤ q := by omega
  have k4 : decide ((G'.length : Int) ≤ (q : Int)) = false := by simp; omega
  have k5 : ¬ G'.length ≤ q := by omega
  have HF6 := hide (And.intro n3 (And.intro k1 (And.intro k2 (And.intro k3 (And.intro k4 k5)))))
  have HA' : Hid (g'.A = [] ∧ g'.D = D' ∧ g'.v = dv') := hide ⟨congrArg GP.A hgp, congrArg GP.D hgp, congrArg GP.v hgp⟩
  clear hsa hTM hg' hck hon hto hcd hlg hgp hW3 hG3' hG3 e1 e2 e3 e4 hs2 hag hmm hm n3 k1 k2 k3 k4 k5
  clear cS0 cS1 cS2 cS3 cS4 cS5 cS6
  go_wp2_with fail
  have hb := (Below.refl w1.heap.size w1).alloc (Nat.le_refl _) (.cells #[.slice x1 T.length y1, .slice x2 P'.length y2, .slice x3 V'.length y3, .int .i64 dv', .slice x4 D'.length y4, .slice (some A') G'.length y5, .slice x6 W.length y6] 32)
  have OAw1a := hide (heap_alloc_new w1 (.cells #[.slice x1 T.length y1, .slice x2 P'.length y2, .slice x3 V'.length y3, .int .i64 dv', .slice x4 D'.length y4, .slice (some A') G'.length y5, .slice x6 W.length y6] 32))
  have Bww1a := hide (Bww1.out.trans (hb.mono Bww1.out.size))
  have Bw1w1a := hide hb
  have OSw1a := hide (at_below OSw1.out hb)
  clear hb Bww1 OSw1
  generalize (w1.alloc (.cells #[.slice x1 T.length y1, .slice x2 P'.length y2, .slice x3 V'.length y3, .int .i64 dv', .slice x4 D'.length y4, .slice (some A') G'.length y5, .slice x6 W.length y6] 32)) = w1a at *
  have zww1a : w.heap.size ≤ w1a.heap.size := Bww1a.out.size
  have zw1w1a : w1.heap.size ≤ w1a.heap.size := Bw1w1a.out.size
  have lSw1a : w.heap.size < w1a.heap.size := (Array.getElem?_eq_some_iff.1 OSw1a.out).1
  have lAw1a : w1.heap.size < w1a.heap.size := (Array.getElem?_eq_some_iff.1 OAw1a.out).1
  refine (stationBegun_any _).mono ?_
  rintro e w2 ⟨rfl, hb⟩
  have Bww2 := hide (Bww1a.out.trans (hb.mono Bww1a.out.size))
  have Bw1w2 := hide (Bw1w1a.out.trans (hb.mono Bw1w1a.out.size))
  have OSw2 := hide (at_below OSw1a.out hb)
  have OAw2 := hide (at_below OAw1a.out hb)
  have zww2 : w.heap.size ≤ w2.heap.size := Bww2.out.size
  have zw1w2 : w1.heap.size ≤ w2.heap.size := Bw1w2.out.size
  have lSw2 : w.heap.size < w2.heap.size := (Array.getElem?_eq_some_iff.1 OSw2.out).1
  have lAw2 : w1.heap.size < w2.heap.size := (Array.getElem?_eq_some_iff.1 OAw2.out).1
  clear hb Bww1a Bw1w1a OSw1a OAw1a
  go_wp2_with fail
  refine (mergeBegun_any _).mono ?_
  rintro e w3 ⟨rfl, hb⟩
  have Bww3 := hide (Bww2.out.trans (hb.mono Bww2.out.size))
  have Bw1w3 := hide (Bw1w2.out.trans (hb.mono Bw1w2.out.size))
  have OSw3 := hide (at_below OSw2.out hb)
  have OAw3 := hide (at_below OAw2.out hb)
  have zww3 : w.heap.size ≤ w3.heap.size := Bww3.out.size
  have zw1w3 : w1.heap.size ≤ w3.heap.size := Bw1w3.out.size
  have lSw3 : w.heap.size < w3.heap.size := (Array.getElem?_eq_some_iff.1 OSw3.out).1
  have lAw3 : w1.heap.size < w3.heap.size := (Array.getElem?_eq_some_iff.1 OAw3.out).1
  clear hb Bww2 Bw1w2 OSw2 OAw2
  go_wp2_with fail
  refine (deniedBegun_any _).mono ?_
  rintro e w4 ⟨rfl, hb⟩
  have Bww4 := hide (Bww3.out.trans (hb.mono Bww3.out.size))
  have Bw1w4 := hide (Bw1w3.out.trans (hb.mono Bw1w3.out.size))
  have OSw4 := hide (at_below OSw3.out hb)
  have OAw4 := hide (at_below OAw3.out hb)
  have zww4 : w.heap.size ≤ w4.heap.size := Bww4.out.size
  have zw1w4 : w1.heap.size ≤ w4.heap.size := Bw1w4.out.size
  have lSw4 : w.heap.size < w4.heap.size := (Array.getElem?_eq_some_iff.1 OSw4.out).1
  have lAw4 : w1.heap.size < w4.heap.size := (Array.getElem?_eq_some_iff.1 OAw4.out).1
  clear hb Bww3 Bw1w3 OSw3 OAw3
  have cA0 : w4.cell? ⟨w1.heap.size, 0, none⟩ = some (.slice x1 T.length y1) := by rw [cell_of_row _ _ 0 _ _ _ OAw4.out]; rfl
  have cA1 : w4.cell? ⟨w1.heap.size, 1, none⟩ = some (.slice x2 P'.length y2) := by rw [cell_of_row _ _ 1 _ _ _ OAw4.out]; rfl
  have cA2 : w4.cell? ⟨w1.heap.size, 2, none⟩ = some (.slice x3 V'.length y3) := by rw [cell_of_row _ _ 2 _ _ _ OAw4.out]; rfl
  have cA3 : w4.cell? ⟨w1.heap.size, 3, none⟩ = some (.int .i64 dv') := by rw [cell_of_row _ _ 3 _ _ _ OAw4.out]; rfl
  have cA4 : w4.cell? ⟨w1.heap.size, 4, none⟩ = some (.slice x4 D'.length y4) := by rw [cell_of_row _ _ 4 _ _ _ OAw4.out]; rfl
  have cA5 : w4.cell? ⟨w1.heap.size, 5, none⟩ = some (.slice (some A') G'.length y5) := by rw [cell_of_row _ _ 5 _ _ _ OAw4.out]; rfl
  have cA6 : w4.cell? ⟨w1.heap.size, 6, none⟩ = some (.slice x6 W.length y6) := by rw [cell_of_row _ _ 6 _ _ _ OAw4.out]; rfl
  have cS0 : w4.cell? ⟨w.heap.size, 0, none⟩ = some (.slice o1 T.length c1) := by rw [cell_of_row _ _ 0 _ _ _ OSw4.out]; rfl
  have cS1 : w4.cell? ⟨w.heap.size, 1, none⟩ = some (.slice o2 P.length c2) := by rw [cell_of_row _ _ 1 _ _ _ OSw4.out]; rfl
  have cS2 : w4.cell? ⟨w.heap.size, 2, none⟩ = some (.slice o3 V.length c3) := by rw [cell_of_row _ _ 2 _ _ _ OSw4.out]; rfl
  have cS3 : w4.cell? ⟨w.heap.size, 3, none⟩ = some (.int .i64 dv) := by rw [cell_of_row _ _ 3 _ _ _ OSw4.out]; rfl
  have cS4 : w4.cell? ⟨w.heap.size, 4, none⟩ = some (.slice od D.length cd) := by rw [cell_of_row _ _ 4 _ _ _ OSw4.out]; rfl
  have cS5 : w4.cell? ⟨w.heap.size, 5, none⟩ = some (.slice (some A) G.length cg) := by rw [cell_of_row _ _ 5 _ _ _ OSw4.out]; rfl
  have cS6 : w4.cell? ⟨w.heap.size, 6, none⟩ = some (.slice ov W.length cv) := by rw [cell_of_row _ _ 6 _ _ _ OSw4.out]; rfl
  have HSx := hide (HS.out.below Bww4.out)
  have HSAx := hide (HSA.out.below Bw1w4.out)
  obtain ⟨b2, hb2, h82, -, hi2⟩ := HSAx.out.gts q g' HG'.out
  obtain rfl := Option.some.inj hb2
  obtain ⟨-, -, -, d3, d4, d5, -, -⟩ := h82
  clear hb2
  rw [HA'.out.1] at d3
  rw [HA'.out.2.1] at d5 hi2
  rw [HA'.out.2.2] at d4
  have Hi2 := hide hi2
  clear hi2
  obtain ⟨n3, k1, k2, k3, k4, k5⟩ := HF6.out
  have qcA0 := cell_regrown cA0
  have qcA1 := cell_regrown cA1
  have qcA2 := cell_regrown cA2
  have qcA3 := cell_regrown cA3
  have qcA4 := cell_regrown cA4
  have qcA5 := cell_regrown cA5
  have qcA6 := cell_regrown cA6
  have qcS0 := cell_regrown cS0
  have qcS1 := cell_regrown cS1
  have qcS2 := cell_regrown cS2
  have qcS3 := cell_regrown cS3
  have qcS4 := cell_regrown cS4
  have qcS5 := cell_regrown cS5
  have qcS6 := cell_regrown cS6
  have qd3 := cell_regrown d3
  have qd4 := cell_regrown d4
  have qd5 := cell_regrown d5
  have kC : ∀ d os, Calls Tryz.prog 9 #[stV x1 x2 x3 T.length y1 P'.length y2 V'.length y3 dv' x4 D'.length y4 (some A') G'.length y5 x6 W.length y6] (Sort.grow (redrawn w4 d) os) fun e w'' => e = .returned (.int .i64 0) ∧ ∃ p : Regrown, w'' = Sort.grow (redrawn w4 p.d) p.os :=
    fun d os => Calls.regrown_of (by
      have h := HSAx.out.below (below_regrown w4 d os)
      have h2 := stationCheck_any T P' V' dv' D' G' W x1 x2 x3 x4 (some A') x6 y1 y2 y3 y4 y5 y6 _ h.led h.lok h.den.1 h.den.2.1 h.gts h.gok h.vws h.vln
      rw [HCK.out] at h2
      exact h2)
  have kD : ∀ d os, Calls Tryz.prog 25 #[dn dv' g'.od D'.length g'.cd, dn dv' x4 D'.length y4] (Sort.grow (redrawn w4 d) os) fun e w'' => e = .returned (.bool true) ∧ ∃ p : Regrown, w'' = Sort.grow (redrawn w4 p.d) p.os :=
    fun d os => Calls.regrown_of (sameDenied_same dv' D' g'.od x4 g'.cd y4 _ (Hi2.out.below (below_regrown w4 d os)).ats (HSAx.out.below (below_regrown w4 d os)).den.1 (by omega))
  go_wp2_with fail
  refine wp_region_quiet_below (by kernel_rfl) (by kernel_rfl) ?_
  repeat (go_big_quiet_step (first | exact kC _ _ | exact kD _ _))
  refine wpQuiet_nil ?_
  intro _ hw'
  obtain ⟨⟨dq, osq⟩, hw''⟩ := hw'
  subst hw''
  have hb := below_regrown w4 dq osq
  clear qcA0 cA0 qcA1 cA1 qcA2 cA2 qcA3 cA3 qcA4 cA4 qcA5 cA5 qcA6 cA6 qcS0 cS0 qcS1 cS1 qcS2 cS2 qcS3 cS3 qcS4 cS4 qcS5 cS5 qcS6 cS6 qd3 d3 qd4 d4 qd5 d5 kC kD
  have Bww5 := hide (Bww4.out.trans (hb.mono Bww4.out.size))
  have Bw1w5 := hide (Bw1w4.out.trans (hb.mono Bw1w4.out.size))
  have OSw5 := hide (at_below OSw4.out hb)
  have OAw5 := hide (at_below OAw4.out hb)
  clear hb Bww4 Bw1w4 OSw4 OAw4
  generalize (Sort.grow (redrawn w4 dq) osq) = w5 at *
  have zww5 : w.heap.size ≤ w5.heap.size := Bww5.out.size
  have zw1w5 : w1.heap.size ≤ w5.heap.size := Bw1w5.out.size
  have lSw5 : w.heap.size < w5.heap.size := (Array.getElem?_eq_some_iff.1 OSw5.out).1
  have lAw5 : w1.heap.size < w5.heap.size := (Array.getElem?_eq_some_iff.1 OAw5.out).1
  clear HSx HSAx n3 k1 k2 k3 k4 k5 Hi2
  go_wp2_with fail
  go_loopw [10] (fun j wr => ∃ (p : Nat), p ≤ g.A.length ∧ j = .int .i64 p ∧ Hid (Below w5.heap.size w5 wr)) (fun j _ => g.A.length - (intOf j).toNat)
  case atStart => exact ⟨0, by omega, rfl, hide (Below.refl _ _)⟩
  case round =>
    obtain ⟨p, hp, rfl, HR⟩ := hrel
    have hb := HR.out
    obtain ⟨wo, hwo⟩ : ∃ x, x = wr := ⟨_, rfl⟩
    subst hwo
    have Bwwo := hide (Bww5.out.trans (hb.mono Bww5.out.size))
    have Bw1wo := hide (Bw1w5.out.trans (hb.mono Bw1w5.out.size))
    have Bw5wo := hide hb
    have OSwo := hide (at_below OSw5.out hb)
    have OAwo := hide (at_below OAw5.out hb)
    clear hb Bww5 Bw1w5 OSw5 OAw5
    have zwwo : w.heap.size ≤ wo.heap.size := Bwwo.out.size
    have zw1wo : w1.heap.size ≤ wo.heap.size := Bw1wo.out.size
    have zw5wo : w5.heap.size ≤ wo.heap.size := Bw5wo.out.size
    have lSwo : w.heap.size < wo.heap.size := (Array.getElem?_eq_some_iff.1 OSwo.out).1
    have lAwo : w1.heap.size < wo.heap.size := (Array.getElem?_eq_some_iff.1 OAwo.out).1
    clear HR
    have cA0 : wo.cell? ⟨w1.heap.size, 0, none⟩ = some (.slice x1 T.length y1) := by rw [cell_of_row _ _ 0 _ _ _ OAwo.out]; rfl
    have cA1 : wo.cell? ⟨w1.heap.size, 1, none⟩ = some (.slice x2 P'.length y2) := by rw [cell_of_row _ _ 1 _ _ _ OAwo.out]; rfl
    have cA2 : wo.cell? ⟨w1.heap.size, 2, none⟩ = some (.slice x3 V'.length y3) := by rw [cell_of_row _ _ 2 _ _ _ OAwo.out]; rfl
    have cA3 : wo.cell? ⟨w1.heap.size, 3, none⟩ = some (.int .i64 dv') := by rw [cell_of_row _ _ 3 _ _ _ OAwo.out]; rfl
    have cA4 : wo.cell? ⟨w1.heap.size, 4, none⟩ = some (.slice x4 D'.length y4) := by rw [cell_of_row _ _ 4 _ _ _ OAwo.out]; rfl
    have cA5 : wo.cell? ⟨w1.heap.size, 5, none⟩ = some (.slice (some A') G'.length y5) := by rw [cell_of_row _ _ 5 _ _ _ OAwo.out]; rfl
    have cA6 : wo.cell? ⟨w1.heap.size, 6, none⟩ = some (.slice x6 W.length y6) := by rw [cell_of_row _ _ 6 _ _ _ OAwo.out]; rfl
    have cS0 : wo.cell? ⟨w.heap.size, 0, none⟩ = some (.slice o1 T.length c1) := by rw [cell_of_row _ _ 0 _ _ _ OSwo.out]; rfl
    have cS1 : wo.cell? ⟨w.heap.size, 1, none⟩ = some (.slice o2 P.length c2) := by rw [cell_of_row _ _ 1 _ _ _ OSwo.out]; rfl
    have cS2 : wo.cell? ⟨w.heap.size, 2, none⟩ = some (.slice o3 V.length c3) := by rw [cell_of_row _ _ 2 _ _ _ OSwo.out]; rfl
    have cS3 : wo.cell? ⟨w.heap.size, 3, none⟩ = some (.int .i64 dv) := by rw [cell_of_row _ _ 3 _ _ _ OSwo.out]; rfl
    have cS4 : wo.cell? ⟨w.heap.size, 4, none⟩ = some (.slice od D.length cd) := by rw [cell_of_row _ _ 4 _ _ _ OSwo.out]; rfl
    have cS5 : wo.cell? ⟨w.heap.size, 5, none⟩ = some (.slice (some A) G.length cg) := by rw [cell_of_row _ _ 5 _ _ _ OSwo.out]; rfl
    have cS6 : wo.cell? ⟨w.heap.size, 6, none⟩ = some (.slice ov W.length cv) := by rw [cell_of_row _ _ 6 _ _ _ OSwo.out]; rfl
    have HSx := hide (HS.out.below Bwwo.out)
    have HSAx := hide (HSA.out.below Bw1wo.out)
    obtain ⟨b1, hb1, h81, ha1, -⟩ := HSx.out.gts q g HG.out
    obtain rfl := Option.some.inj hb1
    obtain ⟨-, -, -, s3, -, -, -, -⟩ := h81
    clear hb1
    by_cases hgo : p < g.A.length
    · obtain ⟨x, hx⟩ : ∃ x, g.A[p]? = some x := ⟨_, List.getElem?_eq_getElem hgo⟩
      obtain ⟨a, hoa, u0, u1, u2, u3, u4⟩ := ha1.ats p x hx
      have Hcnt := hide (HON.out x (List.mem_of_getElem? hx))
      have hoa' := hide hoa
      rw [hoa] at s3
      clear ha1 hoa hx
      go_upto_region 13 with fail
      clear cA0 cA1 cA2 cA3 cA4 cA5 cA6
      clear cS0 cS1 cS2 cS3 cS4 cS5 cS6
      clear u0 u1 u2 u3 u4 s3
      have hb := (Below.refl wo.heap.size wo).alloc (Nat.le_refl _) (.cells #[.int .i64 x.a, .int .i64 x.g, .int .i64 x.s, .int .i64 x.m, .int .i64 x.z] 58)
      have Opwp := hide (heap_alloc_new wo (.cells #[.int .i64 x.a, .int .i64 x.g, .int .i64 x.s, .int .i64 x.m, .int .i64 x.z] 58))
      have Bwwp := hide (Bwwo.out.trans (hb.mono Bwwo.out.size))
      have Bw1wp := hide (Bw1wo.out.trans (hb.mono Bw1wo.out.size))
      have Bw5wp := hide (Bw5wo.out.trans (hb.mono Bw5wo.out.size))
      have Bwowp := hide hb
      have OSwp := hide (at_below OSwo.out hb)
      have OAwp := hide (at_below OAwo.out hb)
      clear hb Bwwo Bw1wo Bw5wo OSwo OAwo
      generalize (wo.alloc (.cells #[.int .i64 x.a, .int .i64 x.g, .int .i64 x.s, .int .i64 x.m, .int .i64 x.z] 58)) = wp at *
      have zwwp : w.heap.size ≤ wp.heap.size := Bwwp.out.size
      have zw1wp : w1.heap.size ≤ wp.heap.size := Bw1wp.out.size
      have zw5wp : w5.heap.size ≤ wp.heap.size := Bw5wp.out.size
      have zwowp : wo.heap.size ≤ wp.heap.size := Bwowp.out.size
      have lSwp : w.heap.size < wp.heap.size := (Array.getElem?_eq_some_iff.1 OSwp.out).1
      have lAwp : w1.heap.size < wp.heap.size := (Array.getElem?_eq_some_iff.1 OAwp.out).1
      have lpwp : wo.heap.size < wp.heap.size := (Array.getElem?_eq_some_iff.1 Opwp.out).1
      have cA0 : wp.cell? ⟨w1.heap.size, 0, none⟩ = some (.slice x1 T.length y1) := by rw [cell_of_row _ _ 0 _ _ _ OAwp.out]; rfl
      have cA1 : wp.cell? ⟨w1.heap.size, 1, none⟩ = some (.slice x2 P'.length y2) := by rw [cell_of_row _ _ 1 _ _ _ OAwp.out]; rfl
      have cA2 : wp.cell? ⟨w1.heap.size, 2, none⟩ = some (.slice x3 V'.length y3) := by rw [cell_of_row _ _ 2 _ _ _ OAwp.out]; rfl
      have cA3 : wp.cell? ⟨w1.heap.size, 3, none⟩ = some (.int .i64 dv') := by rw [cell_of_row _ _ 3 _ _ _ OAwp.out]; rfl
      have cA4 : wp.cell? ⟨w1.heap.size, 4, none⟩ = some (.slice x4 D'.length y4) := by rw [cell_of_row _ _ 4 _ _ _ OAwp.out]; rfl
      have cA5 : wp.cell? ⟨w1.heap.size, 5, none⟩ = some (.slice (some A') G'.length y5) := by rw [cell_of_row _ _ 5 _ _ _ OAwp.out]; rfl
      have cA6 : wp.cell? ⟨w1.heap.size, 6, none⟩ = some (.slice x6 W.length y6) := by rw [cell_of_row _ _ 6 _ _ _ OAwp.out]; rfl
      have HSy := hide (HSA.out.below Bw1wp.out)
      have HTy := hide (HTM.out.below Bw1wp.out)
      obtain ⟨BL, hBL⟩ : ∃ B, B = P' ++ M := ⟨_, rfl⟩
      have hBl : BL.length ≤ 132 := by rw [hBL, List.length_append]; omega
      rw [← hBL] at Hcnt
      have HBL := hide hBL
      clear hBL
      have HOp : Hid (World.ownsRow (wp.alloc (.cells #[] 58)) wp.heap.size 58 5 (.slice (some ⟨wp.heap.size, 0, none⟩) 0 0) ([] : List TP).length (cellsP [])) := hide (World.ownsRow_made (base := wp.heap.size) (e := 58) (size := 5) wp #[] 0 (by simp) (by decide) rfl)
      have HXp := hide (TapsV.below (HSy.out.led.parts3.2.1) ((Below.refl wp.heap.size wp).alloc (Nat.le_refl _) (.cells #[] 58)))
      go_wp2_with first
        | (at_builtin; refine wpList_append_tapsF rfl _ _ rfl wp.heap.size _ [] rfl HOp.out x2 y2 P' rfl HXp.out (by simp; omega) (by simp) ?_; intro v1 wia hown1 hgrow1; have HB1a := hide (((Below.refl wp.heap.size wp).alloc (Nat.le_refl _) (.cells #[] 58)).grown hgrow1 (by simp) (fun k hk => (HOp.out.lt k hk).1)); have HO1a : Hid (wia.ownsRow wp.heap.size 58 5 v1 P'.length (cellsP P')) := hide hown1; clear hown1 hgrow1)
        | (at_builtin; refine wpList_append_tapsF rfl _ _ rfl wp.heap.size _ P' rfl HO1a.out ot ct M rfl (HTy.out.below HB1a.out) (by omega) (HB1a.out.size) ?_; intro v2 wja hown2 hgrow2; have HBa := hide (HB1a.out.grown hgrow2 HB1a.out.size (fun k hk => (HO1a.out.lt k hk).1)); rw [← HBL.out] at hown2; obtain ⟨oba, cba, rfl, hcba, hnba⟩ := own_sliceB hown2; have HRa := hide (tapsV_own hown2); clear hown2 hgrow2 hcba hnba)
      clear HOp HXp HB1a HO1a HSy HTy
      have hb := HBa.out
      clear cA0 cA1 cA2 cA3 cA4 cA5 cA6
      have Bwwja := hide (Bwwp.out.trans (hb.mono Bwwp.out.size))
      have Bw1wja := hide (Bw1wp.out.trans (hb.mono Bw1wp.out.size))
      have Bw5wja := hide (Bw5wp.out.trans (hb.mono Bw5wp.out.size))
      have Bwowja := hide (Bwowp.out.trans (hb.mono Bwowp.out.size))
      have OSwja := hide (at_below OSwp.out hb)
      have OAwja := hide (at_below OAwp.out hb)
      have Opwja := hide (at_below Opwp.out hb)
      clear hb Bwwp Bw1wp Bw5wp Bwowp OSwp OAwp Opwp
      have zwwja : w.heap.size ≤ wja.heap.size := Bwwja.out.size
      have zw1wja : w1.heap.size ≤ wja.heap.size := Bw1wja.out.size
      have zw5wja : w5.heap.size ≤ wja.heap.size := Bw5wja.out.size
      have zwowja : wo.heap.size ≤ wja.heap.size := Bwowja.out.size
      have lSwja : w.heap.size < wja.heap.size := (Array.getElem?_eq_some_iff.1 OSwja.out).1
      have lAwja : w1.heap.size < wja.heap.size := (Array.getElem?_eq_some_iff.1 OAwja.out).1
      have lpwja : wo.heap.size < wja.heap.size := (Array.getElem?_eq_some_iff.1 Opwja.out).1
      clear HBa
      have cp0 : wja.cell? ⟨wo.heap.size, 0, none⟩ = some (.int .i64 x.a) := by rw [cell_of_row _ _ 0 _ _ _ Opwja.out]; rfl
      have cp1 : wja.cell? ⟨wo.heap.size, 1, none⟩ = some (.int .i64 x.g) := by rw [cell_of_row _ _ 1 _ _ _ Opwja.out]; rfl
      have cp2 : wja.cell? ⟨wo.heap.size, 2, none⟩ = some (.int .i64 x.s) := by rw [cell_of_row _ _ 2 _ _ _ Opwja.out]; rfl
      have cp3 : wja.cell? ⟨wo.heap.size, 3, none⟩ = some (.int .i64 x.m) := by rw [cell_of_row _ _ 3 _ _ _ Opwja.out]; rfl
      have cp4 : wja.cell? ⟨wo.heap.size, 4, none⟩ = some (.int .i64 x.z) := by rw [cell_of_row _ _ 4 _ _ _ Opwja.out]; rfl
      go_loopw [12, 14] (fun n j wr => ∃ (k : Nat), k ≤ BL.length ∧ j = .int .i64 k ∧ n = .int .i64 ((BL.take k).countP (fun y => eqT y x) : Nat) ∧ Hid (Below wja.heap.size wja wr)) (fun _ j _ => BL.length - (intOf j).toNat)
      case atStart => exact ⟨0, Nat.zero_le _, rfl, by simp, hide (Below.refl _ _)⟩
      case round =>
        obtain ⟨k, hk, rfl, rfl, HR⟩ := hrel
        have hb := HR.out
        clear cp0 cp1 cp2 cp3 cp4
        have Bwwr := hide (Bwwja.out.trans (hb.mono Bwwja.out.size))
        have Bw1wr := hide (Bw1wja.out.trans (hb.mono Bw1wja.out.size))
        have Bw5wr := hide (Bw5wja.out.trans (hb.mono Bw5wja.out.size))
        have Bwowr := hide (Bwowja.out.trans (hb.mono Bwowja.out.size))
        have Bwjawr := hide hb
        have OSwr := hide (at_below OSwja.out hb)
        have OAwr := hide (at_below OAwja.out hb)
        have Opwr := hide (at_below Opwja.out hb)
        clear hb Bwwja Bw1wja Bw5wja Bwowja OSwja OAwja Opwja
        have zwwr : w.heap.size ≤ wr.heap.size := Bwwr.out.size
        have zw1wr : w1.heap.size ≤ wr.heap.size := Bw1wr.out.size
        have zw5wr : w5.heap.size ≤ wr.heap.size := Bw5wr.out.size
        have zwowr : wo.heap.size ≤ wr.heap.size := Bwowr.out.size
        have zwjawr : wja.heap.size ≤ wr.heap.size := Bwjawr.out.size
        have lSwr : w.heap.size < wr.heap.size := (Array.getElem?_eq_some_iff.1 OSwr.out).1
        have lAwr : w1.heap.size < wr.heap.size := (Array.getElem?_eq_some_iff.1 OAwr.out).1
        have lpwr : wo.heap.size < wr.heap.size := (Array.getElem?_eq_some_iff.1 Opwr.out).1
        clear HR
        have cp0 : wr.cell? ⟨wo.heap.size, 0, none⟩ = some (.int .i64 x.a) := by rw [cell_of_row _ _ 0 _ _ _ Opwr.out]; rfl
        have cp1 : wr.cell? ⟨wo.heap.size, 1, none⟩ = some (.int .i64 x.g) := by rw [cell_of_row _ _ 1 _ _ _ Opwr.out]; rfl
        have cp2 : wr.cell? ⟨wo.heap.size, 2, none⟩ = some (.int .i64 x.s) := by rw [cell_of_row _ _ 2 _ _ _ Opwr.out]; rfl
        have cp3 : wr.cell? ⟨wo.heap.size, 3, none⟩ = some (.int .i64 x.m) := by rw [cell_of_row _ _ 3 _ _ _ Opwr.out]; rfl
        have cp4 : wr.cell? ⟨wo.heap.size, 4, none⟩ = some (.int .i64 x.z) := by rw [cell_of_row _ _ 4 _ _ _ Opwr.out]; rfl
        by_cases hgk : k < BL.length
        · obtain ⟨y, hy⟩ : ∃ y, BL[k]? = some y := ⟨_, List.getElem?_eq_getElem hgk⟩
          obtain ⟨b, rfl, v0, v1, v2, v3, v4⟩ := (HRa.out.ats.below Bwjawr.out) k y hy
          have hct := count_take BL x k y hy
          have hcl : (BL.take k).countP (fun y => eqT y x) ≤ BL.length := Nat.le_trans List.countP_le_length (by rw [List.length_take]; omega)
          clear hy
          generalize (BL.take k).countP (fun y => eqT y x) = N at *
          have Hct := hide hct
          clear hct
          by_cases hyx : y = x
          · subst hyx
            go_wp2_with fail
            go_region
            go_wp2_with fail
            exact ⟨⟨k + 1, by omega, by simp, by rw [Hct.out, if_pos (eqT_iff.2 rfl)]; simp, hide (Bwjawr.out.drew)⟩, by simp [intOf]; omega⟩
          · have hz : Hid (¬ eqT y x = true) := hide (fun h => hyx (eqT_iff.1 h))
            have hd : ¬ y.a = x.a ∨ (y.a = x.a ∧ ¬ y.g = x.g) ∨ (y.a = x.a ∧ y.g = x.g ∧ ¬ y.s = x.s) ∨ (y.a = x.a ∧ y.g = x.g ∧ y.s = x.s ∧ ¬ y.m = x.m) ∨ (y.a = x.a ∧ y.g = x.g ∧ y.s = x.s ∧ y.m = x.m ∧ ¬ y.z = x.z) := by
              by_cases h1 : y.a = x.a
              · by_cases h2 : y.g = x.g
                · by_cases h3 : y.s = x.s
                  · by_cases h4 : y.m = x.m
                    · by_cases h5 : y.z = x.z
                      · exact absurd (by cases x; cases y; simp_all) hyx
                      · simp [h1, h2, h3, h4, h5]
                    · simp [h1, h2, h3, h4]
                  · simp [h1, h2, h3]
                · simp [h1, h2]
              · simp [h1]
            clear hyx
            rcases hd with e1 | ⟨e1, e2⟩ | ⟨e1, e2, e3⟩ | ⟨e1, e2, e3, e4⟩ | ⟨e1, e2, e3, e4, e5⟩
            all_goals
              go_wp2_with fail
              go_region
              go_wp2_with fail
              exact ⟨⟨k + 1, by omega, by simp, by rw [Hct.out, if_neg hz.out]; simp, hide (Bwjawr.out.drew)⟩, by simp [intOf]; omega⟩
        · obtain rfl : k = BL.length := by omega
          have hN : (BL.take BL.length).countP (fun y => eqT y x) = 1 := by rw [List.take_length]; exact Hcnt.out
          rw [hN]
          clear hN
          go_wp2_with fail
          exact ⟨⟨p + 1, by omega, by simp, Bw5wr⟩, by simp [intOf]; omega⟩
    · clear HSx HSAx ha1
      go_wp2_with fail
      clear cA0 cA1 cA2 cA3 cA4 cA5 cA6
      clear cS0 cS1 cS2 cS3 cS4 cS5 cS6
      clear s3
      go_loopw [15] (fun j wr => ∃ (t : Nat), t ≤ M.length ∧ j = .int .i64 t ∧ Hid (Below wo.heap.size wo wr)) (fun j _ => M.length - (intOf j).toNat)
      case atStart => exact ⟨0, Nat.zero_le _, rfl, hide (Below.refl _ _)⟩
      case round =>
        obtain ⟨t, ht, rfl, HR⟩ := hrel
        have hb := HR.out
        have Bwwr := hide (Bwwo.out.trans (hb.mono Bwwo.out.size))
        have Bw1wr := hide (Bw1wo.out.trans (hb.mono Bw1wo.out.size))
        have Bw5wr := hide (Bw5wo.out.trans (hb.mono Bw5wo.out.size))
        have Bwowr := hide hb
        have OSwr := hide (at_below OSwo.out hb)
        have OAwr := hide (at_below OAwo.out hb)
        clear hb Bwwo Bw1wo Bw5wo OSwo OAwo
        have zwwr : w.heap.size ≤ wr.heap.size := Bwwr.out.size
        have zw1wr : w1.heap.size ≤ wr.heap.size := Bw1wr.out.size
        have zw5wr : w5.heap.size ≤ wr.heap.size := Bw5wr.out.size
        have zwowr : wo.heap.size ≤ wr.heap.size := Bwowr.out.size
        have lSwr : w.heap.size < wr.heap.size := (Array.getElem?_eq_some_iff.1 OSwr.out).1
        have lAwr : w1.heap.size < wr.heap.size := (Array.getElem?_eq_some_iff.1 OAwr.out).1
        clear HR
        have cA0 : wr.cell? ⟨w1.heap.size, 0, none⟩ = some (.slice x1 T.length y1) := by rw [cell_of_row _ _ 0 _ _ _ OAwr.out]; rfl
        have cA1 : wr.cell? ⟨w1.heap.size, 1, none⟩ = some (.slice x2 P'.length y2) := by rw [cell_of_row _ _ 1 _ _ _ OAwr.out]; rfl
        have cA2 : wr.cell? ⟨w1.heap.size, 2, none⟩ = some (.slice x3 V'.length y3) := by rw [cell_of_row _ _ 2 _ _ _ OAwr.out]; rfl
        have cA3 : wr.cell? ⟨w1.heap.size, 3, none⟩ = some (.int .i64 dv') := by rw [cell_of_row _ _ 3 _ _ _ OAwr.out]; rfl
        have cA4 : wr.cell? ⟨w1.heap.size, 4, none⟩ = some (.slice x4 D'.length y4) := by rw [cell_of_row _ _ 4 _ _ _ OAwr.out]; rfl
        have cA5 : wr.cell? ⟨w1.heap.size, 5, none⟩ = some (.slice (some A') G'.length y5) := by rw [cell_of_row _ _ 5 _ _ _ OAwr.out]; rfl
        have cA6 : wr.cell? ⟨w1.heap.size, 6, none⟩ = some (.slice x6 W.length y6) := by rw [cell_of_row _ _ 6 _ _ _ OAwr.out]; rfl
        have HSAx := hide (HSA.out.below Bw1wr.out)
        have HTx := hide (HTM.out.below Bw1wr.out)
        by_cases hgt : t < M.length
        · obtain ⟨y, hy⟩ : ∃ y, M[t]? = some y := ⟨_, List.getElem?_eq_getElem hgt⟩
          obtain ⟨b, rfl, v0, -, -, -, -⟩ := HTx.out.ats t y hy
          obtain ⟨hwi, hway⟩ := HTO.out y (List.mem_of_getElem? hy)
          have HU : Hid (unfD dv' D' y.a = 0) := hide (by rw [unfD_of HCD.out, if_pos hwi])
          have HWay := hide hway
          clear hy hwi hway
          have qcA0 := cell_regrown cA0
          have qcA1 := cell_regrown cA1
          have qcA2 := cell_regrown cA2
          have qcA3 := cell_regrown cA3
          have qcA4 := cell_regrown cA4
          have qcA5 := cell_regrown cA5
          have qcA6 := cell_regrown cA6
          have qv0 := cell_regrown v0
          have kH : ∀ d os, Calls Tryz.prog 26 #[dn dv' x4 D'.length y4, .int .i64 y.a] (Sort.grow (redrawn wr d) os) fun e w'' => e = .returned (.tuple #[.bool (hasI D' y.a), .int .i64 0]) ∧ ∃ p : Regrown, w'' = Sort.grow (redrawn wr p.d) p.os :=
            fun d os => Calls.regrown_of (by
              have h := has_any dv' y.a D' x4 y4 _ (HSAx.out.below (below_regrown wr d os)).den.1 (by omega)
              rw [HU.out, decide_eq_true rfl, Bool.true_and] at h
              exact h)
          go_wp2_with fail
          refine wp_region_quiet_below (by kernel_rfl) (by kernel_rfl) ?_
          repeat (go_big_quiet_step (first | exact kH _ _))
          refine wpQuiet_nil ?_
          intro _ hw'
          obtain ⟨⟨dq, osq⟩, hw''⟩ := hw'
          subst hw''
          have hb := below_regrown wr dq osq
          clear qcA0 cA0 qcA1 cA1 qcA2 cA2 qcA3 cA3 qcA4 cA4 qcA5 cA5 qcA6 cA6 qv0 v0 kH
          have Bwwq := hide (Bwwr.out.trans (hb.mono Bwwr.out.size))
          have Bw1wq := hide (Bw1wr.out.trans (hb.mono Bw1wr.out.size))
          have Bw5wq := hide (Bw5wr.out.trans (hb.mono Bw5wr.out.size))
          have Bwowq := hide (Bwowr.out.trans (hb.mono Bwowr.out.size))
          have OSwq := hide (at_below OSwr.out hb)
          have OAwq := hide (at_below OAwr.out hb)
          clear hb Bwwr Bw1wr Bw5wr Bwowr OSwr OAwr
          generalize (Sort.grow (redrawn wr dq) osq) = wq at *
          have zwwq : w.heap.size ≤ wq.heap.size := Bwwq.out.size
          have zw1wq : w1.heap.size ≤ wq.heap.size := Bw1wq.out.size
          have zw5wq : w5.heap.size ≤ wq.heap.size := Bw5wq.out.size
          have zwowq : wo.heap.size ≤ wq.heap.size := Bwowq.out.size
          have lSwq : w.heap.size < wq.heap.size := (Array.getElem?_eq_some_iff.1 OSwq.out).1
          have lAwq : w1.heap.size < wq.heap.size := (Array.getElem?_eq_some_iff.1 OAwq.out).1
          have cA0 : wq.cell? ⟨w1.heap.size, 0, none⟩ = some (.slice x1 T.length y1) := by rw [cell_of_row _ _ 0 _ _ _ OAwq.out]; rfl
          have cA1 : wq.cell? ⟨w1.heap.size, 1, none⟩ = some (.slice x2 P'.length y2) := by rw [cell_of_row _ _ 1 _ _ _ OAwq.out]; rfl
          have cA2 : wq.cell? ⟨w1.heap.size, 2, none⟩ = some (.slice x3 V'.length y3) := by rw [cell_of_row _ _ 2 _ _ _ OAwq.out]; rfl
          have cA3 : wq.cell? ⟨w1.heap.size, 3, none⟩ = some (.int .i64 dv') := by rw [cell_of_row _ _ 3 _ _ _ OAwq.out]; rfl
          have cA4 : wq.cell? ⟨w1.heap.size, 4, none⟩ = some (.slice x4 D'.length y4) := by rw [cell_of_row _ _ 4 _ _ _ OAwq.out]; rfl
          have cA5 : wq.cell? ⟨w1.heap.size, 5, none⟩ = some (.slice (some A') G'.length y5) := by rw [cell_of_row _ _ 5 _ _ _ OAwq.out]; rfl
          have cA6 : wq.cell? ⟨w1.heap.size, 6, none⟩ = some (.slice x6 W.length y6) := by rw [cell_of_row _ _ 6 _ _ _ OAwq.out]; rfl
          have hcase : hasI D' y.a = true ∨ (hasI D' y.a = false ∧ ¬ D'.length < 12) ∨ (hasI D' y.a = false ∧ D'.length < 12 ∧ ¬ dv' < 999) := by
            have h := HWay.out
            rcases hH : hasI D' y.a with _ | _
            · rw [hH] at h
              simp only [Bool.false_eq_true, false_or] at h
              simp only [Bool.false_eq_true, true_and, false_or]
              omega
            · exact Or.inl rfl
          rcases hcase with h1 | ⟨h1, h2⟩ | ⟨h1, h2, h3⟩
          all_goals
            rw [h1]
            go_wp2_with fail
            exact ⟨⟨t + 1, by omega, by simp, Bwowq⟩, by simp [intOf]; omega⟩
        · clear HTx
          go_wp2_with fail
          refine (HT2.out _ (HSA.out.below Bw1wr.out)).mono ?_
          rintro e wb ⟨⟨z1, t1, z2, t2, z3, t3, z4, t4, z5, t5, z6, t6, G2, ot2, ct2, rfl, hm2, hsb, -⟩, hb⟩
          have Bwwb := hide (Bwwr.out.trans (hb.mono Bwwr.out.size))
          have Bw1wb := hide (Bw1wr.out.trans (hb.mono Bw1wr.out.size))
          have Bw5wb := hide (Bw5wr.out.trans (hb.mono Bw5wr.out.size))
          have Bwowb := hide (Bwowr.out.trans (hb.mono Bwowr.out.size))
          have OSwb := hide (at_below OSwr.out hb)
          have OAwb := hide (at_below OAwr.out hb)
          have zwwb : w.heap.size ≤ wb.heap.size := Bwwb.out.size
          have zw1wb : w1.heap.size ≤ wb.heap.size := Bw1wb.out.size
          have zw5wb : w5.heap.size ≤ wb.heap.size := Bw5wb.out.size
          have zwowb : wo.heap.size ≤ wb.heap.size := Bwowb.out.size
          have lSwb : w.heap.size < wb.heap.size := (Array.getElem?_eq_some_iff.1 OSwb.out).1
          have lAwb : w1.heap.size < wb.heap.size := (Array.getElem?_eq_some_iff.1 OAwb.out).1
          clear hb Bwwr Bw1wr Bw5wr Bwowr OSwr OAwr
          have HSB := hide hsb
          have HM2 := hide hm2
          clear hsb hm2 HSAx
          clear cA0 cA1 cA2 cA3 cA4 cA5 cA6
          have cA0 : wb.cell? ⟨w1.heap.size, 0, none⟩ = some (.slice x1 T.length y1) := by rw [cell_of_row _ _ 0 _ _ _ OAwb.out]; rfl
          have cA1 : wb.cell? ⟨w1.heap.size, 1, none⟩ = some (.slice x2 P'.length y2) := by rw [cell_of_row _ _ 1 _ _ _ OAwb.out]; rfl
          have cA2 : wb.cell? ⟨w1.heap.size, 2, none⟩ = some (.slice x3 V'.length y3) := by rw [cell_of_row _ _ 2 _ _ _ OAwb.out]; rfl
          have cA3 : wb.cell? ⟨w1.heap.size, 3, none⟩ = some (.int .i64 dv') := by rw [cell_of_row _ _ 3 _ _ _ OAwb.out]; rfl
          have cA4 : wb.cell? ⟨w1.heap.size, 4, none⟩ = some (.slice x4 D'.length y4) := by rw [cell_of_row _ _ 4 _ _ _ OAwb.out]; rfl
          have cA5 : wb.cell? ⟨w1.heap.size, 5, none⟩ = some (.slice (some A') G'.length y5) := by rw [cell_of_row _ _ 5 _ _ _ OAwb.out]; rfl
          have cA6 : wb.cell? ⟨w1.heap.size, 6, none⟩ = some (.slice x6 W.length y6) := by rw [cell_of_row _ _ 6 _ _ _ OAwb.out]; rfl
          go_wp2_with fail
          clear cA0 cA1 cA2 cA3 cA4 cA5 cA6
          have hb := (Below.refl wb.heap.size wb).alloc (Nat.le_refl _) (.cells #[.slice z1 T.length t1, .slice z2 P'.length t2, .slice z3 V'.length t3, .int .i64 dv', .slice z4 D'.length t4, .slice z5 G2.length t5, .slice z6 W.length t6] 32)
          have OBwb1 := hide (heap_alloc_new wb (.cells #[.slice z1 T.length t1, .slice z2 P'.length t2, .slice z3 V'.length t3, .int .i64 dv', .slice z4 D'.length t4, .slice z5 G2.length t5, .slice z6 W.length t6] 32))
          have Bwwb1 := hide (Bwwb.out.trans (hb.mono Bwwb.out.size))
          have Bw1wb1 := hide (Bw1wb.out.trans (hb.mono Bw1wb.out.size))
          have Bw5wb1 := hide (Bw5wb.out.trans (hb.mono Bw5wb.out.size))
          have Bwowb1 := hide (Bwowb.out.trans (hb.mono Bwowb.out.size))
          have Bwbwb1 := hide hb
          have OSwb1 := hide (at_below OSwb.out hb)
          have OAwb1 := hide (at_below OAwb.out hb)
          clear hb Bwwb Bw1wb Bw5wb Bwowb OSwb OAwb
          generalize (wb.alloc (.cells #[.slice z1 T.length t1, .slice z2 P'.length t2, .slice z3 V'.length t3, .int .i64 dv', .slice z4 D'.length t4, .slice z5 G2.length t5, .slice z6 W.length t6] 32)) = wb1 at *
          have zwwb1 : w.heap.size ≤ wb1.heap.size := Bwwb1.out.size
          have zw1wb1 : w1.heap.size ≤ wb1.heap.size := Bw1wb1.out.size
          have zw5wb1 : w5.heap.size ≤ wb1.heap.size := Bw5wb1.out.size
          have zwowb1 : wo.heap.size ≤ wb1.heap.size := Bwowb1.out.size
          have zwbwb1 : wb.heap.size ≤ wb1.heap.size := Bwbwb1.out.size
          have lSwb1 : w.heap.size < wb1.heap.size := (Array.getElem?_eq_some_iff.1 OSwb1.out).1
          have lAwb1 : w1.heap.size < wb1.heap.size := (Array.getElem?_eq_some_iff.1 OAwb1.out).1
          have lBwb1 : wb.heap.size < wb1.heap.size := (Array.getElem?_eq_some_iff.1 OBwb1.out).1
          refine (sameStation_same T P' V' dv' D' G' W x1 x2 x3 x4 (some A') x6 y1 y2 y3 y4 y5 y6 z1 z2 z3 z4 z5 z6 t1 t2 t3 t4 t5 t6 G2 _ (HSA.out.below Bw1wb1.out) (HSB.out.below Bwbwb1.out) HM2.out (by omega) (by omega) (by omega) (by omega) (by rw [HW3.out]; decide) (by omega) HLG.out).mono ?_
          rintro e wz ⟨rfl, hb⟩
          have Bwwz := hide (Bwwb1.out.trans (hb.mono Bwwb1.out.size))
          have Bw1wz := hide (Bw1wb1.out.trans (hb.mono Bw1wb1.out.size))
          have Bw5wz := hide (Bw5wb1.out.trans (hb.mono Bw5wb1.out.size))
          have Bwowz := hide (Bwowb1.out.trans (hb.mono Bwowb1.out.size))
          have Bwbwz := hide (Bwbwb1.out.trans (hb.mono Bwbwb1.out.size))
          have OSwz := hide (at_below OSwb1.out hb)
          have OAwz := hide (at_below OAwb1.out hb)
          have OBwz := hide (at_below OBwb1.out hb)
          clear hb Bwwb1 Bw1wb1 Bw5wb1 Bwowb1 Bwbwb1 OSwb1 OAwb1 OBwb1
          have zwwz : w.heap.size ≤ wz.heap.size := Bwwz.out.size
          have zw1wz : w1.heap.size ≤ wz.heap.size := Bw1wz.out.size
          have zw5wz : w5.heap.size ≤ wz.heap.size := Bw5wz.out.size
          have zwowz : wo.heap.size ≤ wz.heap.size := Bwowz.out.size
          have zwbwz : wb.heap.size ≤ wz.heap.size := Bwbwz.out.size
          have lSwz : w.heap.size < wz.heap.size := (Array.getElem?_eq_some_iff.1 OSwz.out).1
          have lAwz : w1.heap.size < wz.heap.size := (Array.getElem?_eq_some_iff.1 OAwz.out).1
          have lBwz : wb.heap.size < wz.heap.size := (Array.getElem?_eq_some_iff.1 OBwz.out).1
          go_wp2_with fail
          go_ret
          exact ⟨rfl, Bwwz.out⟩

end Go.Proofs.YtcjfmbeemdcklaaGreat

/-
  The walk of 'StationFound', whole.
-/
namespace Go.Proofs.YtcjfmbeemdcklaaGreat

open Go.RowKit

theorem stationFound_walk (T : List TK) (P : List TP) (V : List Int) (dv : Int) (D : List Int) (G : List GT) (W : List VW) (o1 o2 o3 od og ov : Option Addr) (c1 c2 c3 cd cg cv : Nat) (n m : Int) (w : World) (hs : StW w o1 o2 o3 c1 c2 c3 T P V od cd D og cg G ov cv W) :
    Calls Tryz.prog 5 #[stV o1 o2 o3 T.length c1 P.length c2 V.length c3 dv od D.length cd og G.length cg ov W.length cv, .int .i64 n, .int .i64 m] w fun e w' => e = .returned (.bool true) ∧ Below w.heap.size w w' := by
  by_cases h : syncS T P V dv D G W n m = 0
  · exact found_ok T P V dv D G W o1 o2 o3 od og ov c1 c2 c3 cd cg cv n m w hs h
  · exact found_bad T P V dv D G W o1 o2 o3 od og ov c1 c2 c3 cd cg cv n m w hs h

end Go.Proofs.YtcjfmbeemdcklaaGreat
