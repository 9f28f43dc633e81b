/-
  Texts joined: Z25.
-/
import Derived.Test.YtcjfmbeemdcklaaGreatPk6
/-
  The walk of 'StationAlone'.
-/
namespace Go.Proofs.YtcjfmbeemdcklaaGreat

open Go.RowKit

theorem sellOne (T : List TK) (P : List TP) (V : List Int) (dv : Int) (D : List Int) (G : List GT) (W : List VW) (o1 o2 o3 od og ov : Option Addr) (c1 c2 c3 cd cg cv : Nat) (i k f t z r : Int) (w : World) (hs : StW w o1 o2 o3 c1 c2 c3 T P V od cd D og cg G ov cv W) :
    Calls Tryz.prog 11 #[stV o1 o2 o3 T.length c1 P.length c2 V.length c3 dv od D.length cd og G.length cg ov W.length cv, tk i k f t z r] w fun e w' => (∃ x1 x2 x3 n1 y1 n2 y2 n3 y3 xv x4 n4 y4 x5 n5 y5 x6 n6 y6, e = .returned (.tuple #[stV x1 x2 x3 n1 y1 n2 y2 n3 y3 xv x4 n4 y4 x5 n5 y5 x6 n6 y6, .int .i64 (sellS T P V dv D G W ⟨i, k, f, t, z, r⟩)]) ∧ (sellS T P V dv D G W ⟨i, k, f, t, z, r⟩ = 0 → n1 = T.length + 1)) ∧ Below w.heap.size w w' := by
  refine (stationSell_any T P V dv D G W o1 o2 o3 od og ov c1 c2 c3 cd cg cv i k f t z r w hs).mono ?_
  rintro e w' ⟨⟨v, rfl, h1, h2⟩, hb⟩
  refine ⟨?_, hb⟩
  by_cases h0 : sellS T P V dv D G W ⟨i, k, f, t, z, r⟩ = 0
  · obtain ⟨G', -, hr⟩ := h2 h0
    obtain ⟨x1, y1, x2, y2, x3, y3, x4, y4, x5, y5, x6, y6, rfl, -⟩ := hr.of
    exact ⟨_, _, _, _, _, _, _, _, _, _, _, _, _, _, _, _, _, _, _, rfl, fun _ => soldT_len⟩
  · exact ⟨_, _, _, _, _, _, _, _, _, _, _, _, _, _, _, _, _, _, _, by rw [h1 h0], fun h => absurd h h0⟩

theorem syncOne (T : List TK) (P : List TP) (V : List Int) (dv : Int) (D : List Int) (G : List GT) (W : List VW) (o1 o2 o3 od og ov : Option Addr) (c1 c2 c3 cd cg cv : Nat) (n m : Int) (w : World) (hs : StW w o1 o2 o3 c1 c2 c3 T P V od cd D og cg G ov cv W) :
    Calls Tryz.prog 12 #[stV o1 o2 o3 T.length c1 P.length c2 V.length c3 dv od D.length cd og G.length cg ov W.length cv, .int .i64 n, .int .i64 m] w fun e w' => (∃ x1 x2 x3 n1 y1 n2 y2 n3 y3 xv x4 n4 y4 x5 n5 y5 x6 n6 y6 o l c, e = .returned (.tuple #[stV x1 x2 x3 n1 y1 n2 y2 n3 y3 xv x4 n4 y4 x5 n5 y5 x6 n6 y6, .slice o l c, .int .i64 (syncS T P V dv D G W n m)])) ∧ Below w.heap.size w w' := by
  refine (stationSync_any T P V dv D G W o1 o2 o3 od og ov c1 c2 c3 cd cg cv n m w hs).mono ?_
  rintro e w' ⟨⟨v, E, M, o, c, hE, -, rfl, -, h1, h2⟩, hb⟩
  refine ⟨?_, hb⟩
  rw [← hE]
  by_cases h0 : E = 0
  · obtain ⟨G', -, hr⟩ := h2 h0
    obtain ⟨x1, y1, x2, y2, x3, y3, x4, y4, x5, y5, x6, y6, rfl, -⟩ := hr.of
    exact ⟨_, _, _, _, _, _, _, _, _, _, _, _, _, _, _, _, _, _, _, _, _, _, rfl⟩
  · exact ⟨_, _, _, _, _, _, _, _, _, _, _, _, _, _, _, _, _, _, _, _, _, _, by rw [h1 h0]⟩

theorem tapOne (T : List TK) (P : List TP) (V : List Int) (dv : Int) (D : List Int) (G : List GT) (W : List VW) (o1 o2 o3 od og ov : Option Addr) (c1 c2 c3 cd cg cv : Nat) (id n m : Int) (w : World) (hs : StW w o1 o2 o3 c1 c2 c3 T P V od cd D og cg G ov cv W) :
    Calls Tryz.prog 13 #[stV o1 o2 o3 T.length c1 P.length c2 V.length c3 dv od D.length cd og G.length cg ov W.length cv, .int .i64 id, .int .i64 n, .int .i64 m] w fun e w' => (∃ x1 x2 x3 n1 y1 n2 y2 n3 y3 xv x4 n4 y4 x5 n5 y5 x6 n6 y6, e = .returned (.tuple #[stV x1 x2 x3 n1 y1 n2 y2 n3 y3 xv x4 n4 y4 x5 n5 y5 x6 n6 y6, .int .i64 (tapS T P V dv D G W id n m).1, .int .i64 (tapS T P V dv D G W id n m).2])) ∧ Below w.heap.size w w' := by
  refine (stationTap_any T P V dv D G W o1 o2 o3 od og ov c1 c2 c3 cd cg cv id n m w hs).mono ?_
  rintro e w' ⟨⟨v, R, hR, rfl, h1, h2⟩, hb⟩
  refine ⟨?_, hb⟩
  rw [← hR]
  by_cases h0 : R.2 = 0
  · obtain ⟨G', -, hr⟩ := h2 h0
    obtain ⟨x1, y1, x2, y2, x3, y3, x4, y4, x5, y5, x6, y6, rfl, -⟩ := hr.of
    exact ⟨_, _, _, _, _, _, _, _, _, _, _, _, _, _, _, _, _, _, _, rfl⟩
  · exact ⟨_, _, _, _, _, _, _, _, _, _, _, _, _, _, _, _, _, _, _, by rw [h1 h0]⟩

set_option maxHeartbeats 12800000 in
set_option maxRecDepth 100000 in
theorem alone_bad (T : List TK) (P : List TP) (V : List Int) (dv : Int) (D : List Int) (G : List GT) (W : List VW) (o1 o2 o3 od og ov : Option Addr) (c1 c2 c3 cd cg cv : Nat) (i k f t z r n m : Int) (w : World) (hs : StW w o1 o2 o3 c1 c2 c3 T P V od cd D og cg G ov cv W) (h0 : chkS T P V dv D G W ≠ 0) :
    Calls Tryz.prog 3 #[stV o1 o2 o3 T.length c1 P.length c2 V.length c3 dv od D.length cd og G.length cg ov W.length cv, tk i k f t z r, .int .i64 n, .int .i64 m] w fun e w' => e = .returned (.bool true) ∧ Below w.heap.size w w' := by
  have HCk := hide (fun X (h : StW X o1 o2 o3 c1 c2 c3 T P V od cd D og cg G ov cv W) => stationCheck_any T P V dv D G W o1 o2 o3 od og ov c1 c2 c3 cd cg cv X h.led h.lok h.den.1 h.den.2.1 h.gts h.gok h.vws h.vln)
  have h1 : (chkS T P V dv D G W != 0) = true := by simpa using h0
  clear h0
  generalize chkS T P V dv D G W = E at *
  have HB := hide (((Blks.nil w).more (.cells #[.slice o1 T.length c1, .slice o2 P.length c2, .slice o3 V.length c3, .int .i64 dv, .slice od D.length cd, .slice og G.length cg, .slice ov W.length cv] 32) (by simp)).more (.cells #[.int .i64 i, .int .i64 k, .int .i64 f, .int .i64 t, .int .i64 z, .int .i64 r] 34) (by simp))
  have Hw := hide HB.out.2.2
  have OS0 := hide (show _ = _ from HB.out.1 0 _ rfl)
  have OK0 := hide (show _ = _ from HB.out.1 1 _ rfl)
  rw [Nat.add_zero] at OS0
  have HS := hide hs
  clear hs
  go_enter Tryz.func3, Tryz.ntmps3
  go_wp2_with fail
  generalize ((w.alloc (.cells #[.slice o1 T.length c1, .slice o2 P.length c2, .slice o3 V.length c3, .int .i64 dv, .slice od D.length cd, .slice og G.length cg, .slice ov W.length cv] 32)).alloc (.cells #[.int .i64 i, .int .i64 k, .int .i64 f, .int .i64 t, .int .i64 z, .int .i64 r] 34)) = w0 at *
  clear HB
  refine (stationBegun_any _).mono ?_
  rintro e w1 ⟨rfl, hb⟩
  have Bww1 := hide (Hw.out.trans (hb.mono Hw.out.size))
  have OSw1 := hide (at_below OS0.out hb)
  have OKw1 := hide (at_below OK0.out hb)
  have zww1 : w.heap.size ≤ w1.heap.size := Bww1.out.size
  have lSw1 : w.heap.size < w1.heap.size := (Array.getElem?_eq_some_iff.1 OSw1.out).1
  have lKw1 : (w.heap.size + 1) < w1.heap.size := (Array.getElem?_eq_some_iff.1 OKw1.out).1
  clear hb Hw OS0 OK0
  go_wp2_with fail
  refine (leadBegun_any _).mono ?_
  rintro e w2 ⟨rfl, hb⟩
  have Bww2 := hide (Bww1.out.trans (hb.mono Bww1.out.size))
  have OSw2 := hide (at_below OSw1.out hb)
  have OKw2 := hide (at_below OKw1.out hb)
  have zww2 : w.heap.size ≤ w2.heap.size := Bww2.out.size
  have lSw2 : w.heap.size < w2.heap.size := (Array.getElem?_eq_some_iff.1 OSw2.out).1
  have lKw2 : (w.heap.size + 1) < w2.heap.size := (Array.getElem?_eq_some_iff.1 OKw2.out).1
  clear hb Bww1 OSw1 OKw1
  have cS0 : w2.cell? ⟨w.heap.size, 0, none⟩ = some (.slice o1 T.length c1) := by rw [cell_of_row _ _ 0 _ _ _ OSw2.out]; rfl
  have cS1 : w2.cell? ⟨w.heap.size, 1, none⟩ = some (.slice o2 P.length c2) := by rw [cell_of_row _ _ 1 _ _ _ OSw2.out]; rfl
  have cS2 : w2.cell? ⟨w.heap.size, 2, none⟩ = some (.slice o3 V.length c3) := by rw [cell_of_row _ _ 2 _ _ _ OSw2.out]; rfl
  have cS3 : w2.cell? ⟨w.heap.size, 3, none⟩ = some (.int .i64 dv) := by rw [cell_of_row _ _ 3 _ _ _ OSw2.out]; rfl
  have cS4 : w2.cell? ⟨w.heap.size, 4, none⟩ = some (.slice od D.length cd) := by rw [cell_of_row _ _ 4 _ _ _ OSw2.out]; rfl
  have cS5 : w2.cell? ⟨w.heap.size, 5, none⟩ = some (.slice og G.length cg) := by rw [cell_of_row _ _ 5 _ _ _ OSw2.out]; rfl
  have cS6 : w2.cell? ⟨w.heap.size, 6, none⟩ = some (.slice ov W.length cv) := by rw [cell_of_row _ _ 6 _ _ _ OSw2.out]; rfl
  go_wp2_with fail
  refine (HCk.out _ (HS.out.below Bww2.out)).mono ?_
  rintro e w3 ⟨rfl, hb⟩
  have Bww3 := hide (Bww2.out.trans (hb.mono Bww2.out.size))
  have OSw3 := hide (at_below OSw2.out hb)
  have OKw3 := hide (at_below OKw2.out hb)
  have zww3 : w.heap.size ≤ w3.heap.size := Bww3.out.size
  have lSw3 : w.heap.size < w3.heap.size := (Array.getElem?_eq_some_iff.1 OSw3.out).1
  have lKw3 : (w.heap.size + 1) < w3.heap.size := (Array.getElem?_eq_some_iff.1 OKw3.out).1
  clear hb Bww2 OSw2 OKw2
  clear cS0 cS1 cS2 cS3 cS4 cS5 cS6
  go_wp2_with fail
  go_ret
  exact ⟨rfl, Bww3.out⟩

set_option maxHeartbeats 12800000 in
set_option maxRecDepth 100000 in
theorem alone_low (T : List TK) (P : List TP) (V : List Int) (dv : Int) (D : List Int) (G : List GT) (W : List VW) (o1 o2 o3 od og ov : Option Addr) (c1 c2 c3 cd cg cv : Nat) (i k f t z r n m : Int) (w : World) (hs : StW w o1 o2 o3 c1 c2 c3 T P V od cd D og cg G ov cv W) (h0 : chkS T P V dv D G W = 0) (hn : n < 0) :
    Calls Tryz.prog 3 #[stV o1 o2 o3 T.length c1 P.length c2 V.length c3 dv od D.length cd og G.length cg ov W.length cv, tk i k f t z r, .int .i64 n, .int .i64 m] w fun e w' => e = .returned (.bool true) ∧ Below w.heap.size w w' := by
  have HCk := hide (fun X (h : StW X o1 o2 o3 c1 c2 c3 T P V od cd D og cg G ov cv W) => stationCheck_any T P V dv D G W o1 o2 o3 od og ov c1 c2 c3 cd cg cv X h.led h.lok h.den.1 h.den.2.1 h.gts h.gok h.vws h.vln)
  rw [h0] at HCk
  clear h0
  have HB := hide (((Blks.nil w).more (.cells #[.slice o1 T.length c1, .slice o2 P.length c2, .slice o3 V.length c3, .int .i64 dv, .slice od D.length cd, .slice og G.length cg, .slice ov W.length cv] 32) (by simp)).more (.cells #[.int .i64 i, .int .i64 k, .int .i64 f, .int .i64 t, .int .i64 z, .int .i64 r] 34) (by simp))
  have Hw := hide HB.out.2.2
  have OS0 := hide (show _ = _ from HB.out.1 0 _ rfl)
  have OK0 := hide (show _ = _ from HB.out.1 1 _ rfl)
  rw [Nat.add_zero] at OS0
  have HS := hide hs
  clear hs
  go_enter Tryz.func3, Tryz.ntmps3
  go_wp2_with fail
  generalize ((w.alloc (.cells #[.slice o1 T.length c1, .slice o2 P.length c2, .slice o3 V.length c3, .int .i64 dv, .slice od D.length cd, .slice og G.length cg, .slice ov W.length cv] 32)).alloc (.cells #[.int .i64 i, .int .i64 k, .int .i64 f, .int .i64 t, .int .i64 z, .int .i64 r] 34)) = w0 at *
  clear HB
  refine (stationBegun_any _).mono ?_
  rintro e w1 ⟨rfl, hb⟩
  have Bww1 := hide (Hw.out.trans (hb.mono Hw.out.size))
  have OSw1 := hide (at_below OS0.out hb)
  have OKw1 := hide (at_below OK0.out hb)
  have zww1 : w.heap.size ≤ w1.heap.size := Bww1.out.size
  have lSw1 : w.heap.size < w1.heap.size := (Array.getElem?_eq_some_iff.1 OSw1.out).1
  have lKw1 : (w.heap.size + 1) < w1.heap.size := (Array.getElem?_eq_some_iff.1 OKw1.out).1
  clear hb Hw OS0 OK0
  go_wp2_with fail
  refine (leadBegun_any _).mono ?_
  rintro e w2 ⟨rfl, hb⟩
  have Bww2 := hide (Bww1.out.trans (hb.mono Bww1.out.size))
  have OSw2 := hide (at_below OSw1.out hb)
  have OKw2 := hide (at_below OKw1.out hb)
  have zww2 : w.heap.size ≤ w2.heap.size := Bww2.out.size
  have lSw2 : w.heap.size < w2.heap.size := (Array.getElem?_eq_some_iff.1 OSw2.out).1
  have lKw2 : (w.heap.size + 1) < w2.heap.size := (Array.getElem?_eq_some_iff.1 OKw2.out).1
  clear hb Bww1 OSw1 OKw1
  have cS0 : w2.cell? ⟨w.heap.size, 0, none⟩ = some (.slice o1 T.length c1) := by rw [cell_of_row _ _ 0 _ _ _ OSw2.out]; rfl
  have cS1 : w2.cell? ⟨w.heap.size, 1, none⟩ = some (.slice o2 P.length c2) := by rw [cell_of_row _ _ 1 _ _ _ OSw2.out]; rfl
  have cS2 : w2.cell? ⟨w.heap.size, 2, none⟩ = some (.slice o3 V.length c3) := by rw [cell_of_row _ _ 2 _ _ _ OSw2.out]; rfl
  have cS3 : w2.cell? ⟨w.heap.size, 3, none⟩ = some (.int .i64 dv) := by rw [cell_of_row _ _ 3 _ _ _ OSw2.out]; rfl
  have cS4 : w2.cell? ⟨w.heap.size, 4, none⟩ = some (.slice od D.length cd) := by rw [cell_of_row _ _ 4 _ _ _ OSw2.out]; rfl
  have cS5 : w2.cell? ⟨w.heap.size, 5, none⟩ = some (.slice og G.length cg) := by rw [cell_of_row _ _ 5 _ _ _ OSw2.out]; rfl
  have cS6 : w2.cell? ⟨w.heap.size, 6, none⟩ = some (.slice ov W.length cv) := by rw [cell_of_row _ _ 6 _ _ _ OSw2.out]; rfl
  go_wp2_with fail
  refine (HCk.out _ (HS.out.below Bww2.out)).mono ?_
  rintro e w3 ⟨rfl, hb⟩
  have Bww3 := hide (Bww2.out.trans (hb.mono Bww2.out.size))
  have OSw3 := hide (at_below OSw2.out hb)
  have OKw3 := hide (at_below OKw2.out hb)
  have zww3 : w.heap.size ≤ w3.heap.size := Bww3.out.size
  have lSw3 : w.heap.size < w3.heap.size := (Array.getElem?_eq_some_iff.1 OSw3.out).1
  have lKw3 : (w.heap.size + 1) < w3.heap.size := (Array.getElem?_eq_some_iff.1 OKw3.out).1
  clear hb Bww2 OSw2 OKw2
  clear cS0 cS1 cS2 cS3 cS4 cS5 cS6
  go_wp2_with fail
  go_ret
  exact ⟨rfl, Bww3.out⟩

set_option maxHeartbeats 12800000 in
set_option maxRecDepth 100000 in
theorem alone_high (T : List TK) (P : List TP) (V : List Int) (dv : Int) (D : List Int) (G : List GT) (W : List VW) (o1 o2 o3 od og ov : Option Addr) (c1 c2 c3 cd cg cv : Nat) (i k f t z r n m : Int) (w : World) (hs : StW w o1 o2 o3 c1 c2 c3 T P V od cd D og cg G ov cv W) (h0 : chkS T P V dv D G W = 0) (hn : 3 ≤ n) :
    Calls Tryz.prog 3 #[stV o1 o2 o3 T.length c1 P.length c2 V.length c3 dv od D.length cd og G.length cg ov W.length cv, tk i k f t z r, .int .i64 n, .int .i64 m] w fun e w' => e = .returned (.bool true) ∧ Below w.heap.size w w' := by
  have HCk := hide (fun X (h : StW X o1 o2 o3 c1 c2 c3 T P V od cd D og cg G ov cv W) => stationCheck_any T P V dv D G W o1 o2 o3 od og ov c1 c2 c3 cd cg cv X h.led h.lok h.den.1 h.den.2.1 h.gts h.gok h.vws h.vln)
  rw [h0] at HCk
  clear h0
  have hn' : 0 ≤ n := by omega
  have HB := hide (((Blks.nil w).more (.cells #[.slice o1 T.length c1, .slice o2 P.length c2, .slice o3 V.length c3, .int .i64 dv, .slice od D.length cd, .slice og G.length cg, .slice ov W.length cv] 32) (by simp)).more (.cells #[.int .i64 i, .int .i64 k, .int .i64 f, .int .i64 t, .int .i64 z, .int .i64 r] 34) (by simp))
  have Hw := hide HB.out.2.2
  have OS0 := hide (show _ = _ from HB.out.1 0 _ rfl)
  have OK0 := hide (show _ = _ from HB.out.1 1 _ rfl)
  rw [Nat.add_zero] at OS0
  have HS := hide hs
  clear hs
  go_enter Tryz.func3, Tryz.ntmps3
  go_wp2_with fail
  generalize ((w.alloc (.cells #[.slice o1 T.length c1, .slice o2 P.length c2, .slice o3 V.length c3, .int .i64 dv, .slice od D.length cd, .slice og G.length cg, .slice ov W.length cv] 32)).alloc (.cells #[.int .i64 i, .int .i64 k, .int .i64 f, .int .i64 t, .int .i64 z, .int .i64 r] 34)) = w0 at *
  clear HB
  refine (stationBegun_any _).mono ?_
  rintro e w1 ⟨rfl, hb⟩
  have Bww1 := hide (Hw.out.trans (hb.mono Hw.out.size))
  have OSw1 := hide (at_below OS0.out hb)
  have OKw1 := hide (at_below OK0.out hb)
  have zww1 : w.heap.size ≤ w1.heap.size := Bww1.out.size
  have lSw1 : w.heap.size < w1.heap.size := (Array.getElem?_eq_some_iff.1 OSw1.out).1
  have lKw1 : (w.heap.size + 1) < w1.heap.size := (Array.getElem?_eq_some_iff.1 OKw1.out).1
  clear hb Hw OS0 OK0
  go_wp2_with fail
  refine (leadBegun_any _).mono ?_
  rintro e w2 ⟨rfl, hb⟩
  have Bww2 := hide (Bww1.out.trans (hb.mono Bww1.out.size))
  have OSw2 := hide (at_below OSw1.out hb)
  have OKw2 := hide (at_below OKw1.out hb)
  have zww2 : w.heap.size ≤ w2.heap.size := Bww2.out.size
  have lSw2 : w.heap.size < w2.heap.size := (Array.getElem?_eq_some_iff.1 OSw2.out).1
  have lKw2 : (w.heap.size + 1) < w2.heap.size := (Array.getElem?_eq_some_iff.1 OKw2.out).1
  clear hb Bww1 OSw1 OKw1
  have cS0 : w2.cell? ⟨w.heap.size, 0, none⟩ = some (.slice o1 T.length c1) := by rw [cell_of_row _ _ 0 _ _ _ OSw2.out]; rfl
  have cS1 : w2.cell? ⟨w.heap.size, 1, none⟩ = some (.slice o2 P.length c2) := by rw [cell_of_row _ _ 1 _ _ _ OSw2.out]; rfl
  have cS2 : w2.cell? ⟨w.heap.size, 2, none⟩ = some (.slice o3 V.length c3) := by rw [cell_of_row _ _ 2 _ _ _ OSw2.out]; rfl
  have cS3 : w2.cell? ⟨w.heap.size, 3, none⟩ = some (.int .i64 dv) := by rw [cell_of_row _ _ 3 _ _ _ OSw2.out]; rfl
  have cS4 : w2.cell? ⟨w.heap.size, 4, none⟩ = some (.slice od D.length cd) := by rw [cell_of_row _ _ 4 _ _ _ OSw2.out]; rfl
  have cS5 : w2.cell? ⟨w.heap.size, 5, none⟩ = some (.slice og G.length cg) := by rw [cell_of_row _ _ 5 _ _ _ OSw2.out]; rfl
  have cS6 : w2.cell? ⟨w.heap.size, 6, none⟩ = some (.slice ov W.length cv) := by rw [cell_of_row _ _ 6 _ _ _ OSw2.out]; rfl
  go_wp2_with fail
  refine (HCk.out _ (HS.out.below Bww2.out)).mono ?_
  rintro e w3 ⟨rfl, hb⟩
  have Bww3 := hide (Bww2.out.trans (hb.mono Bww2.out.size))
  have OSw3 := hide (at_below OSw2.out hb)
  have OKw3 := hide (at_below OKw2.out hb)
  have zww3 : w.heap.size ≤ w3.heap.size := Bww3.out.size
  have lSw3 : w.heap.size < w3.heap.size := (Array.getElem?_eq_some_iff.1 OSw3.out).1
  have lKw3 : (w.heap.size + 1) < w3.heap.size := (Array.getElem?_eq_some_iff.1 OKw3.out).1
  clear hb Bww2 OSw2 OKw2
  clear cS0 cS1 cS2 cS3 cS4 cS5 cS6
  go_wp2_with fail
  go_ret
  exact ⟨rfl, Bww3.out⟩

set_option maxHeartbeats 12800000 in
set_option maxRecDepth 100000 in
theorem alone_off (T : List TK) (P : List TP) (V : List Int) (dv : Int) (D : List Int) (G : List GT) (W : List VW) (o1 o2 o3 od og ov : Option Addr) (c1 c2 c3 cd cg cv : Nat) (i k f t z r n m : Int) (w : World) (hs : StW w o1 o2 o3 c1 c2 c3 T P V od cd D og cg G ov cv W) (h0 : chkS T P V dv D G W = 0) (hn : 0 ≤ n) (hn3 : n < 3) (hw : nowB W = false) :
    Calls Tryz.prog 3 #[stV o1 o2 o3 T.length c1 P.length c2 V.length c3 dv od D.length cd og G.length cg ov W.length cv, tk i k f t z r, .int .i64 n, .int .i64 m] w fun e w' => e = .returned (.bool true) ∧ Below w.heap.size w w' := by
  have HCk := hide (fun X (h : StW X o1 o2 o3 c1 c2 c3 T P V od cd D og cg G ov cv W) => stationCheck_any T P V dv D G W o1 o2 o3 od og ov c1 c2 c3 cd cg cv X h.led h.lok h.den.1 h.den.2.1 h.gts h.gok h.vws h.vln)
  rw [h0] at HCk
  have hG3 : G.length = 3 := (chkS_right h0).2.2.1
  have hW0 : chkVs W = 0 := (chkS_right h0).2.2.2.2.1
  have hT12 : T.length ≤ 12 := (chkL_right (chkS_right h0).1).1
  obtain ⟨q, rfl⟩ : ∃ q : Nat, n = q := ⟨n.toNat, by omega⟩
  have hq : q < G.length := by omega
  obtain ⟨g, hg⟩ : ∃ g, G[q]? = some g := ⟨_, List.getElem?_eq_getElem hq⟩
  obtain ⟨A, rfl, -⟩ := hs.gts q g hg
  have hgA : g.A.length ≤ 9223372036854775807 := (hs.gok g (List.mem_of_getElem? hg)).1
  have HN := hide (fun X (h : StW X o1 o2 o3 c1 c2 c3 T P V od cd D (some A) cg G ov cv W) => now_any ov cv W X h.vws h.vln)
  rw [hW0] at HN
  have HSe := hide (fun X (h : StW X o1 o2 o3 c1 c2 c3 T P V od cd D (some A) cg G ov cv W) => sellOne T P V dv D G W o1 o2 o3 od (some A) ov c1 c2 c3 cd cg cv i k f t z r X h)
  have HSy := hide (fun X (h : StW X o1 o2 o3 c1 c2 c3 T P V od cd D (some A) cg G ov cv W) => syncOne T P V dv D G W o1 o2 o3 od (some A) ov c1 c2 c3 cd cg cv q m X h)
  have HTa := hide (fun X (h : StW X o1 o2 o3 c1 c2 c3 T P V od cd D (some A) cg G ov cv W) => tapOne T P V dv D G W o1 o2 o3 od (some A) ov c1 c2 c3 cd cg cv i q m X h)
  have HGt := hide (fun X (h : StW X o1 o2 o3 c1 c2 c3 T P V od cd D (some A) cg G ov cv W) => h.gts q g hg)
  have h3' : ((G.length : Int) != 3) = false := by rw [hG3]; rfl
  have h3a : G.length ≤ 3 := by omega
  have h3b : 3 ≤ G.length := by omega
  rw [hw] at HN
  have e1 := off_sell (T := T) (P := P) (V := V) (dv := dv) (D := D) h0 hw ⟨i, k, f, t, z, r⟩
  have e2 := off_sync (T := T) (P := P) (V := V) (dv := dv) (D := D) h0 hw (n := (q : Int)) m (by omega) (by omega)
  have e3 := off_tap (T := T) (P := P) (V := V) (dv := dv) (D := D) h0 hw (n := (q : Int)) i m (by omega) (by omega)
  clear hw hn hn3
  generalize nowI W = nI at *
  generalize sellS T P V dv D G W ⟨i, k, f, t, z, r⟩ = E1 at *
  generalize syncS T P V dv D G W (q : Int) m = E2 at *
  generalize tapS T P V dv D G W i (q : Int) m = R at *
  obtain ⟨R1, R2⟩ := R
  clear hG3 hW0 h0
  subst e1 e2 e3
  have HB := hide (((Blks.nil w).more (.cells #[.slice o1 T.length c1, .slice o2 P.length c2, .slice o3 V.length c3, .int .i64 dv, .slice od D.length cd, .slice (some A) G.length cg, .slice ov W.length cv] 32) (by simp)).more (.cells #[.int .i64 i, .int .i64 k, .int .i64 f, .int .i64 t, .int .i64 z, .int .i64 r] 34) (by simp))
  have Hw := hide HB.out.2.2
  have OS0 := hide (show _ = _ from HB.out.1 0 _ rfl)
  have OK0 := hide (show _ = _ from HB.out.1 1 _ rfl)
  rw [Nat.add_zero] at OS0
  have HS := hide hs
  clear hs
  go_enter Tryz.func3, Tryz.ntmps3
  go_wp2_with fail
  generalize ((w.alloc (.cells #[.slice o1 T.length c1, .slice o2 P.length c2, .slice o3 V.length c3, .int .i64 dv, .slice od D.length cd, .slice (some A) G.length cg, .slice ov W.length cv] 32)).alloc (.cells #[.int .i64 i, .int .i64 k, .int .i64 f, .int .i64 t, .int .i64 z, .int .i64 r] 34)) = w0 at *
  clear HB
  refine (stationBegun_any _).mono ?_
  rintro e w1 ⟨rfl, hb⟩
  have Bww1 := hide (Hw.out.trans (hb.mono Hw.out.size))
  have OSw1 := hide (at_below OS0.out hb)
  have OKw1 := hide (at_below OK0.out hb)
  have zww1 : w.heap.size ≤ w1.heap.size := Bww1.out.size
  have lSw1 : w.heap.size < w1.heap.size := (Array.getElem?_eq_some_iff.1 OSw1.out).1
  have lKw1 : (w.heap.size + 1) < w1.heap.size := (Array.getElem?_eq_some_iff.1 OKw1.out).1
  clear hb Hw OS0 OK0
  go_wp2_with fail
  refine (leadBegun_any _).mono ?_
  rintro e w2 ⟨rfl, hb⟩
  have Bww2 := hide (Bww1.out.trans (hb.mono Bww1.out.size))
  have OSw2 := hide (at_below OSw1.out hb)
  have OKw2 := hide (at_below OKw1.out hb)
  have zww2 : w.heap.size ≤ w2.heap.size := Bww2.out.size
  have lSw2 : w.heap.size < w2.heap.size := (Array.getElem?_eq_some_iff.1 OSw2.out).1
  have lKw2 : (w.heap.size + 1) < w2.heap.size := (Array.getElem?_eq_some_iff.1 OKw2.out).1
  clear hb Bww1 OSw1 OKw1
  have cS0 : w2.cell? ⟨w.heap.size, 0, none⟩ = some (.slice o1 T.length c1) := by rw [cell_of_row _ _ 0 _ _ _ OSw2.out]; rfl
  have cS1 : w2.cell? ⟨w.heap.size, 1, none⟩ = some (.slice o2 P.length c2) := by rw [cell_of_row _ _ 1 _ _ _ OSw2.out]; rfl
  have cS2 : w2.cell? ⟨w.heap.size, 2, none⟩ = some (.slice o3 V.length c3) := by rw [cell_of_row _ _ 2 _ _ _ OSw2.out]; rfl
  have cS3 : w2.cell? ⟨w.heap.size, 3, none⟩ = some (.int .i64 dv) := by rw [cell_of_row _ _ 3 _ _ _ OSw2.out]; rfl
  have cS4 : w2.cell? ⟨w.heap.size, 4, none⟩ = some (.slice od D.length cd) := by rw [cell_of_row _ _ 4 _ _ _ OSw2.out]; rfl
  have cS5 : w2.cell? ⟨w.heap.size, 5, none⟩ = some (.slice (some A) G.length cg) := by rw [cell_of_row _ _ 5 _ _ _ OSw2.out]; rfl
  have cS6 : w2.cell? ⟨w.heap.size, 6, none⟩ = some (.slice ov W.length cv) := by rw [cell_of_row _ _ 6 _ _ _ OSw2.out]; rfl
  go_wp2_with fail
  refine (HCk.out _ (HS.out.below Bww2.out)).mono ?_
  rintro e w3 ⟨rfl, hb⟩
  have Bww3 := hide (Bww2.out.trans (hb.mono Bww2.out.size))
  have OSw3 := hide (at_below OSw2.out hb)
  have OKw3 := hide (at_below OKw2.out hb)
  have zww3 : w.heap.size ≤ w3.heap.size := Bww3.out.size
  have lSw3 : w.heap.size < w3.heap.size := (Array.getElem?_eq_some_iff.1 OSw3.out).1
  have lKw3 : (w.heap.size + 1) < w3.heap.size := (Array.getElem?_eq_some_iff.1 OKw3.out).1
  clear hb Bww2 OSw2 OKw2
  clear cS0 cS1 cS2 cS3 cS4 cS5 cS6
  have cS0 : w3.cell? ⟨w.heap.size, 0, none⟩ = some (.slice o1 T.length c1) := by rw [cell_of_row _ _ 0 _ _ _ OSw3.out]; rfl
  have cS1 : w3.cell? ⟨w.heap.size, 1, none⟩ = some (.slice o2 P.length c2) := by rw [cell_of_row _ _ 1 _ _ _ OSw3.out]; rfl
  have cS2 : w3.cell? ⟨w.heap.size, 2, none⟩ = some (.slice o3 V.length c3) := by rw [cell_of_row _ _ 2 _ _ _ OSw3.out]; rfl
  have cS3 : w3.cell? ⟨w.heap.size, 3, none⟩ = some (.int .i64 dv) := by rw [cell_of_row _ _ 3 _ _ _ OSw3.out]; rfl
  have cS4 : w3.cell? ⟨w.heap.size, 4, none⟩ = some (.slice od D.length cd) := by rw [cell_of_row _ _ 4 _ _ _ OSw3.out]; rfl
  have cS5 : w3.cell? ⟨w.heap.size, 5, none⟩ = some (.slice (some A) G.length cg) := by rw [cell_of_row _ _ 5 _ _ _ OSw3.out]; rfl
  have cS6 : w3.cell? ⟨w.heap.size, 6, none⟩ = some (.slice ov W.length cv) := by rw [cell_of_row _ _ 6 _ _ _ OSw3.out]; rfl
  go_wp2_with fail
  refine (HN.out _ (HS.out.below Bww3.out)).mono ?_
  rintro e w4 ⟨rfl, hb⟩
  have Bww4 := hide (Bww3.out.trans (hb.mono Bww3.out.size))
  have OSw4 := hide (at_below OSw3.out hb)
  have OKw4 := hide (at_below OKw3.out hb)
  have zww4 : w.heap.size ≤ w4.heap.size := Bww4.out.size
  have lSw4 : w.heap.size < w4.heap.size := (Array.getElem?_eq_some_iff.1 OSw4.out).1
  have lKw4 : (w.heap.size + 1) < w4.heap.size := (Array.getElem?_eq_some_iff.1 OKw4.out).1
  clear hb Bww3 OSw3 OKw3
  clear cS0 cS1 cS2 cS3 cS4 cS5 cS6
  have cS0 : w4.cell? ⟨w.heap.size, 0, none⟩ = some (.slice o1 T.length c1) := by rw [cell_of_row _ _ 0 _ _ _ OSw4.out]; rfl
  have cS1 : w4.cell? ⟨w.heap.size, 1, none⟩ = some (.slice o2 P.length c2) := by rw [cell_of_row _ _ 1 _ _ _ OSw4.out]; rfl
  have cS2 : w4.cell? ⟨w.heap.size, 2, none⟩ = some (.slice o3 V.length c3) := by rw [cell_of_row _ _ 2 _ _ _ OSw4.out]; rfl
  have cS3 : w4.cell? ⟨w.heap.size, 3, none⟩ = some (.int .i64 dv) := by rw [cell_of_row _ _ 3 _ _ _ OSw4.out]; rfl
  have cS4 : w4.cell? ⟨w.heap.size, 4, none⟩ = some (.slice od D.length cd) := by rw [cell_of_row _ _ 4 _ _ _ OSw4.out]; rfl
  have cS5 : w4.cell? ⟨w.heap.size, 5, none⟩ = some (.slice (some A) G.length cg) := by rw [cell_of_row _ _ 5 _ _ _ OSw4.out]; rfl
  have cS6 : w4.cell? ⟨w.heap.size, 6, none⟩ = some (.slice ov W.length cv) := by rw [cell_of_row _ _ 6 _ _ _ OSw4.out]; rfl
  have cK0 : w4.cell? ⟨(w.heap.size + 1), 0, none⟩ = some (.int .i64 i) := by rw [cell_of_row _ _ 0 _ _ _ OKw4.out]; rfl
  have cK1 : w4.cell? ⟨(w.heap.size + 1), 1, none⟩ = some (.int .i64 k) := by rw [cell_of_row _ _ 1 _ _ _ OKw4.out]; rfl
  have cK2 : w4.cell? ⟨(w.heap.size + 1), 2, none⟩ = some (.int .i64 f) := by rw [cell_of_row _ _ 2 _ _ _ OKw4.out]; rfl
  have cK3 : w4.cell? ⟨(w.heap.size + 1), 3, none⟩ = some (.int .i64 t) := by rw [cell_of_row _ _ 3 _ _ _ OKw4.out]; rfl
  have cK4 : w4.cell? ⟨(w.heap.size + 1), 4, none⟩ = some (.int .i64 z) := by rw [cell_of_row _ _ 4 _ _ _ OKw4.out]; rfl
  have cK5 : w4.cell? ⟨(w.heap.size + 1), 5, none⟩ = some (.int .i64 r) := by rw [cell_of_row _ _ 5 _ _ _ OKw4.out]; rfl
  go_wp2_with fail
  refine (HSe.out _ (HS.out.below Bww4.out)).mono ?_
  rintro e w5 ⟨⟨x1, x2, x3, n1, y1, n2, y2, n3, y3, xv, x4, n4, y4, x5, n5, y5, x6, n6, y6, rfl, hE1⟩, hb⟩
  have Bww5 := hide (Bww4.out.trans (hb.mono Bww4.out.size))
  have OSw5 := hide (at_below OSw4.out hb)
  have OKw5 := hide (at_below OKw4.out hb)
  have zww5 : w.heap.size ≤ w5.heap.size := Bww5.out.size
  have lSw5 : w.heap.size < w5.heap.size := (Array.getElem?_eq_some_iff.1 OSw5.out).1
  have lKw5 : (w.heap.size + 1) < w5.heap.size := (Array.getElem?_eq_some_iff.1 OKw5.out).1
  clear hb Bww4 OSw4 OKw4
  clear cS0 cS1 cS2 cS3 cS4 cS5 cS6
  clear cK0 cK1 cK2 cK3 cK4 cK5
  have HE1 := hide hE1
  clear hE1
  have cS0 : w5.cell? ⟨w.heap.size, 0, none⟩ = some (.slice o1 T.length c1) := by rw [cell_of_row _ _ 0 _ _ _ OSw5.out]; rfl
  have cS1 : w5.cell? ⟨w.heap.size, 1, none⟩ = some (.slice o2 P.length c2) := by rw [cell_of_row _ _ 1 _ _ _ OSw5.out]; rfl
  have cS2 : w5.cell? ⟨w.heap.size, 2, none⟩ = some (.slice o3 V.length c3) := by rw [cell_of_row _ _ 2 _ _ _ OSw5.out]; rfl
  have cS3 : w5.cell? ⟨w.heap.size, 3, none⟩ = some (.int .i64 dv) := by rw [cell_of_row _ _ 3 _ _ _ OSw5.out]; rfl
  have cS4 : w5.cell? ⟨w.heap.size, 4, none⟩ = some (.slice od D.length cd) := by rw [cell_of_row _ _ 4 _ _ _ OSw5.out]; rfl
  have cS5 : w5.cell? ⟨w.heap.size, 5, none⟩ = some (.slice (some A) G.length cg) := by rw [cell_of_row _ _ 5 _ _ _ OSw5.out]; rfl
  have cS6 : w5.cell? ⟨w.heap.size, 6, none⟩ = some (.slice ov W.length cv) := by rw [cell_of_row _ _ 6 _ _ _ OSw5.out]; rfl
  go_wp2_with fail
  clear cS0 cS1 cS2 cS3 cS4 cS5 cS6
  have hb := (Below.refl w5.heap.size w5).alloc (Nat.le_refl _) (.cells #[.slice x1 n1 y1, .slice x2 n2 y2, .slice x3 n3 y3, .int .i64 xv, .slice x4 n4 y4, .slice x5 n5 y5, .slice x6 n6 y6] 32)
  have OAw5a := hide (heap_alloc_new w5 (.cells #[.slice x1 n1 y1, .slice x2 n2 y2, .slice x3 n3 y3, .int .i64 xv, .slice x4 n4 y4, .slice x5 n5 y5, .slice x6 n6 y6] 32))
  have Bww5a := hide (Bww5.out.trans (hb.mono Bww5.out.size))
  have OSw5a := hide (at_below OSw5.out hb)
  have OKw5a := hide (at_below OKw5.out hb)
  clear hb Bww5 OSw5 OKw5
  generalize (w5.alloc (.cells #[.slice x1 n1 y1, .slice x2 n2 y2, .slice x3 n3 y3, .int .i64 xv, .slice x4 n4 y4, .slice x5 n5 y5, .slice x6 n6 y6] 32)) = w5a at *
  have zww5a : w.heap.size ≤ w5a.heap.size := Bww5a.out.size
  have lSw5a : w.heap.size < w5a.heap.size := (Array.getElem?_eq_some_iff.1 OSw5a.out).1
  have lKw5a : (w.heap.size + 1) < w5a.heap.size := (Array.getElem?_eq_some_iff.1 OKw5a.out).1
  have lAw5a : w5.heap.size < w5a.heap.size := (Array.getElem?_eq_some_iff.1 OAw5a.out).1
  refine (HSy.out _ (HS.out.below Bww5a.out)).mono ?_
  rintro e w6 ⟨⟨a1, a2, a3, l1, b1, l2, b2, l3, b3, av, a4, l4, b4, a5, l5, b5, a6, l6, b6, ox, lx, cx, rfl⟩, hb⟩
  have Bww6 := hide (Bww5a.out.trans (hb.mono Bww5a.out.size))
  have OSw6 := hide (at_below OSw5a.out hb)
  have OKw6 := hide (at_below OKw5a.out hb)
  have OAw6 := hide (at_below OAw5a.out hb)
  have zww6 : w.heap.size ≤ w6.heap.size := Bww6.out.size
  have lSw6 : w.heap.size < w6.heap.size := (Array.getElem?_eq_some_iff.1 OSw6.out).1
  have lKw6 : (w.heap.size + 1) < w6.heap.size := (Array.getElem?_eq_some_iff.1 OKw6.out).1
  have lAw6 : w5.heap.size < w6.heap.size := (Array.getElem?_eq_some_iff.1 OAw6.out).1
  clear hb Bww5a OSw5a OKw5a OAw5a
  have cS0 : w6.cell? ⟨w.heap.size, 0, none⟩ = some (.slice o1 T.length c1) := by rw [cell_of_row _ _ 0 _ _ _ OSw6.out]; rfl
  have cS1 : w6.cell? ⟨w.heap.size, 1, none⟩ = some (.slice o2 P.length c2) := by rw [cell_of_row _ _ 1 _ _ _ OSw6.out]; rfl
  have cS2 : w6.cell? ⟨w.heap.size, 2, none⟩ = some (.slice o3 V.length c3) := by rw [cell_of_row _ _ 2 _ _ _ OSw6.out]; rfl
  have cS3 : w6.cell? ⟨w.heap.size, 3, none⟩ = some (.int .i64 dv) := by rw [cell_of_row _ _ 3 _ _ _ OSw6.out]; rfl
  have cS4 : w6.cell? ⟨w.heap.size, 4, none⟩ = some (.slice od D.length cd) := by rw [cell_of_row _ _ 4 _ _ _ OSw6.out]; rfl
  have cS5 : w6.cell? ⟨w.heap.size, 5, none⟩ = some (.slice (some A) G.length cg) := by rw [cell_of_row _ _ 5 _ _ _ OSw6.out]; rfl
  have cS6 : w6.cell? ⟨w.heap.size, 6, none⟩ = some (.slice ov W.length cv) := by rw [cell_of_row _ _ 6 _ _ _ OSw6.out]; rfl
  have cK0 : w6.cell? ⟨(w.heap.size + 1), 0, none⟩ = some (.int .i64 i) := by rw [cell_of_row _ _ 0 _ _ _ OKw6.out]; rfl
  have cK1 : w6.cell? ⟨(w.heap.size + 1), 1, none⟩ = some (.int .i64 k) := by rw [cell_of_row _ _ 1 _ _ _ OKw6.out]; rfl
  have cK2 : w6.cell? ⟨(w.heap.size + 1), 2, none⟩ = some (.int .i64 f) := by rw [cell_of_row _ _ 2 _ _ _ OKw6.out]; rfl
  have cK3 : w6.cell? ⟨(w.heap.size + 1), 3, none⟩ = some (.int .i64 t) := by rw [cell_of_row _ _ 3 _ _ _ OKw6.out]; rfl
  have cK4 : w6.cell? ⟨(w.heap.size + 1), 4, none⟩ = some (.int .i64 z) := by rw [cell_of_row _ _ 4 _ _ _ OKw6.out]; rfl
  have cK5 : w6.cell? ⟨(w.heap.size + 1), 5, none⟩ = some (.int .i64 r) := by rw [cell_of_row _ _ 5 _ _ _ OKw6.out]; rfl
  go_wp2_with fail
  clear cS0 cS1 cS2 cS3 cS4 cS5 cS6
  clear cK0 cK1 cK2 cK3 cK4 cK5
  have hb := (Below.refl w6.heap.size w6).alloc (Nat.le_refl _) (.cells #[.slice a1 l1 b1, .slice a2 l2 b2, .slice a3 l3 b3, .int .i64 av, .slice a4 l4 b4, .slice a5 l5 b5, .slice a6 l6 b6] 32)
  have OBw6a := hide (heap_alloc_new w6 (.cells #[.slice a1 l1 b1, .slice a2 l2 b2, .slice a3 l3 b3, .int .i64 av, .slice a4 l4 b4, .slice a5 l5 b5, .slice a6 l6 b6] 32))
  have Bww6a := hide (Bww6.out.trans (hb.mono Bww6.out.size))
  have OSw6a := hide (at_below OSw6.out hb)
  have OKw6a := hide (at_below OKw6.out hb)
  have OAw6a := hide (at_below OAw6.out hb)
  clear hb Bww6 OSw6 OKw6 OAw6
  generalize (w6.alloc (.cells #[.slice a1 l1 b1, .slice a2 l2 b2, .slice a3 l3 b3, .int .i64 av, .slice a4 l4 b4, .slice a5 l5 b5, .slice a6 l6 b6] 32)) = w6a at *
  have zww6a : w.heap.size ≤ w6a.heap.size := Bww6a.out.size
  have lSw6a : w.heap.size < w6a.heap.size := (Array.getElem?_eq_some_iff.1 OSw6a.out).1
  have lKw6a : (w.heap.size + 1) < w6a.heap.size := (Array.getElem?_eq_some_iff.1 OKw6a.out).1
  have lAw6a : w5.heap.size < w6a.heap.size := (Array.getElem?_eq_some_iff.1 OAw6a.out).1
  have lBw6a : w6.heap.size < w6a.heap.size := (Array.getElem?_eq_some_iff.1 OBw6a.out).1
  refine (HTa.out _ (HS.out.below Bww6a.out)).mono ?_
  rintro e w7 ⟨⟨u1, u2, u3, j1, p1, j2, p2, j3, p3, uv, u4, j4, p4, u5, j5, p5, u6, j6, p6, rfl⟩, hb⟩
  have Bww7 := hide (Bww6a.out.trans (hb.mono Bww6a.out.size))
  have OSw7 := hide (at_below OSw6a.out hb)
  have OKw7 := hide (at_below OKw6a.out hb)
  have OAw7 := hide (at_below OAw6a.out hb)
  have OBw7 := hide (at_below OBw6a.out hb)
  have zww7 : w.heap.size ≤ w7.heap.size := Bww7.out.size
  have lSw7 : w.heap.size < w7.heap.size := (Array.getElem?_eq_some_iff.1 OSw7.out).1
  have lKw7 : (w.heap.size + 1) < w7.heap.size := (Array.getElem?_eq_some_iff.1 OKw7.out).1
  have lAw7 : w5.heap.size < w7.heap.size := (Array.getElem?_eq_some_iff.1 OAw7.out).1
  have lBw7 : w6.heap.size < w7.heap.size := (Array.getElem?_eq_some_iff.1 OBw7.out).1
  clear hb Bww6a OSw6a OKw6a OAw6a OBw6a
  go_upto_region 11 with fail
  have hb := (Below.refl w7.heap.size w7).alloc (Nat.le_refl _) (.cells #[.slice u1 j1 p1, .slice u2 j2 p2, .slice u3 j3 p3, .int .i64 uv, .slice u4 j4 p4, .slice u5 j5 p5, .slice u6 j6 p6] 32)
  have OCw7a := hide (heap_alloc_new w7 (.cells #[.slice u1 j1 p1, .slice u2 j2 p2, .slice u3 j3 p3, .int .i64 uv, .slice u4 j4 p4, .slice u5 j5 p5, .slice u6 j6 p6] 32))
  have Bww7a := hide (Bww7.out.trans (hb.mono Bww7.out.size))
  have OSw7a := hide (at_below OSw7.out hb)
  have OKw7a := hide (at_below OKw7.out hb)
  have OAw7a := hide (at_below OAw7.out hb)
  have OBw7a := hide (at_below OBw7.out hb)
  clear hb Bww7 OSw7 OKw7 OAw7 OBw7
  generalize (w7.alloc (.cells #[.slice u1 j1 p1, .slice u2 j2 p2, .slice u3 j3 p3, .int .i64 uv, .slice u4 j4 p4, .slice u5 j5 p5, .slice u6 j6 p6] 32)) = w7a at *
  have zww7a : w.heap.size ≤ w7a.heap.size := Bww7a.out.size
  have lSw7a : w.heap.size < w7a.heap.size := (Array.getElem?_eq_some_iff.1 OSw7a.out).1
  have lKw7a : (w.heap.size + 1) < w7a.heap.size := (Array.getElem?_eq_some_iff.1 OKw7a.out).1
  have lAw7a : w5.heap.size < w7a.heap.size := (Array.getElem?_eq_some_iff.1 OAw7a.out).1
  have lBw7a : w6.heap.size < w7a.heap.size := (Array.getElem?_eq_some_iff.1 OBw7a.out).1
  have lCw7a : w7.heap.size < w7a.heap.size := (Array.getElem?_eq_some_iff.1 OCw7a.out).1
  go_wp2_with fail
  go_ret
  exact ⟨rfl, Bww7a.out⟩

set_option maxHeartbeats 12800000 in
set_option maxRecDepth 100000 in
theorem alone_on (T : List TK) (P : List TP) (V : List Int) (dv : Int) (D : List Int) (G : List GT) (W : List VW) (o1 o2 o3 od og ov : Option Addr) (c1 c2 c3 cd cg cv : Nat) (i k f t z r n m : Int) (w : World) (hs : StW w o1 o2 o3 c1 c2 c3 T P V od cd D og cg G ov cv W) (h0 : chkS T P V dv D G W = 0) (hn : 0 ≤ n) (hn3 : n < 3) (hw : nowB W = true) :
    Calls Tryz.prog 3 #[stV o1 o2 o3 T.length c1 P.length c2 V.length c3 dv od D.length cd og G.length cg ov W.length cv, tk i k f t z r, .int .i64 n, .int .i64 m] w fun e w' => e = .returned (.bool true) ∧ Below w.heap.size w w' := by
  have HCk := hide (fun X (h : StW X o1 o2 o3 c1 c2 c3 T P V od cd D og cg G ov cv W) => stationCheck_any T P V dv D G W o1 o2 o3 od og ov c1 c2 c3 cd cg cv X h.led h.lok h.den.1 h.den.2.1 h.gts h.gok h.vws h.vln)
  rw [h0] at HCk
  have hG3 : G.length = 3 := (chkS_right h0).2.2.1
  have hW0 : chkVs W = 0 := (chkS_right h0).2.2.2.2.1
  have hT12 : T.length ≤ 12 := (chkL_right (chkS_right h0).1).1
  obtain ⟨q, rfl⟩ : ∃ q : Nat, n = q := ⟨n.toNat, by omega⟩
  have hq : q < G.length := by omega
  obtain ⟨g, hg⟩ : ∃ g, G[q]? = some g := ⟨_, List.getElem?_eq_getElem hq⟩
  obtain ⟨A, rfl, -⟩ := hs.gts q g hg
  have hgA : g.A.length ≤ 9223372036854775807 := (hs.gok g (List.mem_of_getElem? hg)).1
  have HN := hide (fun X (h : StW X o1 o2 o3 c1 c2 c3 T P V od cd D (some A) cg G ov cv W) => now_any ov cv W X h.vws h.vln)
  rw [hW0] at HN
  have HSe := hide (fun X (h : StW X o1 o2 o3 c1 c2 c3 T P V od cd D (some A) cg G ov cv W) => sellOne T P V dv D G W o1 o2 o3 od (some A) ov c1 c2 c3 cd cg cv i k f t z r X h)
  have HSy := hide (fun X (h : StW X o1 o2 o3 c1 c2 c3 T P V od cd D (some A) cg G ov cv W) => syncOne T P V dv D G W o1 o2 o3 od (some A) ov c1 c2 c3 cd cg cv q m X h)
  have HTa := hide (fun X (h : StW X o1 o2 o3 c1 c2 c3 T P V od cd D (some A) cg G ov cv W) => tapOne T P V dv D G W o1 o2 o3 od (some A) ov c1 c2 c3 cd cg cv i q m X h)
  have HGt := hide (fun X (h : StW X o1 o2 o3 c1 c2 c3 T P V od cd D (some A) cg G ov cv W) => h.gts q g hg)
  have h3' : ((G.length : Int) != 3) = false := by rw [hG3]; rfl
  have h3a : G.length ≤ 3 := by omega
  have h3b : 3 ≤ G.length := by omega
  rw [hw] at HN
  have e2 := on_sync (T := T) (P := P) (V := V) (dv := dv) (D := D) h0 hw (n := (q : Int)) m (by omega) (by omega)
  have e3 := on_tap (T := T) (P := P) (V := V) (dv := dv) (D := D) h0 hw hg i m
  clear hw hn hn3
  generalize nowI W = nI at *
  generalize sellS T P V dv D G W ⟨i, k, f, t, z, r⟩ = E1 at *
  generalize syncS T P V dv D G W (q : Int) m = E2 at *
  generalize tapS T P V dv D G W i (q : Int) m = R at *
  obtain ⟨R1, R2⟩ := R
  clear hG3 hW0 h0
  have e4 : (E2 != 4) = true := by simpa using e2
  have HE3 := hide e3
  clear e2 e3
  have HB := hide (((Blks.nil w).more (.cells #[.slice o1 T.length c1, .slice o2 P.length c2, .slice o3 V.length c3, .int .i64 dv, .slice od D.length cd, .slice (some A) G.length cg, .slice ov W.length cv] 32) (by simp)).more (.cells #[.int .i64 i, .int .i64 k, .int .i64 f, .int .i64 t, .int .i64 z, .int .i64 r] 34) (by simp))
  have Hw := hide HB.out.2.2
  have OS0 := hide (show _ = _ from HB.out.1 0 _ rfl)
  have OK0 := hide (show _ = _ from HB.out.1 1 _ rfl)
  rw [Nat.add_zero] at OS0
  have HS := hide hs
  clear hs
  go_enter Tryz.func3, Tryz.ntmps3
  go_wp2_with fail
  generalize ((w.alloc (.cells #[.slice o1 T.length c1, .slice o2 P.length c2, .slice o3 V.length c3, .int .i64 dv, .slice od D.length cd, .slice (some A) G.length cg, .slice ov W.length cv] 32)).alloc (.cells #[.int .i64 i, .int .i64 k, .int .i64 f, .int .i64 t, .int .i64 z, .int .i64 r] 34)) = w0 at *
  clear HB
  refine (stationBegun_any _).mono ?_
  rintro e w1 ⟨rfl, hb⟩
  have Bww1 := hide (Hw.out.trans (hb.mono Hw.out.size))
  have OSw1 := hide (at_below OS0.out hb)
  have OKw1 := hide (at_below OK0.out hb)
  have zww1 : w.heap.size ≤ w1.heap.size := Bww1.out.size
  have lSw1 : w.heap.size < w1.heap.size := (Array.getElem?_eq_some_iff.1 OSw1.out).1
  have lKw1 : (w.heap.size + 1) < w1.heap.size := (Array.getElem?_eq_some_iff.1 OKw1.out).1
  clear hb Hw OS0 OK0
  go_wp2_with fail
  refine (leadBegun_any _).mono ?_
  rintro e w2 ⟨rfl, hb⟩
  have Bww2 := hide (Bww1.out.trans (hb.mono Bww1.out.size))
  have OSw2 := hide (at_below OSw1.out hb)
  have OKw2 := hide (at_below OKw1.out hb)
  have zww2 : w.heap.size ≤ w2.heap.size := Bww2.out.size
  have lSw2 : w.heap.size < w2.heap.size := (Array.getElem?_eq_some_iff.1 OSw2.out).1
  have lKw2 : (w.heap.size + 1) < w2.heap.size := (Array.getElem?_eq_some_iff.1 OKw2.out).1
  clear hb Bww1 OSw1 OKw1
  have cS0 : w2.cell? ⟨w.heap.size, 0, none⟩ = some (.slice o1 T.length c1) := by rw [cell_of_row _ _ 0 _ _ _ OSw2.out]; rfl
  have cS1 : w2.cell? ⟨w.heap.size, 1, none⟩ = some (.slice o2 P.length c2) := by rw [cell_of_row _ _ 1 _ _ _ OSw2.out]; rfl
  have cS2 : w2.cell? ⟨w.heap.size, 2, none⟩ = some (.slice o3 V.length c3) := by rw [cell_of_row _ _ 2 _ _ _ OSw2.out]; rfl
  have cS3 : w2.cell? ⟨w.heap.size, 3, none⟩ = some (.int .i64 dv) := by rw [cell_of_row _ _ 3 _ _ _ OSw2.out]; rfl
  have cS4 : w2.cell? ⟨w.heap.size, 4, none⟩ = some (.slice od D.length cd) := by rw [cell_of_row _ _ 4 _ _ _ OSw2.out]; rfl
  have cS5 : w2.cell? ⟨w.heap.size, 5, none⟩ = some (.slice (some A) G.length cg) := by rw [cell_of_row _ _ 5 _ _ _ OSw2.out]; rfl
  have cS6 : w2.cell? ⟨w.heap.size, 6, none⟩ = some (.slice ov W.length cv) := by rw [cell_of_row _ _ 6 _ _ _ OSw2.out]; rfl
  go_wp2_with fail
  refine (HCk.out _ (HS.out.below Bww2.out)).mono ?_
  rintro e w3 ⟨rfl, hb⟩
  have Bww3 := hide (Bww2.out.trans (hb.mono Bww2.out.size))
  have OSw3 := hide (at_below OSw2.out hb)
  have OKw3 := hide (at_below OKw2.out hb)
  have zww3 : w.heap.size ≤ w3.heap.size := Bww3.out.size
  have lSw3 : w.heap.size < w3.heap.size := (Array.getElem?_eq_some_iff.1 OSw3.out).1
  have lKw3 : (w.heap.size + 1) < w3.heap.size := (Array.getElem?_eq_some_iff.1 OKw3.out).1
  clear hb Bww2 OSw2 OKw2
  clear cS0 cS1 cS2 cS3 cS4 cS5 cS6
  have cS0 : w3.cell? ⟨w.heap.size, 0, none⟩ = some (.slice o1 T.length c1) := by rw [cell_of_row _ _ 0 _ _ _ OSw3.out]; rfl
  have cS1 : w3.cell? ⟨w.heap.size, 1, none⟩ = some (.slice o2 P.length c2) := by rw [cell_of_row _ _ 1 _ _ _ OSw3.out]; rfl
  have cS2 : w3.cell? ⟨w.heap.size, 2, none⟩ = some (.slice o3 V.length c3) := by rw [cell_of_row _ _ 2 _ _ _ OSw3.out]; rfl
  have cS3 : w3.cell? ⟨w.heap.size, 3, none⟩ = some (.int .i64 dv) := by rw [cell_of_row _ _ 3 _ _ _ OSw3.out]; rfl
  have cS4 : w3.cell? ⟨w.heap.size, 4, none⟩ = some (.slice od D.length cd) := by rw [cell_of_row _ _ 4 _ _ _ OSw3.out]; rfl
  have cS5 : w3.cell? ⟨w.heap.size, 5, none⟩ = some (.slice (some A) G.length cg) := by rw [cell_of_row _ _ 5 _ _ _ OSw3.out]; rfl
  have cS6 : w3.cell? ⟨w.heap.size, 6, none⟩ = some (.slice ov W.length cv) := by rw [cell_of_row _ _ 6 _ _ _ OSw3.out]; rfl
  go_wp2_with fail
  refine (HN.out _ (HS.out.below Bww3.out)).mono ?_
  rintro e w4 ⟨rfl, hb⟩
  have Bww4 := hide (Bww3.out.trans (hb.mono Bww3.out.size))
  have OSw4 := hide (at_below OSw3.out hb)
  have OKw4 := hide (at_below OKw3.out hb)
  have zww4 : w.heap.size ≤ w4.heap.size := Bww4.out.size
  have lSw4 : w.heap.size < w4.heap.size := (Array.getElem?_eq_some_iff.1 OSw4.out).1
  have lKw4 : (w.heap.size + 1) < w4.heap.size := (Array.getElem?_eq_some_iff.1 OKw4.out).1
  clear hb Bww3 OSw3 OKw3
  clear cS0 cS1 cS2 cS3 cS4 cS5 cS6
  have cS0 : w4.cell? ⟨w.heap.size, 0, none⟩ = some (.slice o1 T.length c1) := by rw [cell_of_row _ _ 0 _ _ _ OSw4.out]; rfl
  have cS1 : w4.cell? ⟨w.heap.size, 1, none⟩ = some (.slice o2 P.length c2) := by rw [cell_of_row _ _ 1 _ _ _ OSw4.out]; rfl
  have cS2 : w4.cell? ⟨w.heap.size, 2, none⟩ = some (.slice o3 V.length c3) := by rw [cell_of_row _ _ 2 _ _ _ OSw4.out]; rfl
  have cS3 : w4.cell? ⟨w.heap.size, 3, none⟩ = some (.int .i64 dv) := by rw [cell_of_row _ _ 3 _ _ _ OSw4.out]; rfl
  have cS4 : w4.cell? ⟨w.heap.size, 4, none⟩ = some (.slice od D.length cd) := by rw [cell_of_row _ _ 4 _ _ _ OSw4.out]; rfl
  have cS5 : w4.cell? ⟨w.heap.size, 5, none⟩ = some (.slice (some A) G.length cg) := by rw [cell_of_row _ _ 5 _ _ _ OSw4.out]; rfl
  have cS6 : w4.cell? ⟨w.heap.size, 6, none⟩ = some (.slice ov W.length cv) := by rw [cell_of_row _ _ 6 _ _ _ OSw4.out]; rfl
  have cK0 : w4.cell? ⟨(w.heap.size + 1), 0, none⟩ = some (.int .i64 i) := by rw [cell_of_row _ _ 0 _ _ _ OKw4.out]; rfl
  have cK1 : w4.cell? ⟨(w.heap.size + 1), 1, none⟩ = some (.int .i64 k) := by rw [cell_of_row _ _ 1 _ _ _ OKw4.out]; rfl
  have cK2 : w4.cell? ⟨(w.heap.size + 1), 2, none⟩ = some (.int .i64 f) := by rw [cell_of_row _ _ 2 _ _ _ OKw4.out]; rfl
  have cK3 : w4.cell? ⟨(w.heap.size + 1), 3, none⟩ = some (.int .i64 t) := by rw [cell_of_row _ _ 3 _ _ _ OKw4.out]; rfl
  have cK4 : w4.cell? ⟨(w.heap.size + 1), 4, none⟩ = some (.int .i64 z) := by rw [cell_of_row _ _ 4 _ _ _ OKw4.out]; rfl
  have cK5 : w4.cell? ⟨(w.heap.size + 1), 5, none⟩ = some (.int .i64 r) := by rw [cell_of_row _ _ 5 _ _ _ OKw4.out]; rfl
  go_wp2_with fail
  refine (HSe.out _ (HS.out.below Bww4.out)).mono ?_
  rintro e w5 ⟨⟨x1, x2, x3, n1, y1, n2, y2, n3, y3, xv, x4, n4, y4, x5, n5, y5, x6, n6, y6, rfl, hE1⟩, hb⟩
  have Bww5 := hide (Bww4.out.trans (hb.mono Bww4.out.size))
  have OSw5 := hide (at_below OSw4.out hb)
  have OKw5 := hide (at_below OKw4.out hb)
  have zww5 : w.heap.size ≤ w5.heap.size := Bww5.out.size
  have lSw5 : w.heap.size < w5.heap.size := (Array.getElem?_eq_some_iff.1 OSw5.out).1
  have lKw5 : (w.heap.size + 1) < w5.heap.size := (Array.getElem?_eq_some_iff.1 OKw5.out).1
  clear hb Bww4 OSw4 OKw4
  clear cS0 cS1 cS2 cS3 cS4 cS5 cS6
  clear cK0 cK1 cK2 cK3 cK4 cK5
  have HE1 := hide hE1
  clear hE1
  have cS0 : w5.cell? ⟨w.heap.size, 0, none⟩ = some (.slice o1 T.length c1) := by rw [cell_of_row _ _ 0 _ _ _ OSw5.out]; rfl
  have cS1 : w5.cell? ⟨w.heap.size, 1, none⟩ = some (.slice o2 P.length c2) := by rw [cell_of_row _ _ 1 _ _ _ OSw5.out]; rfl
  have cS2 : w5.cell? ⟨w.heap.size, 2, none⟩ = some (.slice o3 V.length c3) := by rw [cell_of_row _ _ 2 _ _ _ OSw5.out]; rfl
  have cS3 : w5.cell? ⟨w.heap.size, 3, none⟩ = some (.int .i64 dv) := by rw [cell_of_row _ _ 3 _ _ _ OSw5.out]; rfl
  have cS4 : w5.cell? ⟨w.heap.size, 4, none⟩ = some (.slice od D.length cd) := by rw [cell_of_row _ _ 4 _ _ _ OSw5.out]; rfl
  have cS5 : w5.cell? ⟨w.heap.size, 5, none⟩ = some (.slice (some A) G.length cg) := by rw [cell_of_row _ _ 5 _ _ _ OSw5.out]; rfl
  have cS6 : w5.cell? ⟨w.heap.size, 6, none⟩ = some (.slice ov W.length cv) := by rw [cell_of_row _ _ 6 _ _ _ OSw5.out]; rfl
  go_wp2_with fail
  clear cS0 cS1 cS2 cS3 cS4 cS5 cS6
  have hb := (Below.refl w5.heap.size w5).alloc (Nat.le_refl _) (.cells #[.slice x1 n1 y1, .slice x2 n2 y2, .slice x3 n3 y3, .int .i64 xv, .slice x4 n4 y4, .slice x5 n5 y5, .slice x6 n6 y6] 32)
  have OAw5a := hide (heap_alloc_new w5 (.cells #[.slice x1 n1 y1, .slice x2 n2 y2, .slice x3 n3 y3, .int .i64 xv, .slice x4 n4 y4, .slice x5 n5 y5, .slice x6 n6 y6] 32))
  have Bww5a := hide (Bww5.out.trans (hb.mono Bww5.out.size))
  have OSw5a := hide (at_below OSw5.out hb)
  have OKw5a := hide (at_below OKw5.out hb)
  clear hb Bww5 OSw5 OKw5
  generalize (w5.alloc (.cells #[.slice x1 n1 y1, .slice x2 n2 y2, .slice x3 n3 y3, .int .i64 xv, .slice x4 n4 y4, .slice x5 n5 y5, .slice x6 n6 y6] 32)) = w5a at *
  have zww5a : w.heap.size ≤ w5a.heap.size := Bww5a.out.size
  have lSw5a : w.heap.size < w5a.heap.size := (Array.getElem?_eq_some_iff.1 OSw5a.out).1
  have lKw5a : (w.heap.size + 1) < w5a.heap.size := (Array.getElem?_eq_some_iff.1 OKw5a.out).1
  have lAw5a : w5.heap.size < w5a.heap.size := (Array.getElem?_eq_some_iff.1 OAw5a.out).1
  refine (HSy.out _ (HS.out.below Bww5a.out)).mono ?_
  rintro e w6 ⟨⟨a1, a2, a3, l1, b1, l2, b2, l3, b3, av, a4, l4, b4, a5, l5, b5, a6, l6, b6, ox, lx, cx, rfl⟩, hb⟩
  have Bww6 := hide (Bww5a.out.trans (hb.mono Bww5a.out.size))
  have OSw6 := hide (at_below OSw5a.out hb)
  have OKw6 := hide (at_below OKw5a.out hb)
  have OAw6 := hide (at_below OAw5a.out hb)
  have zww6 : w.heap.size ≤ w6.heap.size := Bww6.out.size
  have lSw6 : w.heap.size < w6.heap.size := (Array.getElem?_eq_some_iff.1 OSw6.out).1
  have lKw6 : (w.heap.size + 1) < w6.heap.size := (Array.getElem?_eq_some_iff.1 OKw6.out).1
  have lAw6 : w5.heap.size < w6.heap.size := (Array.getElem?_eq_some_iff.1 OAw6.out).1
  clear hb Bww5a OSw5a OKw5a OAw5a
  have cS0 : w6.cell? ⟨w.heap.size, 0, none⟩ = some (.slice o1 T.length c1) := by rw [cell_of_row _ _ 0 _ _ _ OSw6.out]; rfl
  have cS1 : w6.cell? ⟨w.heap.size, 1, none⟩ = some (.slice o2 P.length c2) := by rw [cell_of_row _ _ 1 _ _ _ OSw6.out]; rfl
  have cS2 : w6.cell? ⟨w.heap.size, 2, none⟩ = some (.slice o3 V.length c3) := by rw [cell_of_row _ _ 2 _ _ _ OSw6.out]; rfl
  have cS3 : w6.cell? ⟨w.heap.size, 3, none⟩ = some (.int .i64 dv) := by rw [cell_of_row _ _ 3 _ _ _ OSw6.out]; rfl
  have cS4 : w6.cell? ⟨w.heap.size, 4, none⟩ = some (.slice od D.length cd) := by rw [cell_of_row _ _ 4 _ _ _ OSw6.out]; rfl
  have cS5 : w6.cell? ⟨w.heap.size, 5, none⟩ = some (.slice (some A) G.length cg) := by rw [cell_of_row _ _ 5 _ _ _ OSw6.out]; rfl
  have cS6 : w6.cell? ⟨w.heap.size, 6, none⟩ = some (.slice ov W.length cv) := by rw [cell_of_row _ _ 6 _ _ _ OSw6.out]; rfl
  have cK0 : w6.cell? ⟨(w.heap.size + 1), 0, none⟩ = some (.int .i64 i) := by rw [cell_of_row _ _ 0 _ _ _ OKw6.out]; rfl
  have cK1 : w6.cell? ⟨(w.heap.size + 1), 1, none⟩ = some (.int .i64 k) := by rw [cell_of_row _ _ 1 _ _ _ OKw6.out]; rfl
  have cK2 : w6.cell? ⟨(w.heap.size + 1), 2, none⟩ = some (.int .i64 f) := by rw [cell_of_row _ _ 2 _ _ _ OKw6.out]; rfl
  have cK3 : w6.cell? ⟨(w.heap.size + 1), 3, none⟩ = some (.int .i64 t) := by rw [cell_of_row _ _ 3 _ _ _ OKw6.out]; rfl
  have cK4 : w6.cell? ⟨(w.heap.size + 1), 4, none⟩ = some (.int .i64 z) := by rw [cell_of_row _ _ 4 _ _ _ OKw6.out]; rfl
  have cK5 : w6.cell? ⟨(w.heap.size + 1), 5, none⟩ = some (.int .i64 r) := by rw [cell_of_row _ _ 5 _ _ _ OKw6.out]; rfl
  go_wp2_with fail
  clear cS0 cS1 cS2 cS3 cS4 cS5 cS6
  clear cK0 cK1 cK2 cK3 cK4 cK5
  have hb := (Below.refl w6.heap.size w6).alloc (Nat.le_refl _) (.cells #[.slice a1 l1 b1, .slice a2 l2 b2, .slice a3 l3 b3, .int .i64 av, .slice a4 l4 b4, .slice a5 l5 b5, .slice a6 l6 b6] 32)
  have OBw6a := hide (heap_alloc_new w6 (.cells #[.slice a1 l1 b1, .slice a2 l2 b2, .slice a3 l3 b3, .int .i64 av, .slice a4 l4 b4, .slice a5 l5 b5, .slice a6 l6 b6] 32))
  have Bww6a := hide (Bww6.out.trans (hb.mono Bww6.out.size))
  have OSw6a := hide (at_below OSw6.out hb)
  have OKw6a := hide (at_below OKw6.out hb)
  have OAw6a := hide (at_below OAw6.out hb)
  clear hb Bww6 OSw6 OKw6 OAw6
  generalize (w6.alloc (.cells #[.slice a1 l1 b1, .slice a2 l2 b2, .slice a3 l3 b3, .int .i64 av, .slice a4 l4 b4, .slice a5 l5 b5, .slice a6 l6 b6] 32)) = w6a at *
  have zww6a : w.heap.size ≤ w6a.heap.size := Bww6a.out.size
  have lSw6a : w.heap.size < w6a.heap.size := (Array.getElem?_eq_some_iff.1 OSw6a.out).1
  have lKw6a : (w.heap.size + 1) < w6a.heap.size := (Array.getElem?_eq_some_iff.1 OKw6a.out).1
  have lAw6a : w5.heap.size < w6a.heap.size := (Array.getElem?_eq_some_iff.1 OAw6a.out).1
  have lBw6a : w6.heap.size < w6a.heap.size := (Array.getElem?_eq_some_iff.1 OBw6a.out).1
  refine (HTa.out _ (HS.out.below Bww6a.out)).mono ?_
  rintro e w7 ⟨⟨u1, u2, u3, j1, p1, j2, p2, j3, p3, uv, u4, j4, p4, u5, j5, p5, u6, j6, p6, rfl⟩, hb⟩
  have Bww7 := hide (Bww6a.out.trans (hb.mono Bww6a.out.size))
  have OSw7 := hide (at_below OSw6a.out hb)
  have OKw7 := hide (at_below OKw6a.out hb)
  have OAw7 := hide (at_below OAw6a.out hb)
  have OBw7 := hide (at_below OBw6a.out hb)
  have zww7 : w.heap.size ≤ w7.heap.size := Bww7.out.size
  have lSw7 : w.heap.size < w7.heap.size := (Array.getElem?_eq_some_iff.1 OSw7.out).1
  have lKw7 : (w.heap.size + 1) < w7.heap.size := (Array.getElem?_eq_some_iff.1 OKw7.out).1
  have lAw7 : w5.heap.size < w7.heap.size := (Array.getElem?_eq_some_iff.1 OAw7.out).1
  have lBw7 : w6.heap.size < w7.heap.size := (Array.getElem?_eq_some_iff.1 OBw7.out).1
  clear hb Bww6a OSw6a OKw6a OAw6a OBw6a
  go_upto_region 11 with fail
  have hb := (Below.refl w7.heap.size w7).alloc (Nat.le_refl _) (.cells #[.slice u1 j1 p1, .slice u2 j2 p2, .slice u3 j3 p3, .int .i64 uv, .slice u4 j4 p4, .slice u5 j5 p5, .slice u6 j6 p6] 32)
  have OCw7a := hide (heap_alloc_new w7 (.cells #[.slice u1 j1 p1, .slice u2 j2 p2, .slice u3 j3 p3, .int .i64 uv, .slice u4 j4 p4, .slice u5 j5 p5, .slice u6 j6 p6] 32))
  have Bww7a := hide (Bww7.out.trans (hb.mono Bww7.out.size))
  have OSw7a := hide (at_below OSw7.out hb)
  have OKw7a := hide (at_below OKw7.out hb)
  have OAw7a := hide (at_below OAw7.out hb)
  have OBw7a := hide (at_below OBw7.out hb)
  clear hb Bww7 OSw7 OKw7 OAw7 OBw7
  generalize (w7.alloc (.cells #[.slice u1 j1 p1, .slice u2 j2 p2, .slice u3 j3 p3, .int .i64 uv, .slice u4 j4 p4, .slice u5 j5 p5, .slice u6 j6 p6] 32)) = w7a at *
  have zww7a : w.heap.size ≤ w7a.heap.size := Bww7a.out.size
  have lSw7a : w.heap.size < w7a.heap.size := (Array.getElem?_eq_some_iff.1 OSw7a.out).1
  have lKw7a : (w.heap.size + 1) < w7a.heap.size := (Array.getElem?_eq_some_iff.1 OKw7a.out).1
  have lAw7a : w5.heap.size < w7a.heap.size := (Array.getElem?_eq_some_iff.1 OAw7a.out).1
  have lBw7a : w6.heap.size < w7a.heap.size := (Array.getElem?_eq_some_iff.1 OBw7a.out).1
  have lCw7a : w7.heap.size < w7a.heap.size := (Array.getElem?_eq_some_iff.1 OCw7a.out).1
  go_upto_region 15 with fail
  obtain ⟨bb, hbb, h8, -, -⟩ := HGt.out _ (HS.out.below Bww7a.out)
  obtain rfl := Option.some.inj hbb
  obtain ⟨-, -, -, d3, -, -, -, -⟩ := h8
  have cS0 : w7a.cell? ⟨w.heap.size, 0, none⟩ = some (.slice o1 T.length c1) := by rw [cell_of_row _ _ 0 _ _ _ OSw7a.out]; rfl
  have cS1 : w7a.cell? ⟨w.heap.size, 1, none⟩ = some (.slice o2 P.length c2) := by rw [cell_of_row _ _ 1 _ _ _ OSw7a.out]; rfl
  have cS2 : w7a.cell? ⟨w.heap.size, 2, none⟩ = some (.slice o3 V.length c3) := by rw [cell_of_row _ _ 2 _ _ _ OSw7a.out]; rfl
  have cS3 : w7a.cell? ⟨w.heap.size, 3, none⟩ = some (.int .i64 dv) := by rw [cell_of_row _ _ 3 _ _ _ OSw7a.out]; rfl
  have cS4 : w7a.cell? ⟨w.heap.size, 4, none⟩ = some (.slice od D.length cd) := by rw [cell_of_row _ _ 4 _ _ _ OSw7a.out]; rfl
  have cS5 : w7a.cell? ⟨w.heap.size, 5, none⟩ = some (.slice (some A) G.length cg) := by rw [cell_of_row _ _ 5 _ _ _ OSw7a.out]; rfl
  have cS6 : w7a.cell? ⟨w.heap.size, 6, none⟩ = some (.slice ov W.length cv) := by rw [cell_of_row _ _ 6 _ _ _ OSw7a.out]; rfl
  have cA0 : w7a.cell? ⟨w5.heap.size, 0, none⟩ = some (.slice x1 n1 y1) := by rw [cell_of_row _ _ 0 _ _ _ OAw7a.out]; rfl
  have cA1 : w7a.cell? ⟨w5.heap.size, 1, none⟩ = some (.slice x2 n2 y2) := by rw [cell_of_row _ _ 1 _ _ _ OAw7a.out]; rfl
  have cA2 : w7a.cell? ⟨w5.heap.size, 2, none⟩ = some (.slice x3 n3 y3) := by rw [cell_of_row _ _ 2 _ _ _ OAw7a.out]; rfl
  have cA3 : w7a.cell? ⟨w5.heap.size, 3, none⟩ = some (.int .i64 xv) := by rw [cell_of_row _ _ 3 _ _ _ OAw7a.out]; rfl
  have cA4 : w7a.cell? ⟨w5.heap.size, 4, none⟩ = some (.slice x4 n4 y4) := by rw [cell_of_row _ _ 4 _ _ _ OAw7a.out]; rfl
  have cA5 : w7a.cell? ⟨w5.heap.size, 5, none⟩ = some (.slice x5 n5 y5) := by rw [cell_of_row _ _ 5 _ _ _ OAw7a.out]; rfl
  have cA6 : w7a.cell? ⟨w5.heap.size, 6, none⟩ = some (.slice x6 n6 y6) := by rw [cell_of_row _ _ 6 _ _ _ OAw7a.out]; rfl
  have HBw := hide Bww7a.out
  clear HGt HS hbb HN HSe HSy HTa HCk
  rcases h1 : (E1 != 0) with _ | _
  · obtain rfl : E1 = 0 := by simpa using h1
    obtain rfl := HE1.out rfl
    rcases h2 : (R2 != 0) with _ | _
    · have e4 := HE3.out (by simpa using h2)
      rcases h4 : (R1 == 0) with _ | _
      · have h5 : Hid (decide (0 < g.A.length) = false) := by
          simp only [beq_eq_false_iff_ne, ne_eq] at h4
          have := mt e4.2 h4
          exact hide (by simp only [decide_eq_false_iff_not]; omega)
        clear e4 HE1 HE3
        go_wp2_with fail
        go_ret
        exact ⟨by rw [h5.out]; rfl, HBw.out⟩
      · have h5 : Hid (decide (0 < g.A.length) = true) := by
          have := e4.1 (by simpa using h4)
          exact hide (by simp only [decide_eq_true_eq]; omega)
        clear e4 HE1 HE3
        go_wp2_with fail
        go_ret
        exact ⟨by rw [h5.out]; rfl, HBw.out⟩
    · clear HE1 HE3
      go_wp2_with fail
      go_ret
      exact ⟨rfl, HBw.out⟩
  · clear HE1
    rcases h2 : (R2 != 0) with _ | _
    · have e4 := HE3.out (by simpa using h2)
      rcases h4 : (R1 == 0) with _ | _
      · have h5 : Hid (decide (0 < g.A.length) = false) := by
          simp only [beq_eq_false_iff_ne, ne_eq] at h4
          have := mt e4.2 h4
          exact hide (by simp only [decide_eq_false_iff_not]; omega)
        clear e4 HE3
        go_wp2_with fail
        go_ret
        exact ⟨by rw [h5.out]; rfl, HBw.out⟩
      · have h5 : Hid (decide (0 < g.A.length) = true) := by
          have := e4.1 (by simpa using h4)
          exact hide (by simp only [decide_eq_true_eq]; omega)
        clear e4 HE3
        go_wp2_with fail
        go_ret
        exact ⟨by rw [h5.out]; rfl, HBw.out⟩
    · clear HE3
      go_wp2_with fail
      go_ret
      exact ⟨rfl, HBw.out⟩

theorem stationAlone_walk (T : List TK) (P : List TP) (V : List Int) (dv : Int) (D : List Int) (G : List GT) (W : List VW) (o1 o2 o3 od og ov : Option Addr) (c1 c2 c3 cd cg cv : Nat) (i k f t z r n m : Int) (w : World) (hs : StW w o1 o2 o3 c1 c2 c3 T P V od cd D og cg G ov cv W) :
    Calls Tryz.prog 3 #[stV o1 o2 o3 T.length c1 P.length c2 V.length c3 dv od D.length cd og G.length cg ov W.length cv, tk i k f t z r, .int .i64 n, .int .i64 m] w fun e w' => e = .returned (.bool true) ∧ Below w.heap.size w w' := by
  by_cases h0 : chkS T P V dv D G W = 0
  · by_cases hn : n < 0
    · exact alone_low T P V dv D G W o1 o2 o3 od og ov c1 c2 c3 cd cg cv i k f t z r n m w hs h0 hn
    · by_cases h3 : 3 ≤ n
      · exact alone_high T P V dv D G W o1 o2 o3 od og ov c1 c2 c3 cd cg cv i k f t z r n m w hs h0 h3
      · rcases hw : nowB W with _ | _
        · exact alone_off T P V dv D G W o1 o2 o3 od og ov c1 c2 c3 cd cg cv i k f t z r n m w hs h0 (by omega) (by omega) hw
        · exact alone_on T P V dv D G W o1 o2 o3 od og ov c1 c2 c3 cd cg cv i k f t z r n m w hs h0 (by omega) (by omega) hw
  · exact alone_bad T P V dv D G W o1 o2 o3 od og ov c1 c2 c3 cd cg cv i k f t z r n m w hs h0

end Go.Proofs.YtcjfmbeemdcklaaGreat
