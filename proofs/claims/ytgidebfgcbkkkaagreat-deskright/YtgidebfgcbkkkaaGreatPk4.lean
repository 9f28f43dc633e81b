/-
  Texts joined: J7, J8, Z10, O2, O6, Z17, Z11, Z18, GN, X8, Z12, Z13, Z16, Z19, N8.
-/
import Derived.Deep.CutRange
import Derived.Test.YtgidebfgcbkkkaaGreatPk3
set_option maxHeartbeats 12800000
set_option maxRecDepth 100000
namespace Go.Proofs.YtgidebfgcbkkkaaGreat
section
open Go.RowKit
theorem gateTap_ok (i z s : Int) (oa : Option Addr) (P : List TP) (ca : Nat) (v : Int) (od : Option Addr) (D : List Int) (cd : Nat) (l u : Int) (ti k f t y r m : Int) (w : World) (hP : zI w oa P) (hD : zH w od D) (hlP : P.length ≤ 9223372036854775807) (hlD : D.length ≤ 9223372036854775807) (hn : oa = none → ca = 0) (hE : tapG i z s P v D l u ⟨ti, k, f, t, y, r⟩ m = 0) :
  Calls Tryz.prog 150 #[gtV i z s oa P.length ca v od D.length cd l u, tk ti k f t y r, .int .i64 m] w fun e w' => (∃ x, e = .returned (.tuple #[x, tp ti i (s + 1) m z, .int .i64 0]) ∧ GateF w.heap.size w' x i z (s + 1) (P ++ [⟨ti, i, s + 1, m, z⟩]) v D (l - 1) u) ∧ Below w.heap.size w w' := by
 have HU := zA (fun W (h : zI W oa P) (h' : zH W od D) => gateUnfit_any i z s oa P ca v od D cd l u ti k f t y r m W h h' hlD)
 have HS := zA (fun W (h0 : unfG i z s P v D l u ⟨ti, k, f, t, y, r⟩ m = 0) (h' : zH W od D) => gateShut_any i z s oa P ca v od D cd l u ti k f t y r m W h' hlD (qW h0).1 (qW h0).2.1 (qW h0).2.2.1 (qW h0).2.2.2.1)
 have HN := zA (fun W (h : zI W oa P) => gateSpent_any i z s oa P ca v od D cd l u ti k f t y r W h hlP)
 have HF := zA (fun W => fullG_any i z s oa P.length ca v od D.length cd l u W)
 have HP := zA hP
 have HD := zA hD
 clear hP hD
 have hp := tapG_ways i z s P v D l u ⟨ti, k, f, t, y, r⟩ m
 rw [hE] at hp
 have hu : unfG i z s P v D l u ⟨ti, k, f, t, y, r⟩ m = 0 := by
  rcases hp with ⟨h1, h2⟩ | h | h | h | h
  ·exact h2.symm
  all_goals exact h.1
 obtain ⟨-, -, -, -, m1, m2, m3, m4, m5, m6⟩ := qW hu
 have HX := zA (fun W => gateNext_any i z s oa P ca v od D cd l u ti k f t y r m W m1 m2)
 have HW := zA (fun W (h : zI W oa P) (h' : zH W od D) => gateWith_any i z s oa P ca v od D cd l u ti i (s + 1) m z W h h' m3 m4 hn m5 m6)
 clear hE hu
 generalize P ++ [(⟨ti, i, s + 1, m, z⟩ : TP)] = M at *
 generalize unfG i z s P v D l u ⟨ti, k, f, t, y, r⟩ m = X1 at *
 generalize shutG D u z ⟨ti, k, f, t, y, r⟩ m = X2 at *
 generalize spentG P l ⟨ti, k, f, t, y, r⟩ = X3 at *
 generalize fullG P.length s = X4 at *
 clear m1 m2 m3 m4 m5 m6
 rcases hp with ⟨h1, rfl⟩ | ⟨rfl, h1, rfl⟩ | ⟨rfl, rfl, rfl, h⟩ | ⟨rfl, rfl, rfl, rfl, h⟩ | ⟨rfl, rfl, rfl, rfl, -⟩
 ·cases h1
 ·cases h1
 ·cases h
 ·cases h
 ·go_enter Tryz.func150, Tryz.ntmps150
  go_wp2_with fail
  have HG1 := zA ((((((zL.nil w).more (.cells #[.int .i64 i, .int .i64 z, .int .i64 s, .slice oa P.length ca, .int .i64 v, .slice od D.length cd, .int .i64 l, .int .i64 u] 58) (by simp)).more (.cells #[.int .i64 ti, .int .i64 k, .int .i64 f, .int .i64 t, .int .i64 y, .int .i64 r] 34) (by simp)).more (.cells #[.int .i64 0, .int .i64 0, .int .i64 0, .slice none 0 0, .int .i64 0, .slice none 0 0, .int .i64 0, .int .i64 0] 58) (by simp)).more (.cells #[.int .i64 0, .int .i64 0, .int .i64 0, .int .i64 0, .int .i64 0] 79) (by simp)).more (.cells #[.int .i64 i, .int .i64 z, .int .i64 s, .slice oa P.length ca, .int .i64 v, .slice od D.length cd, .int .i64 l, .int .i64 u] 166) (by simp))
  refine (HU.out _ (HP.out.below HG1.out.2.2) (HD.out.below HG1.out.2.2)).mono ?_
  rintro e w1 ⟨rfl, hb⟩
  have HG1w1 := zA (HG1.out.on hb)
  clear hb HG1
  have lG1_1 := HG1w1.out.lt 1 (w.heap.size + 1) (by simp) rfl
  obtain ⟨cG1_1_0, cG1_1_1, cG1_1_2, cG1_1_3, cG1_1_4, cG1_1_5⟩ := HG1w1.out.c6 1 (w.heap.size + 1) rfl rfl rfl rfl rfl rfl rfl rfl
  have lG1_2 := HG1w1.out.lt 2 (w.heap.size + 1 + 1) (by simp) rfl
  obtain ⟨cG1_2_0, cG1_2_1, cG1_2_2, cG1_2_3, cG1_2_4, cG1_2_5, cG1_2_6, cG1_2_7⟩ := HG1w1.out.c8 2 (w.heap.size + 1 + 1) rfl rfl rfl rfl rfl rfl rfl rfl rfl rfl
  obtain ⟨fG1_2_0, fG1_2_1, fG1_2_2, fG1_2_3, fG1_2_4, fG1_2_5, fG1_2_6, fG1_2_7⟩ := HG1w1.out.z8 2 (w.heap.size + 1 + 1) rfl rfl
  have lG1_3 := HG1w1.out.lt 3 (w.heap.size + 1 + 1 + 1) (by simp) rfl
  obtain ⟨cG1_3_0, cG1_3_1, cG1_3_2, cG1_3_3, cG1_3_4⟩ := HG1w1.out.c5 3 (w.heap.size + 1 + 1 + 1) rfl rfl rfl rfl rfl rfl rfl
  obtain ⟨fG1_3_0, fG1_3_1, fG1_3_2, fG1_3_3, fG1_3_4⟩ := HG1w1.out.z5 3 (w.heap.size + 1 + 1 + 1) rfl rfl
  have lG1_4 := HG1w1.out.lt 4 (w.heap.size + 1 + 1 + 1 + 1) (by simp) rfl
  obtain ⟨cG1_4_0, cG1_4_1, cG1_4_2, cG1_4_3, cG1_4_4, cG1_4_5, cG1_4_6, cG1_4_7⟩ := HG1w1.out.c8 4 (w.heap.size + 1 + 1 + 1 + 1) rfl rfl rfl rfl rfl rfl rfl rfl rfl rfl
  go_wp2_with fail
  refine (HS.out _ trivial (HD.out.below HG1w1.out.2.2)).mono ?_
  rintro e w2 ⟨rfl, hb⟩
  have HG1w2 := zA (HG1w1.out.on hb)
  clear lG1_1 cG1_1_0 cG1_1_1 cG1_1_2 cG1_1_3 cG1_1_4 cG1_1_5 lG1_2 cG1_2_0 fG1_2_0 cG1_2_1 fG1_2_1 cG1_2_2 fG1_2_2 cG1_2_3 fG1_2_3 cG1_2_4 fG1_2_4 cG1_2_5 fG1_2_5 cG1_2_6 fG1_2_6 cG1_2_7 fG1_2_7 lG1_3 cG1_3_0 fG1_3_0 cG1_3_1 fG1_3_1 cG1_3_2 fG1_3_2 cG1_3_3 fG1_3_3 cG1_3_4 fG1_3_4 lG1_4 cG1_4_0 cG1_4_1 cG1_4_2 cG1_4_3 cG1_4_4 cG1_4_5 cG1_4_6 cG1_4_7
  clear hb HG1w1
  have lG1_1 := HG1w2.out.lt 1 (w.heap.size + 1) (by simp) rfl
  obtain ⟨cG1_1_0, cG1_1_1, cG1_1_2, cG1_1_3, cG1_1_4, cG1_1_5⟩ := HG1w2.out.c6 1 (w.heap.size + 1) rfl rfl rfl rfl rfl rfl rfl rfl
  have lG1_2 := HG1w2.out.lt 2 (w.heap.size + 1 + 1) (by simp) rfl
  obtain ⟨cG1_2_0, cG1_2_1, cG1_2_2, cG1_2_3, cG1_2_4, cG1_2_5, cG1_2_6, cG1_2_7⟩ := HG1w2.out.c8 2 (w.heap.size + 1 + 1) rfl rfl rfl rfl rfl rfl rfl rfl rfl rfl
  obtain ⟨fG1_2_0, fG1_2_1, fG1_2_2, fG1_2_3, fG1_2_4, fG1_2_5, fG1_2_6, fG1_2_7⟩ := HG1w2.out.z8 2 (w.heap.size + 1 + 1) rfl rfl
  have lG1_3 := HG1w2.out.lt 3 (w.heap.size + 1 + 1 + 1) (by simp) rfl
  obtain ⟨cG1_3_0, cG1_3_1, cG1_3_2, cG1_3_3, cG1_3_4⟩ := HG1w2.out.c5 3 (w.heap.size + 1 + 1 + 1) rfl rfl rfl rfl rfl rfl rfl
  obtain ⟨fG1_3_0, fG1_3_1, fG1_3_2, fG1_3_3, fG1_3_4⟩ := HG1w2.out.z5 3 (w.heap.size + 1 + 1 + 1) rfl rfl
  have lG1_4 := HG1w2.out.lt 4 (w.heap.size + 1 + 1 + 1 + 1) (by simp) rfl
  obtain ⟨cG1_4_0, cG1_4_1, cG1_4_2, cG1_4_3, cG1_4_4, cG1_4_5, cG1_4_6, cG1_4_7⟩ := HG1w2.out.c8 4 (w.heap.size + 1 + 1 + 1 + 1) rfl rfl rfl rfl rfl rfl rfl rfl rfl rfl
  go_wp2_with fail
  refine (HN.out _ (HP.out.below HG1w2.out.2.2)).mono ?_
  rintro e w3 ⟨rfl, hb⟩
  have HG1w3 := zA (HG1w2.out.on hb)
  clear lG1_1 cG1_1_0 cG1_1_1 cG1_1_2 cG1_1_3 cG1_1_4 cG1_1_5 lG1_2 cG1_2_0 fG1_2_0 cG1_2_1 fG1_2_1 cG1_2_2 fG1_2_2 cG1_2_3 fG1_2_3 cG1_2_4 fG1_2_4 cG1_2_5 fG1_2_5 cG1_2_6 fG1_2_6 cG1_2_7 fG1_2_7 lG1_3 cG1_3_0 fG1_3_0 cG1_3_1 fG1_3_1 cG1_3_2 fG1_3_2 cG1_3_3 fG1_3_3 cG1_3_4 fG1_3_4 lG1_4 cG1_4_0 cG1_4_1 cG1_4_2 cG1_4_3 cG1_4_4 cG1_4_5 cG1_4_6 cG1_4_7
  clear hb HG1w2
  have lG1_1 := HG1w3.out.lt 1 (w.heap.size + 1) (by simp) rfl
  obtain ⟨cG1_1_0, cG1_1_1, cG1_1_2, cG1_1_3, cG1_1_4, cG1_1_5⟩ := HG1w3.out.c6 1 (w.heap.size + 1) rfl rfl rfl rfl rfl rfl rfl rfl
  have lG1_2 := HG1w3.out.lt 2 (w.heap.size + 1 + 1) (by simp) rfl
  obtain ⟨cG1_2_0, cG1_2_1, cG1_2_2, cG1_2_3, cG1_2_4, cG1_2_5, cG1_2_6, cG1_2_7⟩ := HG1w3.out.c8 2 (w.heap.size + 1 + 1) rfl rfl rfl rfl rfl rfl rfl rfl rfl rfl
  obtain ⟨fG1_2_0, fG1_2_1, fG1_2_2, fG1_2_3, fG1_2_4, fG1_2_5, fG1_2_6, fG1_2_7⟩ := HG1w3.out.z8 2 (w.heap.size + 1 + 1) rfl rfl
  have lG1_3 := HG1w3.out.lt 3 (w.heap.size + 1 + 1 + 1) (by simp) rfl
  obtain ⟨cG1_3_0, cG1_3_1, cG1_3_2, cG1_3_3, cG1_3_4⟩ := HG1w3.out.c5 3 (w.heap.size + 1 + 1 + 1) rfl rfl rfl rfl rfl rfl rfl
  obtain ⟨fG1_3_0, fG1_3_1, fG1_3_2, fG1_3_3, fG1_3_4⟩ := HG1w3.out.z5 3 (w.heap.size + 1 + 1 + 1) rfl rfl
  have lG1_4 := HG1w3.out.lt 4 (w.heap.size + 1 + 1 + 1 + 1) (by simp) rfl
  obtain ⟨cG1_4_0, cG1_4_1, cG1_4_2, cG1_4_3, cG1_4_4, cG1_4_5, cG1_4_6, cG1_4_7⟩ := HG1w3.out.c8 4 (w.heap.size + 1 + 1 + 1 + 1) rfl rfl rfl rfl rfl rfl rfl rfl rfl rfl
  go_wp2_with fail
  refine (HF.out _).mono ?_
  rintro e w4 ⟨rfl, hb⟩
  have HG1w4 := zA (HG1w3.out.on hb)
  clear lG1_1 cG1_1_0 cG1_1_1 cG1_1_2 cG1_1_3 cG1_1_4 cG1_1_5 lG1_2 cG1_2_0 fG1_2_0 cG1_2_1 fG1_2_1 cG1_2_2 fG1_2_2 cG1_2_3 fG1_2_3 cG1_2_4 fG1_2_4 cG1_2_5 fG1_2_5 cG1_2_6 fG1_2_6 cG1_2_7 fG1_2_7 lG1_3 cG1_3_0 fG1_3_0 cG1_3_1 fG1_3_1 cG1_3_2 fG1_3_2 cG1_3_3 fG1_3_3 cG1_3_4 fG1_3_4 lG1_4 cG1_4_0 cG1_4_1 cG1_4_2 cG1_4_3 cG1_4_4 cG1_4_5 cG1_4_6 cG1_4_7
  clear hb HG1w3
  have lG1_1 := HG1w4.out.lt 1 (w.heap.size + 1) (by simp) rfl
  obtain ⟨cG1_1_0, cG1_1_1, cG1_1_2, cG1_1_3, cG1_1_4, cG1_1_5⟩ := HG1w4.out.c6 1 (w.heap.size + 1) rfl rfl rfl rfl rfl rfl rfl rfl
  have lG1_2 := HG1w4.out.lt 2 (w.heap.size + 1 + 1) (by simp) rfl
  obtain ⟨cG1_2_0, cG1_2_1, cG1_2_2, cG1_2_3, cG1_2_4, cG1_2_5, cG1_2_6, cG1_2_7⟩ := HG1w4.out.c8 2 (w.heap.size + 1 + 1) rfl rfl rfl rfl rfl rfl rfl rfl rfl rfl
  obtain ⟨fG1_2_0, fG1_2_1, fG1_2_2, fG1_2_3, fG1_2_4, fG1_2_5, fG1_2_6, fG1_2_7⟩ := HG1w4.out.z8 2 (w.heap.size + 1 + 1) rfl rfl
  have lG1_3 := HG1w4.out.lt 3 (w.heap.size + 1 + 1 + 1) (by simp) rfl
  obtain ⟨cG1_3_0, cG1_3_1, cG1_3_2, cG1_3_3, cG1_3_4⟩ := HG1w4.out.c5 3 (w.heap.size + 1 + 1 + 1) rfl rfl rfl rfl rfl rfl rfl
  obtain ⟨fG1_3_0, fG1_3_1, fG1_3_2, fG1_3_3, fG1_3_4⟩ := HG1w4.out.z5 3 (w.heap.size + 1 + 1 + 1) rfl rfl
  have lG1_4 := HG1w4.out.lt 4 (w.heap.size + 1 + 1 + 1 + 1) (by simp) rfl
  obtain ⟨cG1_4_0, cG1_4_1, cG1_4_2, cG1_4_3, cG1_4_4, cG1_4_5, cG1_4_6, cG1_4_7⟩ := HG1w4.out.c8 4 (w.heap.size + 1 + 1 + 1 + 1) rfl rfl rfl rfl rfl rfl rfl rfl rfl rfl
  go_wp2_with fail
  refine (HX.out _).mono ?_
  rintro e w5 ⟨rfl, hb⟩
  have HG1w5 := zA (HG1w4.out.on hb)
  clear lG1_1 cG1_1_0 cG1_1_1 cG1_1_2 cG1_1_3 cG1_1_4 cG1_1_5 lG1_2 cG1_2_0 fG1_2_0 cG1_2_1 fG1_2_1 cG1_2_2 fG1_2_2 cG1_2_3 fG1_2_3 cG1_2_4 fG1_2_4 cG1_2_5 fG1_2_5 cG1_2_6 fG1_2_6 cG1_2_7 fG1_2_7 lG1_3 cG1_3_0 fG1_3_0 cG1_3_1 fG1_3_1 cG1_3_2 fG1_3_2 cG1_3_3 fG1_3_3 cG1_3_4 fG1_3_4 lG1_4 cG1_4_0 cG1_4_1 cG1_4_2 cG1_4_3 cG1_4_4 cG1_4_5 cG1_4_6 cG1_4_7
  clear hb HG1w4
  have lG1_1 := HG1w5.out.lt 1 (w.heap.size + 1) (by simp) rfl
  obtain ⟨cG1_1_0, cG1_1_1, cG1_1_2, cG1_1_3, cG1_1_4, cG1_1_5⟩ := HG1w5.out.c6 1 (w.heap.size + 1) rfl rfl rfl rfl rfl rfl rfl rfl
  have lG1_2 := HG1w5.out.lt 2 (w.heap.size + 1 + 1) (by simp) rfl
  obtain ⟨cG1_2_0, cG1_2_1, cG1_2_2, cG1_2_3, cG1_2_4, cG1_2_5, cG1_2_6, cG1_2_7⟩ := HG1w5.out.c8 2 (w.heap.size + 1 + 1) rfl rfl rfl rfl rfl rfl rfl rfl rfl rfl
  obtain ⟨fG1_2_0, fG1_2_1, fG1_2_2, fG1_2_3, fG1_2_4, fG1_2_5, fG1_2_6, fG1_2_7⟩ := HG1w5.out.z8 2 (w.heap.size + 1 + 1) rfl rfl
  have lG1_3 := HG1w5.out.lt 3 (w.heap.size + 1 + 1 + 1) (by simp) rfl
  obtain ⟨cG1_3_0, cG1_3_1, cG1_3_2, cG1_3_3, cG1_3_4⟩ := HG1w5.out.c5 3 (w.heap.size + 1 + 1 + 1) rfl rfl rfl rfl rfl rfl rfl
  obtain ⟨fG1_3_0, fG1_3_1, fG1_3_2, fG1_3_3, fG1_3_4⟩ := HG1w5.out.z5 3 (w.heap.size + 1 + 1 + 1) rfl rfl
  have lG1_4 := HG1w5.out.lt 4 (w.heap.size + 1 + 1 + 1 + 1) (by simp) rfl
  obtain ⟨cG1_4_0, cG1_4_1, cG1_4_2, cG1_4_3, cG1_4_4, cG1_4_5, cG1_4_6, cG1_4_7⟩ := HG1w5.out.c8 4 (w.heap.size + 1 + 1 + 1 + 1) rfl rfl rfl rfl rfl rfl rfl rfl rfl rfl
  go_wp2_with fail
  clear lG1_1 cG1_1_0 cG1_1_1 cG1_1_2 cG1_1_3 cG1_1_4 cG1_1_5 lG1_2 cG1_2_0 fG1_2_0 cG1_2_1 fG1_2_1 cG1_2_2 fG1_2_2 cG1_2_3 fG1_2_3 cG1_2_4 fG1_2_4 cG1_2_5 fG1_2_5 cG1_2_6 fG1_2_6 cG1_2_7 fG1_2_7 lG1_3 cG1_3_0 fG1_3_0 cG1_3_1 fG1_3_1 cG1_3_2 fG1_3_2 cG1_3_3 fG1_3_3 cG1_3_4 fG1_3_4 lG1_4 cG1_4_0 cG1_4_1 cG1_4_2 cG1_4_3 cG1_4_4 cG1_4_5 cG1_4_6 cG1_4_7
  have HQ := zA ((zL.nil w5).more (.cells #[.int .i64 ti, .int .i64 i, .int .i64 (s + 1), .int .i64 m, .int .i64 z] 79) (by simp))
  have HG1w5sz := HG1w5.out.2.1
  simp only [List.length_append, List.length_cons, List.length_nil] at HG1w5sz
  have HGa : Hid (zL w _ [.cells #[.int .i64 i, .int .i64 z, .int .i64 s, .slice oa P.length ca, .int .i64 v, .slice od D.length cd, .int .i64 l, .int .i64 u] 58, .cells #[.int .i64 ti, .int .i64 k, .int .i64 f, .int .i64 t, .int .i64 y, .int .i64 r] 34, .cells #[.int .i64 0, .int .i64 0, .int .i64 0, .slice none 0 0, .int .i64 0, .slice none 0 0, .int .i64 0, .int .i64 0] 58, .cells #[.int .i64 0, .int .i64 0, .int .i64 0, .int .i64 0, .int .i64 0] 79, .cells #[.int .i64 i, .int .i64 z, .int .i64 s, .slice oa P.length ca, .int .i64 v, .slice od D.length cd, .int .i64 l, .int .i64 u] 166]) := zA ((HG1w5.out.on HQ.out.2.2).on (Below.refl _ _).drew)
  have hQx := HQ.out.on (Below.refl _ _).drew
  have HQa : Hid (jN (w5.alloc (.cells #[.int .i64 ti, .int .i64 i, .int .i64 (s + 1), .int .i64 m, .int .i64 z] 79)).drew ⟨w5.heap.size, 0, none⟩ ⟨ti, i, s + 1, m, z⟩) := zA ⟨hQx.cell 0 0 w5.heap.size _ _ _ rfl rfl rfl, hQx.cell 0 1 w5.heap.size _ _ _ rfl rfl rfl, hQx.cell 0 2 w5.heap.size _ _ _ rfl rfl rfl, hQx.cell 0 3 w5.heap.size _ _ _ rfl rfl rfl, hQx.cell 0 4 w5.heap.size _ _ _ rfl rfl rfl⟩
  clear hQx
  clear HU HS HN HF HX
  refine zJ (fun w' => (∃ oo2 oo3, zL w w' [.cells #[.int .i64 i, .int .i64 z, .int .i64 s, .slice oa P.length ca, .int .i64 v, .slice od D.length cd, .int .i64 l, .int .i64 u] 58, .cells #[.int .i64 ti, .int .i64 k, .int .i64 f, .int .i64 t, .int .i64 y, .int .i64 r] 34, oo2, oo3, .cells #[.int .i64 i, .int .i64 z, .int .i64 s, .slice oa P.length ca, .int .i64 v, .slice od D.length cd, .int .i64 l, .int .i64 u] 166]) ∧ jN w' ⟨w5.heap.size, 0, none⟩ ⟨ti, i, s + 1, m, z⟩) [0, 1, 3] 4 (by rfl) (by kernel_rfl) (by kernel_rfl) (by kernel_rfl) (fun c d v a w h => by cases d <;> exact h) ?_ ?_
  ·exact ⟨⟨_, _, HGa.out⟩, HQa.out⟩
  refine zB (gtV i z s oa P.length ca v od D.length cd l u) rfl rfl (fun w' hS => ?_) ?_
  ·obtain ⟨⟨oo2, oo3, hS1⟩, hS2⟩ := hS
   obtain ⟨k0, k1, k2, k3, k4, k5, k6, k7⟩ := hS1.c8 4 (w.heap.size + 1 + 1 + 1 + 1) rfl rfl rfl rfl rfl rfl rfl rfl rfl rfl
   obtain ⟨q0, q1, q2, q3, q4⟩ := hS2
   simp only [Nat.zero_add] at q0 q1 q2 q3 q4
   go_simp
  refine zB (tp ti i (s + 1) m z) rfl rfl (fun w' hS => ?_) ?_
  ·obtain ⟨⟨oo2, oo3, hS1⟩, hS2⟩ := hS
   obtain ⟨k0, k1, k2, k3, k4, k5, k6, k7⟩ := hS1.c8 4 (w.heap.size + 1 + 1 + 1 + 1) rfl rfl rfl rfl rfl rfl rfl rfl rfl rfl
   obtain ⟨q0, q1, q2, q3, q4⟩ := hS2
   simp only [Nat.zero_add] at q0 q1 q2 q3 q4
   go_simp
  refine zB (tp ti i (s + 1) m z) rfl rfl (fun w' hS => ?_) ?_
  ·obtain ⟨⟨oo2, oo3, hS1⟩, hS2⟩ := hS
   obtain ⟨k0, k1, k2, k3, k4, k5, k6, k7⟩ := hS1.c8 4 (w.heap.size + 1 + 1 + 1 + 1) rfl rfl rfl rfl rfl rfl rfl rfl rfl rfl
   obtain ⟨q0, q1, q2, q3, q4⟩ := hS2
   simp only [Nat.zero_add] at q0 q1 q2 q3 q4
   go_simp
  refine zE ?_
  clear HG1w5 HQ
  generalize World.drew _ = wa at *
  refine oR 2 rfl rfl fun K hK => ?_
  go_simp
  refine (HW.out wa (HP.out.below HGa.out.2.2) (HD.out.below HGa.out.2.2)).mono ?_
  rintro e wb ⟨⟨x, rfl, ⟨o1, c1, o2, c2, rfl, hT, hfT, hI, hfI⟩⟩, hb⟩
  have HGb : Hid (zL w wb [.cells #[.int .i64 i, .int .i64 z, .int .i64 s, .slice oa P.length ca, .int .i64 v, .slice od D.length cd, .int .i64 l, .int .i64 u] 58, .cells #[.int .i64 ti, .int .i64 k, .int .i64 f, .int .i64 t, .int .i64 y, .int .i64 r] 34, .cells #[.int .i64 0, .int .i64 0, .int .i64 0, .slice none 0 0, .int .i64 0, .slice none 0 0, .int .i64 0, .int .i64 0] 58, .cells #[.int .i64 0, .int .i64 0, .int .i64 0, .int .i64 0, .int .i64 0] 79, .cells #[.int .i64 i, .int .i64 z, .int .i64 s, .slice oa P.length ca, .int .i64 v, .slice od D.length cd, .int .i64 l, .int .i64 u] 166]) := zA (HGa.out.on hb)
  have HQb := zA (HQa.out.below hb HQa.out.lt)
  have hsz := HGa.out.2.1
  simp only [List.length_cons, List.length_nil] at hsz
  have HT := zA (And.intro hT (hfT.monoD (show w.heap.size + 1 + 1 + 1 + 1 + 1 ≤ wa.heap.size by omega)))
  have HI := zA (And.intro hI (hfI.monoD (show w.heap.size + 1 + 1 + 1 + 1 + 1 ≤ wa.heap.size by omega)))
  have hsq : w.heap.size + 1 + 1 + 1 + 1 + 1 ≤ w5.heap.size := by have := HG1w5sz; omega
  clear hb hT hfT hI hfI HGa HQa hsz
  refine hK _ _ ⟨⟨_, _, HGb.out⟩, HQb.out⟩ ?_
  clear hK K
  obtain ⟨r0, r1, r2, r3, r4, r5, r6, r7⟩ := HGb.out.c8 2 (w.heap.size + 1 + 1) rfl rfl rfl rfl rfl rfl rfl rfl rfl rfl
  obtain ⟨f0, f1, f2, f3, f4, f5, f6, f7⟩ := HGb.out.z8 2 (w.heap.size + 1 + 1) rfl rfl
  refine oR 4 rfl rfl fun K hK => ?_
  go_simp
  have HGc : Hid (zL w ((((((((wb.setCell ⟨w.heap.size + 1 + 1, 0, none⟩ (.int .i64 i)).setCell ⟨w.heap.size + 1 + 1, 1, none⟩ (.int .i64 z)).setCell ⟨w.heap.size + 1 + 1, 2, none⟩ (.int .i64 (s + 1))).setCell ⟨w.heap.size + 1 + 1, 3, none⟩ (.slice o1 M.length c1)).setCell ⟨w.heap.size + 1 + 1, 4, none⟩ (.int .i64 v)).setCell ⟨w.heap.size + 1 + 1, 5, none⟩ (.slice o2 D.length c2)).setCell ⟨w.heap.size + 1 + 1, 6, none⟩ (.int .i64 (l - 1))).setCell ⟨w.heap.size + 1 + 1, 7, none⟩ (.int .i64 u)) [.cells #[.int .i64 i, .int .i64 z, .int .i64 s, .slice oa P.length ca, .int .i64 v, .slice od D.length cd, .int .i64 l, .int .i64 u] 58, .cells #[.int .i64 ti, .int .i64 k, .int .i64 f, .int .i64 t, .int .i64 y, .int .i64 r] 34, .cells #[.int .i64 i, .int .i64 z, .int .i64 (s + 1), .slice o1 M.length c1, .int .i64 v, .slice o2 D.length c2, .int .i64 (l - 1), .int .i64 u] 58, .cells #[.int .i64 0, .int .i64 0, .int .i64 0, .int .i64 0, .int .i64 0] 79, .cells #[.int .i64 i, .int .i64 z, .int .i64 s, .slice oa P.length ca, .int .i64 v, .slice od D.length cd, .int .i64 l, .int .i64 u] 166]) := zA (HGb.out.put8 2 (w.heap.size + 1 + 1) _ _ _ _ _ _ _ _ (.int .i64 i) (.int .i64 z) (.int .i64 (s + 1)) (.slice o1 M.length c1) (.int .i64 v) (.slice o2 D.length c2) (.int .i64 (l - 1)) (.int .i64 u) _ rfl rfl)
  have HTc : Hid (zR ((((((((wb.setCell ⟨w.heap.size + 1 + 1, 0, none⟩ (.int .i64 i)).setCell ⟨w.heap.size + 1 + 1, 1, none⟩ (.int .i64 z)).setCell ⟨w.heap.size + 1 + 1, 2, none⟩ (.int .i64 (s + 1))).setCell ⟨w.heap.size + 1 + 1, 3, none⟩ (.slice o1 M.length c1)).setCell ⟨w.heap.size + 1 + 1, 4, none⟩ (.int .i64 v)).setCell ⟨w.heap.size + 1 + 1, 5, none⟩ (.slice o2 D.length c2)).setCell ⟨w.heap.size + 1 + 1, 6, none⟩ (.int .i64 (l - 1))).setCell ⟨w.heap.size + 1 + 1, 7, none⟩ (.int .i64 u)) (.slice o1 M.length c1) M) := by
   refine zA ?_
   repeat (first | with_reducible exact HT.out.1 | with_reducible refine zR.setD ?_ HT.out.2 (by simp; try omega) _)
  have HIc : Hid (zP ((((((((wb.setCell ⟨w.heap.size + 1 + 1, 0, none⟩ (.int .i64 i)).setCell ⟨w.heap.size + 1 + 1, 1, none⟩ (.int .i64 z)).setCell ⟨w.heap.size + 1 + 1, 2, none⟩ (.int .i64 (s + 1))).setCell ⟨w.heap.size + 1 + 1, 3, none⟩ (.slice o1 M.length c1)).setCell ⟨w.heap.size + 1 + 1, 4, none⟩ (.int .i64 v)).setCell ⟨w.heap.size + 1 + 1, 5, none⟩ (.slice o2 D.length c2)).setCell ⟨w.heap.size + 1 + 1, 6, none⟩ (.int .i64 (l - 1))).setCell ⟨w.heap.size + 1 + 1, 7, none⟩ (.int .i64 u)) (.slice o2 D.length c2) D) := by
   refine zA ?_
   repeat (first | with_reducible exact HI.out.1 | with_reducible refine zP.setD ?_ HI.out.2 (by simp; try omega) _)
  have HQc : Hid (jN ((((((((wb.setCell ⟨w.heap.size + 1 + 1, 0, none⟩ (.int .i64 i)).setCell ⟨w.heap.size + 1 + 1, 1, none⟩ (.int .i64 z)).setCell ⟨w.heap.size + 1 + 1, 2, none⟩ (.int .i64 (s + 1))).setCell ⟨w.heap.size + 1 + 1, 3, none⟩ (.slice o1 M.length c1)).setCell ⟨w.heap.size + 1 + 1, 4, none⟩ (.int .i64 v)).setCell ⟨w.heap.size + 1 + 1, 5, none⟩ (.slice o2 D.length c2)).setCell ⟨w.heap.size + 1 + 1, 6, none⟩ (.int .i64 (l - 1))).setCell ⟨w.heap.size + 1 + 1, 7, none⟩ (.int .i64 u)) ⟨w5.heap.size, 0, none⟩ ⟨ti, i, s + 1, m, z⟩) := by
   refine zA ?_
   repeat (first | with_reducible exact HQb.out | with_reducible refine jN.setne ?_ _ (by simp; omega) _)
  refine hK _ _ ⟨⟨_, _, HGc.out⟩, HQc.out⟩ ?_
  clear hK K HGb HQb r0 f0 r1 f1 r2 f2 r3 f3 r4 f4 r5 f5 r6 f6 r7 f7
  generalize ((((((((wb.setCell ⟨w.heap.size + 1 + 1, 0, none⟩ (.int .i64 i)).setCell ⟨w.heap.size + 1 + 1, 1, none⟩ (.int .i64 z)).setCell ⟨w.heap.size + 1 + 1, 2, none⟩ (.int .i64 (s + 1))).setCell ⟨w.heap.size + 1 + 1, 3, none⟩ (.slice o1 M.length c1)).setCell ⟨w.heap.size + 1 + 1, 4, none⟩ (.int .i64 v)).setCell ⟨w.heap.size + 1 + 1, 5, none⟩ (.slice o2 D.length c2)).setCell ⟨w.heap.size + 1 + 1, 6, none⟩ (.int .i64 (l - 1))).setCell ⟨w.heap.size + 1 + 1, 7, none⟩ (.int .i64 u)) = wc at *
  obtain ⟨r0, r1, r2, r3, r4⟩ := HGc.out.c5 3 (w.heap.size + 1 + 1 + 1) rfl rfl rfl rfl rfl rfl rfl
  obtain ⟨f0, f1, f2, f3, f4⟩ := HGc.out.z5 3 (w.heap.size + 1 + 1 + 1) rfl rfl
  refine oR 5 rfl rfl fun K hK => ?_
  go_simp
  have HGd : Hid (zL w (((((wc.setCell ⟨w.heap.size + 1 + 1 + 1, 0, none⟩ (.int .i64 ti)).setCell ⟨w.heap.size + 1 + 1 + 1, 1, none⟩ (.int .i64 i)).setCell ⟨w.heap.size + 1 + 1 + 1, 2, none⟩ (.int .i64 (s + 1))).setCell ⟨w.heap.size + 1 + 1 + 1, 3, none⟩ (.int .i64 m)).setCell ⟨w.heap.size + 1 + 1 + 1, 4, none⟩ (.int .i64 z)) [.cells #[.int .i64 i, .int .i64 z, .int .i64 s, .slice oa P.length ca, .int .i64 v, .slice od D.length cd, .int .i64 l, .int .i64 u] 58, .cells #[.int .i64 ti, .int .i64 k, .int .i64 f, .int .i64 t, .int .i64 y, .int .i64 r] 34, .cells #[.int .i64 i, .int .i64 z, .int .i64 (s + 1), .slice o1 M.length c1, .int .i64 v, .slice o2 D.length c2, .int .i64 (l - 1), .int .i64 u] 58, .cells #[.int .i64 ti, .int .i64 i, .int .i64 (s + 1), .int .i64 m, .int .i64 z] 79, .cells #[.int .i64 i, .int .i64 z, .int .i64 s, .slice oa P.length ca, .int .i64 v, .slice od D.length cd, .int .i64 l, .int .i64 u] 166]) := zA (HGc.out.put5 3 (w.heap.size + 1 + 1 + 1) _ _ _ _ _ (.int .i64 ti) (.int .i64 i) (.int .i64 (s + 1)) (.int .i64 m) (.int .i64 z) _ rfl rfl)
  have HTd : Hid (zR (((((wc.setCell ⟨w.heap.size + 1 + 1 + 1, 0, none⟩ (.int .i64 ti)).setCell ⟨w.heap.size + 1 + 1 + 1, 1, none⟩ (.int .i64 i)).setCell ⟨w.heap.size + 1 + 1 + 1, 2, none⟩ (.int .i64 (s + 1))).setCell ⟨w.heap.size + 1 + 1 + 1, 3, none⟩ (.int .i64 m)).setCell ⟨w.heap.size + 1 + 1 + 1, 4, none⟩ (.int .i64 z)) (.slice o1 M.length c1) M) := by
   refine zA ?_
   repeat (first | with_reducible exact HTc.out | with_reducible refine zR.setD ?_ HT.out.2 (by simp; try omega) _)
  have HId : Hid (zP (((((wc.setCell ⟨w.heap.size + 1 + 1 + 1, 0, none⟩ (.int .i64 ti)).setCell ⟨w.heap.size + 1 + 1 + 1, 1, none⟩ (.int .i64 i)).setCell ⟨w.heap.size + 1 + 1 + 1, 2, none⟩ (.int .i64 (s + 1))).setCell ⟨w.heap.size + 1 + 1 + 1, 3, none⟩ (.int .i64 m)).setCell ⟨w.heap.size + 1 + 1 + 1, 4, none⟩ (.int .i64 z)) (.slice o2 D.length c2) D) := by
   refine zA ?_
   repeat (first | with_reducible exact HIc.out | with_reducible refine zP.setD ?_ HI.out.2 (by simp; try omega) _)
  have HQd : Hid (jN (((((wc.setCell ⟨w.heap.size + 1 + 1 + 1, 0, none⟩ (.int .i64 ti)).setCell ⟨w.heap.size + 1 + 1 + 1, 1, none⟩ (.int .i64 i)).setCell ⟨w.heap.size + 1 + 1 + 1, 2, none⟩ (.int .i64 (s + 1))).setCell ⟨w.heap.size + 1 + 1 + 1, 3, none⟩ (.int .i64 m)).setCell ⟨w.heap.size + 1 + 1 + 1, 4, none⟩ (.int .i64 z)) ⟨w5.heap.size, 0, none⟩ ⟨ti, i, s + 1, m, z⟩) := by
   refine zA ?_
   repeat (first | with_reducible exact HQc.out | with_reducible refine jN.setne ?_ _ (by simp; omega) _)
  refine hK _ _ ⟨⟨_, _, HGd.out⟩, HQd.out⟩ ?_
  clear hK K HGc HQc HTc HIc r0 f0 r1 f1 r2 f2 r3 f3 r4 f4
  generalize (((((wc.setCell ⟨w.heap.size + 1 + 1 + 1, 0, none⟩ (.int .i64 ti)).setCell ⟨w.heap.size + 1 + 1 + 1, 1, none⟩ (.int .i64 i)).setCell ⟨w.heap.size + 1 + 1 + 1, 2, none⟩ (.int .i64 (s + 1))).setCell ⟨w.heap.size + 1 + 1 + 1, 3, none⟩ (.int .i64 m)).setCell ⟨w.heap.size + 1 + 1 + 1, 4, none⟩ (.int .i64 z)) = wd at *
  refine oR 6 rfl rfl fun K hK => ?_
  go_simp
  refine hK _ _ ⟨⟨_, _, HGd.out⟩, HQd.out⟩ ?_
  clear hK K
  refine wpAnyH_done (by kernel_rfl) ?_ _
  obtain ⟨g0, g1, g2, g3, g4, g5, g6, g7⟩ := HGd.out.c8 2 (w.heap.size + 1 + 1) rfl rfl rfl rfl rfl rfl rfl rfl rfl rfl
  obtain ⟨h0, h1, h2, h3, h4⟩ := HGd.out.c5 3 (w.heap.size + 1 + 1 + 1) rfl rfl rfl rfl rfl rfl rfl
  go_wp2_with fail
  refine bodyPost_ret (v := .tuple #[gtV i z (s + 1) o1 M.length c1 v o2 D.length c2 (l - 1) u, tp ti i (s + 1) m z, .int .i64 0]) (by simp [results, Tryz.results150, go_sem, *]) rfl ⟨⟨_, rfl, ⟨o1, c1, o2, c2, rfl, HTd.out, HT.out.2.monoD (by omega), HId.out, HI.out.2.monoD (by omega)⟩⟩, HGd.out.2.2⟩
theorem told_any (i z s : Int) (oa : Option Addr) (P : List TP) (ca : Nat) (v : Int) (od : Option Addr) (D : List Int) (cd : Nat) (l u : Int) (v' : Int) (od' : Option Addr) (nd' cd' : Nat) (m : Int) (w : World) (hm : 0 ≤ m) (hm2 : m ≤ 9999) :
  Calls Tryz.prog 140 #[gtV i z s oa P.length ca v od D.length cd l u, dn v' od' nd' cd', .int .i64 m] w fun e w' => e = .returned (gtV i z s none 0 0 v' od' nd' cd' 9 (m + 100)) ∧ Below w.heap.size w w' := by
 have hwr : IntKind.i64.wrap (m + 100) = m + 100 := by rw [IntKind.wrap_i64]; omega
 go_enter Tryz.func140, Tryz.ntmps140
 go_wp2_with fail
 refine bodyPost_ret (v := gtV i z s none 0 0 v' od' nd' cd' 9 (m + 100)) (by simp [results, Tryz.results140, go_sem]) rfl ⟨rfl, ?_⟩
 exact (((Below.refl _ _).alloc (Nat.le_refl _) _).alloc (by simp) _).alloc (by simp; omega) _
def vA (i z s : Int) (P : List TP) (v : Int) (D : List Int) (l u v' : Int) (D' : List Int) (m : Int) : Int :=
 if xH i z s P v D l u = 0 then (if newE v D v' D' = 0 then (if wi m 0 9999 = true then 0 else 3) else newE v D v' D') else xH i z s P v D l u
theorem syncG_ways (i z s : Int) (P : List TP) (v : Int) (D : List Int) (l u v' : Int) (D' : List Int) (m : Int) : ((xH i z s P v D l u != 0) = true ∧ vA i z s P v D l u v' D' m = xH i z s P v D l u) ∨ (xH i z s P v D l u = 0 ∧ (newE v D v' D' != 0) = true ∧ vA i z s P v D l u v' D' m = newE v D v' D') ∨
  (xH i z s P v D l u = 0 ∧ newE v D v' D' = 0 ∧ wi m 0 9999 = false ∧ vA i z s P v D l u v' D' m = 3) ∨ (xH i z s P v D l u = 0 ∧ newE v D v' D' = 0 ∧ wi m 0 9999 = true ∧ vA i z s P v D l u v' D' m = 0) := by
 rw [vA]
 by_cases h1 : xH i z s P v D l u = 0
 ·by_cases h2 : newE v D v' D' = 0
  ·cases wi m 0 9999 <;> simp [h1, h2]
  ·simp [h1, h2]
 ·simp [h1]
theorem gateSync_err (i z s : Int) (oa : Option Addr) (P : List TP) (ca : Nat) (v : Int) (od : Option Addr) (D : List Int) (cd : Nat) (l u : Int) (v' : Int) (od' : Option Addr) (D' : List Int) (cd' : Nat) (m : Int) (w : World) (hP : zI w oa P) (hD : zH w od D) (hD' : zH w od' D') (hlD : D.length ≤ 9223372036854775807) (hlD' : D'.length ≤ 9223372036854775807) (hE : vA i z s P v D l u v' D' m ≠ 0) :
  Calls Tryz.prog 110 #[gtV i z s oa P.length ca v od D.length cd l u, dn v' od' D'.length cd', .int .i64 m] w fun e w' => e = .returned (.tuple #[gtV 0 0 0 none 0 0 0 none 0 0 0 0, .slice none 0 0, .int .i64 (vA i z s P v D l u v' D' m)]) ∧ Below w.heap.size w w' := by
 have HC := zA (fun W (h : zI W oa P) (h' : zH W od D) => gateCheck_any i z s oa P ca v od D cd l u W h h' hlD)
 have HN := zA (fun W (h : zH W od D) (h' : zH W od' D') => newerF_any v v' D D' od od' cd cd' W h h' hlD hlD')
 have HI := zA (fun W => qS m W)
 have HP := zA hP
 have HD := zA hD
 have HD' := zA hD'
 have hp := syncG_ways i z s P v D l u v' D' m
 generalize vA i z s P v D l u v' D' m = E at *
 generalize xH i z s P v D l u = X1 at *
 generalize (if newE v D v' D' = 0 then (if v < v' then v' else v) else 0) = V at *
 generalize (if newE v D v' D' = 0 then (if v < v' then D' else D) else []) = N at *
 generalize newE v D v' D' = X2 at *
 generalize wi m 0 9999 = X3 at *
 clear hP hD hD'
 rcases hp with ⟨h1, rfl⟩ | ⟨rfl, h1, rfl⟩ | ⟨rfl, rfl, rfl, rfl⟩ | ⟨-, -, -, rfl⟩
 rotate_left 3
 ·exact absurd rfl hE
 all_goals
  clear hE
  go_enter Tryz.func110, Tryz.ntmps110
  go_wp2_with fail
  have HG1 := zA ((((zL.nil w).more (.cells #[.int .i64 i, .int .i64 z, .int .i64 s, .slice oa P.length ca, .int .i64 v, .slice od D.length cd, .int .i64 l, .int .i64 u] 58) (by simp)).more (.cells #[.int .i64 v', .slice od' D'.length cd'] 28) (by simp)).more (.cells #[.int .i64 0, .int .i64 0, .int .i64 0, .slice none 0 0, .int .i64 0, .slice none 0 0, .int .i64 0, .int .i64 0] 58) (by simp))
  refine (HC.out _ (HP.out.below HG1.out.2.2) (HD.out.below HG1.out.2.2)).mono ?_
  rintro e w1 ⟨rfl, hb⟩
  have HG1w1 := zA (HG1.out.on hb)
  clear hb HG1
  have lG1_0 := HG1w1.out.lt 0 w.heap.size (by simp) rfl
  obtain ⟨cG1_0_0, cG1_0_1, cG1_0_2, cG1_0_3, cG1_0_4, cG1_0_5, cG1_0_6, cG1_0_7⟩ := HG1w1.out.c8 0 w.heap.size rfl rfl rfl rfl rfl rfl rfl rfl rfl rfl
  have lG1_1 := HG1w1.out.lt 1 (w.heap.size + 1) (by simp) rfl
  obtain ⟨cG1_1_0, cG1_1_1⟩ := HG1w1.out.c2 1 (w.heap.size + 1) rfl rfl rfl rfl
  have lG1_2 := HG1w1.out.lt 2 (w.heap.size + 1 + 1) (by simp) rfl
  obtain ⟨cG1_2_0, cG1_2_1, cG1_2_2, cG1_2_3, cG1_2_4, cG1_2_5, cG1_2_6, cG1_2_7⟩ := HG1w1.out.c8 2 (w.heap.size + 1 + 1) rfl rfl rfl rfl rfl rfl rfl rfl rfl rfl
  obtain ⟨fG1_2_0, fG1_2_1, fG1_2_2, fG1_2_3, fG1_2_4, fG1_2_5, fG1_2_6, fG1_2_7⟩ := HG1w1.out.z8 2 (w.heap.size + 1 + 1) rfl rfl
  go_wp2_with fail
 ·refine bodyPost_ret (v := .tuple #[gtV 0 0 0 none 0 0 0 none 0 0 0 0, .slice none 0 0, .int .i64 E]) (by simp [results, Tryz.results110, go_sem, *]) rfl ⟨rfl, ?_⟩
  repeat (first | with_reducible refine Below.setCell ?_ (by simp; try omega) _ | with_reducible refine Below.alloc ?_ (by simp; omega) _)
  exact HG1w1.out.2.2
 all_goals
  refine (HN.out _ (HD.out.below HG1w1.out.2.2) (HD'.out.below HG1w1.out.2.2)).mono ?_
  rintro e w2 ⟨⟨x, rfl, ⟨on, cn, rfl, hI⟩, hf⟩, hb⟩
  have HG1w2 := zA (HG1w1.out.on hb)
  clear hI hf
  clear lG1_0 cG1_0_0 cG1_0_1 cG1_0_2 cG1_0_3 cG1_0_4 cG1_0_5 cG1_0_6 cG1_0_7 lG1_1 cG1_1_0 cG1_1_1 lG1_2 cG1_2_0 fG1_2_0 cG1_2_1 fG1_2_1 cG1_2_2 fG1_2_2 cG1_2_3 fG1_2_3 cG1_2_4 fG1_2_4 cG1_2_5 fG1_2_5 cG1_2_6 fG1_2_6 cG1_2_7 fG1_2_7
  clear hb HG1w1
  have lG1_0 := HG1w2.out.lt 0 w.heap.size (by simp) rfl
  obtain ⟨cG1_0_0, cG1_0_1, cG1_0_2, cG1_0_3, cG1_0_4, cG1_0_5, cG1_0_6, cG1_0_7⟩ := HG1w2.out.c8 0 w.heap.size rfl rfl rfl rfl rfl rfl rfl rfl rfl rfl
  have lG1_1 := HG1w2.out.lt 1 (w.heap.size + 1) (by simp) rfl
  obtain ⟨cG1_1_0, cG1_1_1⟩ := HG1w2.out.c2 1 (w.heap.size + 1) rfl rfl rfl rfl
  have lG1_2 := HG1w2.out.lt 2 (w.heap.size + 1 + 1) (by simp) rfl
  obtain ⟨cG1_2_0, cG1_2_1, cG1_2_2, cG1_2_3, cG1_2_4, cG1_2_5, cG1_2_6, cG1_2_7⟩ := HG1w2.out.c8 2 (w.heap.size + 1 + 1) rfl rfl rfl rfl rfl rfl rfl rfl rfl rfl
  obtain ⟨fG1_2_0, fG1_2_1, fG1_2_2, fG1_2_3, fG1_2_4, fG1_2_5, fG1_2_6, fG1_2_7⟩ := HG1w2.out.z8 2 (w.heap.size + 1 + 1) rfl rfl
  go_wp2_with fail
 ·refine bodyPost_ret (v := .tuple #[gtV 0 0 0 none 0 0 0 none 0 0 0 0, .slice none 0 0, .int .i64 E]) (by simp [results, Tryz.results110, go_sem, *]) rfl ⟨rfl, ?_⟩
  repeat (first | with_reducible refine Below.setCell ?_ (by simp; try omega) _ | with_reducible refine Below.alloc ?_ (by simp; omega) _)
  exact HG1w2.out.2.2
 ·refine (HI.out _).mono ?_
  rintro e w3 ⟨rfl, rfl⟩
  go_wp2_with fail
  refine bodyPost_ret (v := .tuple #[gtV 0 0 0 none 0 0 0 none 0 0 0 0, .slice none 0 0, .int .i64 3]) (by simp [results, Tryz.results110, go_sem, *]) rfl ⟨rfl, ?_⟩
  repeat (first | with_reducible refine Below.setCell ?_ (by simp; try omega) _ | with_reducible refine Below.alloc ?_ (by simp; omega) _)
  exact HG1w2.out.2.2
theorem gateSync_ok (i z s : Int) (oa : Option Addr) (P : List TP) (ca : Nat) (v : Int) (od : Option Addr) (D : List Int) (cd : Nat) (l u : Int) (v' : Int) (od' : Option Addr) (D' : List Int) (cd' : Nat) (m : Int) (w : World) (hP : zI w oa P) (hD : zH w od D) (hD' : zH w od' D') (hlD : D.length ≤ 9223372036854775807) (hlD' : D'.length ≤ 9223372036854775807) (hlP : P.length ≤ 12) (hE : vA i z s P v D l u v' D' m = 0) :
  Calls Tryz.prog 110 #[gtV i z s oa P.length ca v od D.length cd l u, dn v' od' D'.length cd', .int .i64 m] w fun e w' =>
   (∃ on cn x, e = .returned (.tuple #[gtV i z s none 0 0 (if v < v' then v' else v) on (if v < v' then D' else D).length cn 9 (m + 100), x, .int .i64 0]) ∧ zP w' (.slice on (if v < v' then D' else D).length cn) (if v < v' then D' else D) ∧ zK w.heap.size (.slice on (if v < v' then D' else D).length cn) ∧ zR w' x P ∧ zK w.heap.size x) ∧ Below w.heap.size w w' := by
 have HC := zA (fun W (h : zI W oa P) (h' : zH W od D) => gateCheck_any i z s oa P ca v od D cd l u W h h' hlD)
 have HN := zA (fun W (h : zH W od D) (h' : zH W od' D') => newerF_any v v' D D' od od' cd cd' W h h' hlD hlD')
 have HI := zA (fun W => qS m W)
 have HP := zA hP
 have HD := zA hD
 have HD' := zA hD'
 have hp := syncG_ways i z s P v D l u v' D' m
 rw [hE] at hp
 have hpp : xH i z s P v D l u = 0 ∧ newE v D v' D' = 0 ∧ wi m 0 9999 = true := by
  rcases hp with ⟨h1, h2⟩ | ⟨h1, h2, h3⟩ | ⟨h1, h2, h3, h4⟩ | ⟨h1, h2, h3, h4⟩
  ·rw [← h2] at h1; cases h1
  ·rw [← h3] at h2; cases h2
  ·cases h4
  ·exact ⟨h1, h2, h3⟩
 obtain ⟨h1, h2, h3⟩ := hpp
 have hm := (yO _ _ _).1 h3
 have HTo := zA (fun W on nn cn => told_any i z s oa P ca v od D cd l u (if v < v' then v' else v) on nn cn m W hm.1 hm.2)
 rw [h1] at HC
 rw [h2, if_pos rfl, if_pos rfl] at HN
 rw [h3] at HI
 generalize (if v < v' then v' else v) = V at *
 generalize (if v < v' then D' else D) = N at *
 clear hP hD hD' hE hp h1 h2 h3 hm
 go_enter Tryz.func110, Tryz.ntmps110
 go_wp2_with fail
 have HG1 := zA ((((zL.nil w).more (.cells #[.int .i64 i, .int .i64 z, .int .i64 s, .slice oa P.length ca, .int .i64 v, .slice od D.length cd, .int .i64 l, .int .i64 u] 58) (by simp)).more (.cells #[.int .i64 v', .slice od' D'.length cd'] 28) (by simp)).more (.cells #[.int .i64 0, .int .i64 0, .int .i64 0, .slice none 0 0, .int .i64 0, .slice none 0 0, .int .i64 0, .int .i64 0] 58) (by simp))
 refine (HC.out _ (HP.out.below HG1.out.2.2) (HD.out.below HG1.out.2.2)).mono ?_
 rintro e w1 ⟨rfl, hb⟩
 have HG1w1 := zA (HG1.out.on hb)
 clear hb HG1
 have lG1_0 := HG1w1.out.lt 0 w.heap.size (by simp) rfl
 obtain ⟨cG1_0_0, cG1_0_1, cG1_0_2, cG1_0_3, cG1_0_4, cG1_0_5, cG1_0_6, cG1_0_7⟩ := HG1w1.out.c8 0 w.heap.size rfl rfl rfl rfl rfl rfl rfl rfl rfl rfl
 have lG1_1 := HG1w1.out.lt 1 (w.heap.size + 1) (by simp) rfl
 obtain ⟨cG1_1_0, cG1_1_1⟩ := HG1w1.out.c2 1 (w.heap.size + 1) rfl rfl rfl rfl
 have lG1_2 := HG1w1.out.lt 2 (w.heap.size + 1 + 1) (by simp) rfl
 obtain ⟨cG1_2_0, cG1_2_1, cG1_2_2, cG1_2_3, cG1_2_4, cG1_2_5, cG1_2_6, cG1_2_7⟩ := HG1w1.out.c8 2 (w.heap.size + 1 + 1) rfl rfl rfl rfl rfl rfl rfl rfl rfl rfl
 obtain ⟨fG1_2_0, fG1_2_1, fG1_2_2, fG1_2_3, fG1_2_4, fG1_2_5, fG1_2_6, fG1_2_7⟩ := HG1w1.out.z8 2 (w.heap.size + 1 + 1) rfl rfl
 go_wp2_with fail
 refine (HN.out _ (HD.out.below HG1w1.out.2.2) (HD'.out.below HG1w1.out.2.2)).mono ?_
 rintro e w2 ⟨⟨x, rfl, ⟨on, cn, rfl, hI⟩, hf⟩, hb⟩
 have HG1w2 := zA (HG1w1.out.on hb)
 have hsz1 := HG1w1.out.2.1
 simp only [List.length_append, List.length_cons, List.length_nil] at hsz1
 have HV := zA (And.intro (show zP w2 (.slice on N.length cn) N from ⟨on, cn, rfl, hI⟩) (hf.monoD (show w.heap.size + 1 + 1 + 1 ≤ w1.heap.size by omega)))
 clear hI hf hsz1
 clear lG1_0 cG1_0_0 cG1_0_1 cG1_0_2 cG1_0_3 cG1_0_4 cG1_0_5 cG1_0_6 cG1_0_7 lG1_1 cG1_1_0 cG1_1_1 lG1_2 cG1_2_0 fG1_2_0 cG1_2_1 fG1_2_1 cG1_2_2 fG1_2_2 cG1_2_3 fG1_2_3 cG1_2_4 fG1_2_4 cG1_2_5 fG1_2_5 cG1_2_6 fG1_2_6 cG1_2_7 fG1_2_7
 clear hb HG1w1
 have lG1_0 := HG1w2.out.lt 0 w.heap.size (by simp) rfl
 obtain ⟨cG1_0_0, cG1_0_1, cG1_0_2, cG1_0_3, cG1_0_4, cG1_0_5, cG1_0_6, cG1_0_7⟩ := HG1w2.out.c8 0 w.heap.size rfl rfl rfl rfl rfl rfl rfl rfl rfl rfl
 have lG1_1 := HG1w2.out.lt 1 (w.heap.size + 1) (by simp) rfl
 obtain ⟨cG1_1_0, cG1_1_1⟩ := HG1w2.out.c2 1 (w.heap.size + 1) rfl rfl rfl rfl
 have lG1_2 := HG1w2.out.lt 2 (w.heap.size + 1 + 1) (by simp) rfl
 obtain ⟨cG1_2_0, cG1_2_1, cG1_2_2, cG1_2_3, cG1_2_4, cG1_2_5, cG1_2_6, cG1_2_7⟩ := HG1w2.out.c8 2 (w.heap.size + 1 + 1) rfl rfl rfl rfl rfl rfl rfl rfl rfl rfl
 go_wp2_with fail
 refine (HI.out _).mono ?_
 rintro e w3 ⟨rfl, rfl⟩
 go_wp2_with fail
 clear lG1_0 cG1_0_0 cG1_0_1 cG1_0_2 cG1_0_3 cG1_0_4 cG1_0_5 cG1_0_6 cG1_0_7 lG1_1 cG1_1_0 cG1_1_1 lG1_2 cG1_2_0 cG1_2_1 cG1_2_2 cG1_2_3 cG1_2_4 cG1_2_5 cG1_2_6 cG1_2_7
 have HQ := zA ((zL.nil w2).more (.cells #[.int .i64 V, .slice on N.length cn] 28) (by simp))
 have hszw := HG1w2.out.2.1
 simp only [List.length_append, List.length_cons, List.length_nil] at hszw
 have HGa : Hid (zL w _ [.cells #[.int .i64 i, .int .i64 z, .int .i64 s, .slice oa P.length ca, .int .i64 v, .slice od D.length cd, .int .i64 l, .int .i64 u] 58, .cells #[.int .i64 v', .slice od' D'.length cd'] 28, .cells #[.int .i64 0, .int .i64 0, .int .i64 0, .slice none 0 0, .int .i64 0, .slice none 0 0, .int .i64 0, .int .i64 0] 58]) := zA ((HG1w2.out.on HQ.out.2.2).on (Below.refl _ _).drew)
 have hQx := HQ.out.on (Below.refl _ _).drew
 obtain ⟨q0, q1⟩ := hQx.c2 0 w2.heap.size rfl rfl rfl rfl
 have HVa := zA (And.intro (HV.out.1.below hQx.2.2) HV.out.2)
 clear hQx HC HN HI HV
 refine zJ (fun w' => (∃ oo2, zL w w' [.cells #[.int .i64 i, .int .i64 z, .int .i64 s, .slice oa P.length ca, .int .i64 v, .slice od D.length cd, .int .i64 l, .int .i64 u] 58, .cells #[.int .i64 v', .slice od' D'.length cd'] 28, oo2]) ∧ w'.cell? ⟨w2.heap.size, 0, none⟩ = some (.int .i64 V) ∧ w'.cell? ⟨w2.heap.size, 1, none⟩ = some (.slice on N.length cn)) [0, 1, 2, 3, 5, 6] 5 (by rfl) (by kernel_rfl) (by kernel_rfl) (by kernel_rfl) (fun c d v a w h => by cases d <;> exact h) ?_ ?_
 ·exact ⟨⟨_, HGa.out⟩, q0, q1⟩
 refine zB (gtV i z s oa P.length ca v od D.length cd l u) rfl rfl (fun w' hS => ?_) ?_
 ·obtain ⟨⟨oo2, hS1⟩, p0, p1⟩ := hS
  obtain ⟨k0, k1, k2, k3, k4, k5, k6, k7⟩ := hS1.c8 0 w.heap.size rfl rfl rfl rfl rfl rfl rfl rfl rfl rfl
  go_simp
 refine zB (gtV i z s oa P.length ca v od D.length cd l u) rfl rfl (fun w' hS => ?_) ?_
 ·obtain ⟨⟨oo2, hS1⟩, p0, p1⟩ := hS
  obtain ⟨k0, k1, k2, k3, k4, k5, k6, k7⟩ := hS1.c8 0 w.heap.size rfl rfl rfl rfl rfl rfl rfl rfl rfl rfl
  go_simp
 refine zB (dn V on N.length cn) rfl rfl (fun w' hS => ?_) ?_
 ·obtain ⟨⟨oo2, hS1⟩, p0, p1⟩ := hS
  obtain ⟨k0, k1, k2, k3, k4, k5, k6, k7⟩ := hS1.c8 0 w.heap.size rfl rfl rfl rfl rfl rfl rfl rfl rfl rfl
  go_simp
 refine zB (.int .i64 m) rfl rfl (fun w' hS => ?_) ?_
 ·obtain ⟨⟨oo2, hS1⟩, p0, p1⟩ := hS
  obtain ⟨k0, k1, k2, k3, k4, k5, k6, k7⟩ := hS1.c8 0 w.heap.size rfl rfl rfl rfl rfl rfl rfl rfl rfl rfl
  go_simp
 refine zB (.pointer (some ⟨w.heap.size, 3, none⟩)) rfl rfl (fun w' hS => ?_) ?_
 ·obtain ⟨⟨oo2, hS1⟩, p0, p1⟩ := hS
  obtain ⟨k0, k1, k2, k3, k4, k5, k6, k7⟩ := hS1.c8 0 w.heap.size rfl rfl rfl rfl rfl rfl rfl rfl rfl rfl
  go_simp
 refine zB (.slice oa P.length ca) rfl rfl (fun w' hS => ?_) ?_
 ·obtain ⟨⟨oo2, hS1⟩, p0, p1⟩ := hS
  obtain ⟨k0, k1, k2, k3, k4, k5, k6, k7⟩ := hS1.c8 0 w.heap.size rfl rfl rfl rfl rfl rfl rfl rfl rfl rfl
  go_simp
 refine zE ?_
 clear HG1w2 HQ
 generalize World.drew _ = wa at *
 refine oR 4 rfl rfl fun K hK => ?_
 go_simp
 refine (HTo.out wa on N.length cn).mono ?_
 rintro e wb ⟨rfl, hb⟩
 have HGb : Hid (zL w wb [.cells #[.int .i64 i, .int .i64 z, .int .i64 s, .slice oa P.length ca, .int .i64 v, .slice od D.length cd, .int .i64 l, .int .i64 u] 58, .cells #[.int .i64 v', .slice od' D'.length cd'] 28, .cells #[.int .i64 0, .int .i64 0, .int .i64 0, .slice none 0 0, .int .i64 0, .slice none 0 0, .int .i64 0, .int .i64 0] 58]) := zA (HGa.out.on hb)
 have HVb := zA (And.intro (HVa.out.1.below hb) HVa.out.2)
 have q0b : wb.cell? ⟨w2.heap.size, 0, none⟩ = some (.int .i64 V) := by rw [hb.cell (World.block_lt_of_cell? wa _ q0)]; exact q0
 have q1b : wb.cell? ⟨w2.heap.size, 1, none⟩ = some (.slice on N.length cn) := by rw [hb.cell (World.block_lt_of_cell? wa _ q1)]; exact q1
 clear hb HGa HVa q0 q1
 refine hK _ _ ⟨⟨_, HGb.out⟩, q0b, q1b⟩ ?_
 clear hK K
 refine oR 7 rfl rfl fun K hK => ?_
 go_simp
 refine (cloneP_any P oa ca wb (HP.out.below HGb.out.2.2) (by omega)).mono ?_
 rintro e wc ⟨⟨x, rfl, ⟨ox, cx, rfl, hx⟩, hfx⟩, hb⟩
 have hszb := HGb.out.2.1
 simp only [List.length_cons, List.length_nil] at hszb
 have HX := zA (And.intro (show zR wc (.slice ox P.length cx) P from ⟨ox, cx, rfl, hx⟩) (hfx.monoD (show w.heap.size + 1 + 1 + 1 ≤ wb.heap.size by omega)))
 have HGc : Hid (zL w wc [.cells #[.int .i64 i, .int .i64 z, .int .i64 s, .slice oa P.length ca, .int .i64 v, .slice od D.length cd, .int .i64 l, .int .i64 u] 58, .cells #[.int .i64 v', .slice od' D'.length cd'] 28, .cells #[.int .i64 0, .int .i64 0, .int .i64 0, .slice none 0 0, .int .i64 0, .slice none 0 0, .int .i64 0, .int .i64 0] 58]) := zA (HGb.out.on hb)
 have HVc := zA (And.intro (HVb.out.1.below hb) HVb.out.2)
 have q0c : wc.cell? ⟨w2.heap.size, 0, none⟩ = some (.int .i64 V) := by rw [hb.cell (World.block_lt_of_cell? wb _ q0b)]; exact q0b
 have q1c : wc.cell? ⟨w2.heap.size, 1, none⟩ = some (.slice on N.length cn) := by rw [hb.cell (World.block_lt_of_cell? wb _ q1b)]; exact q1b
 clear hb HGb HVb q0b q1b hx hfx hszb
 refine hK _ _ ⟨⟨_, HGc.out⟩, q0c, q1c⟩ ?_
 clear hK K
 obtain ⟨r0, r1, r2, r3, r4, r5, r6, r7⟩ := HGc.out.c8 2 (w.heap.size + 1 + 1) rfl rfl rfl rfl rfl rfl rfl rfl rfl rfl
 obtain ⟨f0, f1, f2, f3, f4, f5, f6, f7⟩ := HGc.out.z8 2 (w.heap.size + 1 + 1) rfl rfl
 refine oR 8 rfl rfl fun K hK => ?_
 go_simp
 have HGd : Hid (zL w ((((((((wc.setCell ⟨w.heap.size + 1 + 1, 0, none⟩ (.int .i64 i)).setCell ⟨w.heap.size + 1 + 1, 1, none⟩ (.int .i64 z)).setCell ⟨w.heap.size + 1 + 1, 2, none⟩ (.int .i64 s)).setCell ⟨w.heap.size + 1 + 1, 3, none⟩ (.slice none 0 0)).setCell ⟨w.heap.size + 1 + 1, 4, none⟩ (.int .i64 V)).setCell ⟨w.heap.size + 1 + 1, 5, none⟩ (.slice on N.length cn)).setCell ⟨w.heap.size + 1 + 1, 6, none⟩ (.int .i64 9)).setCell ⟨w.heap.size + 1 + 1, 7, none⟩ (.int .i64 (m + 100))) [.cells #[.int .i64 i, .int .i64 z, .int .i64 s, .slice oa P.length ca, .int .i64 v, .slice od D.length cd, .int .i64 l, .int .i64 u] 58, .cells #[.int .i64 v', .slice od' D'.length cd'] 28, .cells #[.int .i64 i, .int .i64 z, .int .i64 s, .slice none 0 0, .int .i64 V, .slice on N.length cn, .int .i64 9, .int .i64 (m + 100)] 58]) := zA (HGc.out.put8 2 (w.heap.size + 1 + 1) _ _ _ _ _ _ _ _ (.int .i64 i) (.int .i64 z) (.int .i64 s) (.slice none 0 0) (.int .i64 V) (.slice on N.length cn) (.int .i64 9) (.int .i64 (m + 100)) _ rfl rfl)
 have HXd : Hid (zR ((((((((wc.setCell ⟨w.heap.size + 1 + 1, 0, none⟩ (.int .i64 i)).setCell ⟨w.heap.size + 1 + 1, 1, none⟩ (.int .i64 z)).setCell ⟨w.heap.size + 1 + 1, 2, none⟩ (.int .i64 s)).setCell ⟨w.heap.size + 1 + 1, 3, none⟩ (.slice none 0 0)).setCell ⟨w.heap.size + 1 + 1, 4, none⟩ (.int .i64 V)).setCell ⟨w.heap.size + 1 + 1, 5, none⟩ (.slice on N.length cn)).setCell ⟨w.heap.size + 1 + 1, 6, none⟩ (.int .i64 9)).setCell ⟨w.heap.size + 1 + 1, 7, none⟩ (.int .i64 (m + 100))) (.slice ox P.length cx) P) := by
  refine zA ?_
  repeat (first | with_reducible exact HX.out.1 | with_reducible refine zR.setD ?_ HX.out.2 (by simp; try omega) _)
 have HVd : Hid (zP ((((((((wc.setCell ⟨w.heap.size + 1 + 1, 0, none⟩ (.int .i64 i)).setCell ⟨w.heap.size + 1 + 1, 1, none⟩ (.int .i64 z)).setCell ⟨w.heap.size + 1 + 1, 2, none⟩ (.int .i64 s)).setCell ⟨w.heap.size + 1 + 1, 3, none⟩ (.slice none 0 0)).setCell ⟨w.heap.size + 1 + 1, 4, none⟩ (.int .i64 V)).setCell ⟨w.heap.size + 1 + 1, 5, none⟩ (.slice on N.length cn)).setCell ⟨w.heap.size + 1 + 1, 6, none⟩ (.int .i64 9)).setCell ⟨w.heap.size + 1 + 1, 7, none⟩ (.int .i64 (m + 100))) (.slice on N.length cn) N) := by
  refine zA ?_
  repeat (first | with_reducible exact HVc.out.1 | with_reducible refine zP.setD ?_ HVc.out.2 (by simp; try omega) _)
 have q0d : ((((((((wc.setCell ⟨w.heap.size + 1 + 1, 0, none⟩ (.int .i64 i)).setCell ⟨w.heap.size + 1 + 1, 1, none⟩ (.int .i64 z)).setCell ⟨w.heap.size + 1 + 1, 2, none⟩ (.int .i64 s)).setCell ⟨w.heap.size + 1 + 1, 3, none⟩ (.slice none 0 0)).setCell ⟨w.heap.size + 1 + 1, 4, none⟩ (.int .i64 V)).setCell ⟨w.heap.size + 1 + 1, 5, none⟩ (.slice on N.length cn)).setCell ⟨w.heap.size + 1 + 1, 6, none⟩ (.int .i64 9)).setCell ⟨w.heap.size + 1 + 1, 7, none⟩ (.int .i64 (m + 100))).cell? ⟨w2.heap.size, 0, none⟩ = some (.int .i64 V) := by
  repeat (first | with_reducible exact q0c | with_reducible refine zX (by simp; omega) ?_)
 have q1d : ((((((((wc.setCell ⟨w.heap.size + 1 + 1, 0, none⟩ (.int .i64 i)).setCell ⟨w.heap.size + 1 + 1, 1, none⟩ (.int .i64 z)).setCell ⟨w.heap.size + 1 + 1, 2, none⟩ (.int .i64 s)).setCell ⟨w.heap.size + 1 + 1, 3, none⟩ (.slice none 0 0)).setCell ⟨w.heap.size + 1 + 1, 4, none⟩ (.int .i64 V)).setCell ⟨w.heap.size + 1 + 1, 5, none⟩ (.slice on N.length cn)).setCell ⟨w.heap.size + 1 + 1, 6, none⟩ (.int .i64 9)).setCell ⟨w.heap.size + 1 + 1, 7, none⟩ (.int .i64 (m + 100))).cell? ⟨w2.heap.size, 1, none⟩ = some (.slice on N.length cn) := by
  repeat (first | with_reducible exact q1c | with_reducible refine zX (by simp; omega) ?_)
 refine hK _ _ ⟨⟨_, HGd.out⟩, q0d, q1d⟩ ?_
 clear hK K HGc q0c q1c r0 f0 r1 f1 r2 f2 r3 f3 r4 f4 r5 f5 r6 f6 r7 f7
 generalize ((((((((wc.setCell ⟨w.heap.size + 1 + 1, 0, none⟩ (.int .i64 i)).setCell ⟨w.heap.size + 1 + 1, 1, none⟩ (.int .i64 z)).setCell ⟨w.heap.size + 1 + 1, 2, none⟩ (.int .i64 s)).setCell ⟨w.heap.size + 1 + 1, 3, none⟩ (.slice none 0 0)).setCell ⟨w.heap.size + 1 + 1, 4, none⟩ (.int .i64 V)).setCell ⟨w.heap.size + 1 + 1, 5, none⟩ (.slice on N.length cn)).setCell ⟨w.heap.size + 1 + 1, 6, none⟩ (.int .i64 9)).setCell ⟨w.heap.size + 1 + 1, 7, none⟩ (.int .i64 (m + 100))) = wd at *
 refine oR 9 rfl rfl fun K hK => ?_
 go_simp
 refine hK _ _ ⟨⟨_, HGd.out⟩, q0d, q1d⟩ ?_
 clear hK K
 refine oR 10 rfl rfl fun K hK => ?_
 go_simp
 refine hK _ _ ⟨⟨_, HGd.out⟩, q0d, q1d⟩ ?_
 clear hK K
 refine wpAnyH_done (by kernel_rfl) ?_ _
 obtain ⟨g0, g1, g2, g3, g4, g5, g6, g7⟩ := HGd.out.c8 2 (w.heap.size + 1 + 1) rfl rfl rfl rfl rfl rfl rfl rfl rfl rfl
 go_wp2_with fail
 refine bodyPost_ret (v := .tuple #[gtV i z s none 0 0 V on N.length cn 9 (m + 100), .slice ox P.length cx, .int .i64 0]) (by simp [results, Tryz.results110, go_sem, *]) rfl ⟨⟨on, cn, _, rfl, HVd.out, HVc.out.2.monoD (by omega), HXd.out, HX.out.2.monoD (by omega)⟩, HGd.out.2.2⟩
end
section
open Go.RowKit
structure Kq (S : Nat → Prop) (w w' : World) : Prop where
 os : w'.os = w.os
 tape : w'.tape = w.tape
 output : w'.output = w.output
 size : w.heap.size ≤ w'.heap.size
 block : ∀ k, k < w.heap.size → ¬ S k → w'.heap[k]? = w.heap[k]?
theorem Kq.refl (S : Nat → Prop) (w : World) : Kq S w w := ⟨rfl, rfl, rfl, Nat.le_refl _, fun _ _ _ => rfl⟩
theorem Kq.trans {S : Nat → Prop} {a b c : World} (h : Kq S a b) (k : Kq S b c) : Kq S a c :=
 ⟨k.os.trans h.os, k.tape.trans h.tape, k.output.trans h.output, Nat.le_trans h.size k.size, fun i hi hs => (k.block i (Nat.lt_of_lt_of_le hi h.size) hs).trans (h.block i hi hs)⟩
theorem Kq.mono {S T : Nat → Prop} {a b : World} (h : Kq S a b) (hst : ∀ k, k < a.heap.size → S k → T k) : Kq T a b :=
 ⟨h.os, h.tape, h.output, h.size, fun k hk ht => h.block k hk (fun hs => ht (hst k hk hs))⟩
theorem Kq.ofBelow {S : Nat → Prop} {a w : World} (h : Below a.heap.size a w) : Kq S a w := ⟨h.os, h.tape, h.output, h.size, fun k hk _ => h.block k hk⟩
theorem Kq.on {S : Nat → Prop} {a b c : World} (h : Kq S a b) (hb : Below b.heap.size b c) : Kq S a c := h.trans (.ofBelow hb)
theorem Kq.setCell {S : Nat → Prop} {a w : World} (h : Kq S a w) {p : Addr} (hp : S p.block) (u : Value) : Kq S a (w.setCell p u) :=
 ⟨h.os, h.tape, h.output, by simpa [World.setCell] using h.size, fun k hk hs => by
  rw [heap_setCell_other w _ _ _ (fun e => hs (by rw [e]; exact hp))]
  exact h.block k hk hs⟩
theorem Kq.setNew {S : Nat → Prop} {a w : World} (h : Kq S a w) {p : Addr} (hp : a.heap.size ≤ p.block) (u : Value) : Kq S a (w.setCell p u) :=
 ⟨h.os, h.tape, h.output, by simpa [World.setCell] using h.size, fun k hk hs => by
  rw [heap_setCell_other w _ _ _ (fun e => by omega)]
  exact h.block k hk hs⟩
theorem Kq.below {S : Nat → Prop} {a w : World} (h : Kq S a w) {B : Nat} (hB : B ≤ a.heap.size) (hS : ∀ k, k < B → ¬ S k) : Below B a w :=
 ⟨h.os, h.tape, h.output, h.size, fun k hk => h.block k (Nat.lt_of_lt_of_le hk hB) (hS k hk)⟩
theorem Kq.obj {S : Nat → Prop} {a w : World} (h : Kq S a w) {k : Nat} {o : Obj} (ho : a.heap[k]? = some o) (hs : ¬ S k) : w.heap[k]? = some o := by
 rw [h.block k (Array.getElem?_eq_some_iff.1 ho).1 hs]
 exact ho
theorem zL.kq {S : Nat → Prop} {w w1 w2 : World} {os : List Obj} (h : zL w w1 os) (hk : Kq S w1 w2) (hS : ∀ k, k < w.heap.size + os.length → ¬ S k) : zL w w2 os := by
 refine ⟨fun i o hi => ?_, Nat.le_trans h.2.1 hk.size, h.2.2.trans (hk.below h.2.2.size (fun k hk' => hS k (by omega)))⟩
 have := (List.getElem?_eq_some_iff.1 hi).1
 exact hk.obj (h.1 i o hi) (hS _ (by omega))
abbrev KQ (K Q : Nat) : Nat → Prop := fun k => k = K ∨ k = Q
section
variable {w : World} {K Q B : Nat} {a : KA} {T : List TK} {P : List TP} {V : List Int} {dv : Int} {D : List Int} {G : List GT} {W : List VW}
theorem Ks.c0 (h : Ks w K Q B a T P V dv D G W) : w.cell? ⟨K, 0, none⟩ = some (.slice a.o1 T.length a.c1) := by rw [cell_of_row _ _ 0 _ _ _ h.box]; rfl
theorem Ks.c1 (h : Ks w K Q B a T P V dv D G W) : w.cell? ⟨K, 1, none⟩ = some (.slice a.o2 P.length a.c2) := by rw [cell_of_row _ _ 1 _ _ _ h.box]; rfl
theorem Ks.c2 (h : Ks w K Q B a T P V dv D G W) : w.cell? ⟨K, 2, none⟩ = some (.slice a.o3 V.length a.c3) := by rw [cell_of_row _ _ 2 _ _ _ h.box]; rfl
theorem Ks.c3 (h : Ks w K Q B a T P V dv D G W) : w.cell? ⟨K, 3, none⟩ = some (.int .i64 dv) := by rw [cell_of_row _ _ 3 _ _ _ h.box]; rfl
theorem Ks.c4 (h : Ks w K Q B a T P V dv D G W) : w.cell? ⟨K, 4, none⟩ = some (.slice a.od D.length a.cd) := by rw [cell_of_row _ _ 4 _ _ _ h.box]; rfl
theorem Ks.c5 (h : Ks w K Q B a T P V dv D G W) : w.cell? ⟨K, 5, none⟩ = some (.slice (some ⟨Q, 0, none⟩) G.length a.cg) := by rw [cell_of_row _ _ 5 _ _ _ h.box]; rfl
theorem Ks.c6 (h : Ks w K Q B a T P V dv D G W) : w.cell? ⟨K, 6, none⟩ = some (.slice a.ov W.length a.cv) := by rw [cell_of_row _ _ 6 _ _ _ h.box]; rfl
theorem Ks.fz (h : Ks w K Q B a T P V dv D G W) (j : Nat) : w.frozen? ⟨K, j, none⟩ = false := frozen_of_row _ _ j _ _ h.box
theorem Ks.gc (h : Ks w K Q B a T P V dv D G W) {q : Nat} {g : GT} (hq : G[q]? = some g) (j : Nat) (hj : j < 8) : w.cell? ⟨Q, q * 8 + j, none⟩ = g.cells[j]? := by
 rw [h.row.cellAt (q * 8 + j) (by have := (List.getElem?_eq_some_iff.1 hq).1; omega)]
 exact qU G q g hq j hj
theorem Ks.g0 (h : Ks w K Q B a T P V dv D G W) {q : Nat} {g : GT} (hq : G[q]? = some g) : w.cell? ⟨Q, q * 8, none⟩ = some (.int .i64 g.i) := h.gc hq 0 (by omega)
theorem Ks.g1 (h : Ks w K Q B a T P V dv D G W) {q : Nat} {g : GT} (hq : G[q]? = some g) : w.cell? ⟨Q, q * 8 + 1, none⟩ = some (.int .i64 g.z) := h.gc hq 1 (by omega)
theorem Ks.g2 (h : Ks w K Q B a T P V dv D G W) {q : Nat} {g : GT} (hq : G[q]? = some g) : w.cell? ⟨Q, q * 8 + 2, none⟩ = some (.int .i64 g.s) := h.gc hq 2 (by omega)
theorem Ks.g3 (h : Ks w K Q B a T P V dv D G W) {q : Nat} {g : GT} (hq : G[q]? = some g) : w.cell? ⟨Q, q * 8 + 3, none⟩ = some (.slice g.oa g.A.length g.ca) := h.gc hq 3 (by omega)
theorem Ks.g4 (h : Ks w K Q B a T P V dv D G W) {q : Nat} {g : GT} (hq : G[q]? = some g) : w.cell? ⟨Q, q * 8 + 4, none⟩ = some (.int .i64 g.v) := h.gc hq 4 (by omega)
theorem Ks.g5 (h : Ks w K Q B a T P V dv D G W) {q : Nat} {g : GT} (hq : G[q]? = some g) : w.cell? ⟨Q, q * 8 + 5, none⟩ = some (.slice g.od g.D.length g.cd) := h.gc hq 5 (by omega)
theorem Ks.g6 (h : Ks w K Q B a T P V dv D G W) {q : Nat} {g : GT} (hq : G[q]? = some g) : w.cell? ⟨Q, q * 8 + 6, none⟩ = some (.int .i64 g.l) := h.gc hq 6 (by omega)
theorem Ks.g7 (h : Ks w K Q B a T P V dv D G W) {q : Nat} {g : GT} (hq : G[q]? = some g) : w.cell? ⟨Q, q * 8 + 7, none⟩ = some (.int .i64 g.u) := h.gc hq 7 (by omega)
def KOff (a : KA) (T : List TK) (P : List TP) (V D : List Int) (G : List GT) (W : List VW) (X : Nat) : Prop :=
 Off a.o1 T X ∧ Off a.o2 P X ∧ Off a.o3 V X ∧ Off a.od D X ∧ Off a.ov W X ∧ ∀ g ∈ G, Off g.oa g.A X ∧ Off g.od g.D X
theorem jA {α : Type} {o : Option Addr} {L : List α} {b X : Nat} (h : ∀ A, o = some A → L ≠ [] → A.block < b) (hX : b ≤ X) : Off o L X := fun A hA hne e => by
 have := h A hA hne
 omega
theorem tapsV_lt {w : World} {o : Option Addr} {n c : Nat} {L : List TP} (h : zR w (.slice o n c) L) : ∀ A, o = some A → L ≠ [] → A.block < w.heap.size := by
 intro A hA hne
 obtain ⟨-, h1, -⟩ := h.eqs
 cases L with
 | nil => exact absurd rfl hne
 | cons p L =>
  obtain ⟨b, hb, c0, -⟩ := h1 0 p rfl
  rw [hA] at hb
  cases hb
  have := World.block_lt_of_cell? w _ c0
  rwa [yY] at this
theorem tiksV_lt {w : World} {o : Option Addr} {n c : Nat} {L : List TK} (h : yJ w (.slice o n c) L) : ∀ A, o = some A → L ≠ [] → A.block < w.heap.size := by
 intro A hA hne
 obtain ⟨-, h1, -⟩ := h.eqs
 cases L with
 | nil => exact absurd rfl hne
 | cons p L =>
  obtain ⟨b, hb, c0, -⟩ := h1 0 p rfl
  rw [hA] at hb
  cases hb
  have := World.block_lt_of_cell? w _ c0
  rwa [yY] at this
theorem intsV_lt {w : World} {o : Option Addr} {n c : Nat} {L : List Int} (h : zP w (.slice o n c) L) : ∀ A, o = some A → L ≠ [] → A.block < w.heap.size := by
 intro A hA hne
 obtain ⟨-, h1, -⟩ := h.eqs
 cases L with
 | nil => exact absurd rfl hne
 | cons p L =>
  obtain ⟨b, hb, c0⟩ := h1 0 p rfl
  rw [hA] at hb
  cases hb
  have := World.block_lt_of_cell? w _ c0
  rwa [yY] at this
theorem vwsV_lt {w : World} {o : Option Addr} {n c : Nat} {L : List VW} (h : qK w (.slice o n c) L) : ∀ A, o = some A → L ≠ [] → A.block < w.heap.size := by
 intro A hA hne
 obtain ⟨-, h1, -⟩ := h.eqs
 cases L with
 | nil => exact absurd rfl hne
 | cons p L =>
  obtain ⟨b, hb, c0, -⟩ := h1 0 p rfl
  rw [hA] at hb
  cases hb
  have := World.block_lt_of_cell? w _ c0
  rwa [yY] at this
theorem Ks.offge (h : Ks w K Q B a T P V dv D G W) {X : Nat} (hX : w.heap.size ≤ X) : KOff a T P V D G W X :=
 ⟨jA (tiksV_lt h.kl.tik.1) hX, jA (tapsV_lt h.kl.tap.1) hX, jA (intsV_lt h.kl.ver.1) hX, jA (intsV_lt h.kl.den.1) hX, jA (vwsV_lt h.kl.vws.1) hX, fun g hg => ⟨jA (tapsV_lt (h.kl.gts g hg).1.1) hX, jA (intsV_lt (h.kl.gts g hg).2.1) hX⟩⟩
theorem Ks.setX (h : Ks w K Q B a T P V dv D G W) {p : Addr} (hX : KOff a T P V D G W p.block) (hK : p.block ≠ K) (hQ : p.block ≠ Q) (u : Value) : Ks (w.setCell p u) K Q B a T P V dv D G W :=
  ⟨zD h.box hK u, zU h.row hQ u, h.bk, h.ne, ⟨h.kl.tik.1.setO hX.1 u, h.kl.tik.2⟩, ⟨h.kl.tap.1.setO hX.2.1 u, h.kl.tap.2⟩, ⟨h.kl.ver.1.setO hX.2.2.1 u, h.kl.ver.2⟩, ⟨h.kl.den.1.setO hX.2.2.2.1 u, h.kl.den.2⟩, ⟨h.kl.vws.1.setO hX.2.2.2.2.1 u, h.kl.vws.2⟩,
   fun g hg => ⟨⟨(h.kl.gts g hg).1.1.setO (hX.2.2.2.2.2 g hg).1 u, (h.kl.gts g hg).1.2⟩, (h.kl.gts g hg).2.1.setO (hX.2.2.2.2.2 g hg).2 u, (h.kl.gts g hg).2.2⟩⟩
theorem yM (h : yP T P V dv D G W = 0) : xC T P V = 0 ∧ yZ dv D = 0 ∧ G.length = 3 ∧ (∀ q g, G[q]? = some g → jY dv P q g = 0) ∧ yL W = 0 ∧ W.length = 3 := by
 unfold yP at h
 by_cases h1 : xC T P V = 0
 ·rw [if_pos h1] at h
  by_cases h2 : yZ dv D = 0
  ·rw [if_pos h2] at h
   by_cases h3 : jB dv P G = 0
   ·rw [if_pos h3] at h
    have hG : G.length = 3 := by
     by_cases hg : G.length = 3
     ·exact hg
     ·rw [jB, if_neg hg] at h3
      omega
    rw [jB, if_pos hG] at h3
    have hW : W.length = 3 := by
     by_cases hw : W.length = 3
     ·exact hw
     ·rw [yL, if_neg hw] at h
      omega
    refine ⟨h1, h2, hG, ?_, h, hW⟩
    have hz : ∀ (L : List GT) (n : Nat), gatesF dv P n L = 0 → ∀ q g, L[q]? = some g → jY dv P (n + q) g = 0 := by
     intro L
     induction L with
     | nil => intro n _ q g hg; simp at hg
     | cons x L ih =>
      intro n hf q g hg
      rw [gatesF] at hf
      by_cases hx : jY dv P n x = 0
      ·rw [if_pos hx] at hf
       match q, hg with
       | 0, hg => simp at hg; subst hg; exact hx
       | q + 1, hg =>
        have := ih (n + 1) hf q g (by simpa using hg)
        rwa [show n + 1 + q = n + (q + 1) by omega] at this
      ·rw [if_neg hx] at hf
       exact absurd hf hx
    intro q g hg
    have := hz G 0 h3 q g hg
    rwa [Nat.zero_add] at this
   ·rw [if_neg h3] at h
    exact absurd h h3
  ·rw [if_neg h2] at h
   exact absurd h h2
 ·rw [if_neg h1] at h
  exact absurd h h1
theorem qH {n : Nat} {g : GT} (h : jY dv P n g = 0) : xH g.i g.z g.s g.A g.v g.D g.l g.u = 0 ∧ g.i = n ∧ ¬ dv < g.v ∧ P.any (twiG g.i g.s g.A) = false := by
 unfold jY at h
 by_cases h1 : xH g.i g.z g.s g.A g.v g.D g.l g.u = 0
 ·rw [if_pos h1] at h
  by_cases h2 : g.i = (n : Int) ∧ ¬ dv < g.v
  ·rw [if_pos h2] at h
   refine ⟨h1, h2.1, h2.2, ?_⟩
   cases hx : P.any (twiG g.i g.s g.A)
   ·rfl
   ·rw [hx] at h
    simp at h
  ·rw [if_neg h2] at h
   omega
 ·rw [if_neg h1] at h
  exact absurd h h1
end
theorem xP.of {T : List TK} {P : List TP} {V : List Int} (h : xC T P V = 0) : xP T P V := by
 obtain ⟨r1, r2, r3, -, -⟩ := zW h
 exact ⟨by omega, by omega, by omega⟩
def Led6 (F : Nat) (w : World) (x1 : Option Addr) (y1 : Nat) (x2 : Option Addr) (y2 : Nat) (x3 : Option Addr) (y3 : Nat) (T : List TK) (P : List TP) (V : List Int) : Prop :=
 (yJ w (.slice x1 T.length y1) T ∧ zK F (.slice x1 T.length y1)) ∧ (zR w (.slice x2 P.length y2) P ∧ zK F (.slice x2 P.length y2)) ∧ zP w (.slice x3 V.length y3) V ∧ zK F (.slice x3 V.length y3)
theorem Led6.below {F : Nat} {w w' : World} {x1 x2 x3 : Option Addr} {y1 y2 y3 : Nat} {T : List TK} {P : List TP} {V : List Int} (h : Led6 F w x1 y1 x2 y2 x3 y3 T P V) (hb : Below w.heap.size w w') : Led6 F w' x1 y1 x2 y2 x3 y3 T P V :=
 ⟨⟨h.1.1.below hb, h.1.2⟩, ⟨h.2.1.1.below hb, h.2.1.2⟩, h.2.2.1.below hb, h.2.2.2⟩
theorem Led6.set {F : Nat} {w : World} {x1 x2 x3 : Option Addr} {y1 y2 y3 : Nat} {T : List TK} {P : List TP} {V : List Int} (h : Led6 F w x1 y1 x2 y2 x3 y3 T P V) {p : Addr} (hp : p.block < F) (u : Value) : Led6 F (w.setCell p u) x1 y1 x2 y2 x3 y3 T P V :=
 ⟨⟨h.1.1.set h.1.2 hp u, h.1.2⟩, ⟨h.2.1.1.set h.2.1.2 hp u, h.2.1.2⟩, h.2.2.1.set h.2.2.2 hp u, h.2.2.2⟩
theorem Led6.mono {F E : Nat} {w : World} {x1 x2 x3 : Option Addr} {y1 y2 y3 : Nat} {T : List TK} {P : List TP} {V : List Int} (h : Led6 F w x1 y1 x2 y2 x3 y3 T P V) (hE : E ≤ F) : Led6 E w x1 y1 x2 y2 x3 y3 T P V :=
 ⟨⟨h.1.1, h.1.2.mono hE⟩, ⟨h.2.1.1, h.2.1.2.mono hE⟩, h.2.2.1, h.2.2.2.mono hE⟩
theorem LedN.led6 {F : Nat} {w : World} {v : Value} {T : List TK} {P : List TP} {V : List Int} (h : LedN F w v T P V) : ∃ x1 y1 x2 y2 x3 y3, v = lg x1 x2 x3 T.length y1 P.length y2 V.length y3 ∧ Led6 F w x1 y1 x2 y2 x3 y3 T P V := by
 obtain ⟨q1, e1, q2, e2, q3, e3, rfl, a1, a2, a3, f1, f2, f3⟩ := h.open6
 exact ⟨q1, e1, q2, e2, q3, e3, rfl, ⟨a1, f1⟩, ⟨a2, f2⟩, a3, f3⟩
theorem sellFV {w : World} {v : Value} {T : List TK} {P : List TP} {V : List Int} (h : xW w v T P V) (hl : xP T P V) (i k f t z r : Int) : Calls Tryz.prog 124 #[v, tk i k f t z r] w fun e w' =>
   (∃ v, e = .returned (.tuple #[v, .int .i64 (sellE T P V ⟨i, k, f, t, z, r⟩)]) ∧ LedN w.heap.size w' v (if sellE T P V ⟨i, k, f, t, z, r⟩ = 0 then qI T ⟨i, k, f, t, z, r⟩ else []) (if sellE T P V ⟨i, k, f, t, z, r⟩ = 0 then P else []) (if sellE T P V ⟨i, k, f, t, z, r⟩ = 0 then V else [])) ∧ Below w.heap.size w w' := by
 obtain ⟨o1, c1, o2, c2, o3, c3, rfl, a1, a2, a3, ⟨l1, l2, l3⟩, n1, -, -⟩ := h.opened
 exact sellF_any T P V i k f t z r o1 o2 o3 c1 c2 c3 w a1 a2 a3 hl.1 hl.2.1 hl.2.2 l1 l2 l3 n1
end
section
open Go.ChangeShapes Go.WideShapes Go.ChangeAt Go.RowKit Go.Deep
section
variable {H : Type} {enc : TypeId × Value → H}
end
end
section
open Go.ChangeShapes Go.WideShapes Go.ChangeAt Go.RowKit Go.Deep
section
variable {H : Type} {enc : TypeId × Value → H}
structure StW (W : World) (o1 o2 o3 : Option Addr) (c1 c2 c3 : Nat) (T : List TK) (P : List TP) (V : List Int) (od : Option Addr) (cd : Nat) (D : List Int) (og : Option Addr) (cg : Nat) (G : List GT) (ov : Option Addr) (cv : Nat) (L : List VW) : Prop where
 led : xW W (lg o1 o2 o3 T.length c1 P.length c2 V.length c3) T P V
 lok : xP T P V
 den : IntsOk W od D cd
 gts : xA W og G
 gok : GatesOk G
 gle : G.length ≤ cg
 gno : og = none → cg = 0
 gln : G.length ≤ 9223372036854775807
 vws : zZ W ov L
 vle : L.length ≤ cv
 vno : ov = none → cv = 0
 vln : L.length ≤ 9223372036854775807
end
end
section
open Go.RowKit
structure StR (w : World) (B : Nat) (v : Value) (T : List TK) (P : List TP) (V : List Int) (dv : Int) (D : List Int) (G : List GT) (W : List VW) : Prop where
 of : ∃ (o1 : Option Addr) (c1 : Nat) (o2 : Option Addr) (c2 : Nat) (o3 : Option Addr) (c3 : Nat) (od : Option Addr) (cd : Nat) (og : Option Addr) (cg : Nat) (ov : Option Addr) (cv : Nat),
  v = stV o1 o2 o3 T.length c1 P.length c2 V.length c3 dv od D.length cd og G.length cg ov W.length cv ∧ StW w o1 o2 o3 c1 c2 c3 T P V od cd D og cg G ov cv W ∧
  zK B (.slice o1 T.length c1) ∧ zK B (.slice o2 P.length c2) ∧ zK B (.slice o3 V.length c3) ∧ zK B (.slice od D.length cd) ∧ zK B (.slice og G.length cg) ∧ zK B (.slice ov W.length cv) ∧ ∀ g ∈ G, zK B (.slice g.oa g.A.length g.ca) ∧ zK B (.slice g.od g.D.length g.cd)
theorem StW.below {w w' : World} {o1 o2 o3 od og ov : Option Addr} {c1 c2 c3 cd cg cv : Nat} {T : List TK} {P : List TP} {V D : List Int} {G : List GT} {L : List VW} (h : StW w o1 o2 o3 c1 c2 c3 T P V od cd D og cg G ov cv L) (hb : Below w.heap.size w w') : StW w' o1 o2 o3 c1 c2 c3 T P V od cd D og cg G ov cv L :=
 ⟨h.led.below hb, h.lok, ⟨h.den.1.below hb, h.den.2⟩, h.gts.below hb, h.gok, h.gle, h.gno, h.gln, h.vws.below hb, h.vle, h.vno, h.vln⟩
theorem StR.below {w w' : World} {B : Nat} {v : Value} {T : List TK} {P : List TP} {V : List Int} {dv : Int} {D : List Int} {G : List GT} {W : List VW} (h : StR w B v T P V dv D G W) (hb : Below w.heap.size w w') : StR w' B v T P V dv D G W := by
 obtain ⟨o1, c1, o2, c2, o3, c3, od, cd, og, cg, ov, cv, e, hs, hf⟩ := h.of
 exact ⟨⟨o1, c1, o2, c2, o3, c3, od, cd, og, cg, ov, cv, e, hs.below hb, hf⟩⟩
def LnS (T : List TK) (P : List TP) (V D : List Int) (G : List GT) (W : List VW) : Prop := xP T P V ∧ D.length ≤ 9223372036854775807 ∧ GatesOk G ∧ G.length ≤ 9223372036854775807 ∧ W.length ≤ 9223372036854775807
theorem Ks.gates {w : World} {K Q B : Nat} {a : KA} {T : List TK} {P : List TP} {V : List Int} {dv : Int} {D : List Int} {G : List GT} {W : List VW} (h : Ks w K Q B a T P V dv D G W) : xA w (some ⟨Q, 0, none⟩) G := by
 intro i g hi
 have hm := h.kl.gts g (List.mem_of_getElem? hi)
 refine ⟨_, rfl, ?_, hm.1.1, hm.2.1⟩
 rw [qX]
 exact ⟨h.g0 hi, h.g1 hi, h.g2 hi, h.g3 hi, h.g4 hi, h.g5 hi, h.g6 hi, h.g7 hi⟩
theorem Ks.str {w : World} {K Q B : Nat} {a : KA} {T : List TK} {P : List TP} {V : List Int} {dv : Int} {D : List Int} {G : List GT} {W : List VW} (h : Ks w K Q B a T P V dv D G W) (hl : LnS T P V D G W) :
  StR w B (stV a.o1 a.o2 a.o3 T.length a.c1 P.length a.c2 V.length a.c3 dv a.od D.length a.cd (some ⟨Q, 0, none⟩) G.length a.cg a.ov W.length a.cv) T P V dv D G W := by
 have hq := qQ h.row
 obtain ⟨o, c, e1, e2, -⟩ := xM h.row
 simp only [Value.slice.injEq, true_and] at e1
 obtain ⟨-, rfl⟩ := e1
 refine ⟨⟨_, _, _, _, _, _, _, _, _, _, _, _, rfl, ⟨h.led, hl.1, ⟨h.kl.den.1.eqs.2.1, hl.2.1, h.kl.den.1.eqs.2.2⟩, h.gates, hl.2.2.1, e2, (fun h => by cases h), hl.2.2.2.1, h.kl.vws.1.ats, h.kl.vws.1.eqs.2.2.1, h.kl.vws.1.eqs.2.2.2, hl.2.2.2.2⟩, h.kl.tik.2.1, h.kl.tap.2.1, h.kl.ver.2.1, h.kl.den.2.1, fun k hk => ?_, h.kl.vws.2.1, fun g hg => ⟨(h.kl.gts g hg).1.2.1, (h.kl.gts g hg).2.2.1⟩⟩⟩
 simp only [Value.ownBlock, Option.some.injEq] at hk
 omega
theorem Kq.next {X T : Nat → Prop} {a b c : World} (h : Kq X a b) (k : Kq T b c) (hT : ∀ i, i < a.heap.size → T i → X i) : Kq X a c :=
 ⟨k.os.trans h.os, k.tape.trans h.tape, k.output.trans h.output, Nat.le_trans h.size k.size, fun i hi hs => (k.block i (Nat.lt_of_lt_of_le hi h.size) (fun ht => hs (hT i hi ht))).trans (h.block i hi hs)⟩
theorem gate_lens {dv : Int} {P : List TP} {n : Nat} {g : GT} (h : jY dv P n g = 0) : g.A.length ≤ 12 ∧ g.D.length ≤ 12 ∧ 0 ≤ g.s ∧ g.s ≤ 99 := by
 obtain ⟨h1, -, -, -⟩ := qH h
 obtain ⟨c1, -, c3, -⟩ := jQ h1
 obtain ⟨-, s2, -, s4⟩ := errS_right c1
 exact ⟨s4, (yE c3).2.2.1, s2⟩
theorem changed_any (fn : Nat) (caps : Array Value) (hent : ∀ (args : Array Value) (W : World), (callFunc fn args).run Tryz.prog W = .ok (.enter fn args) W) (X : Nat → Prop)
  (T : List TK) (P : List TP) (V : List Int) (dv : Int) (D : List Int) (G : List GT) (W : List VW) (o1 o2 o3 od og ov : Option Addr) (c1 c2 c3 cd cg cv : Nat) (w : World) (hs : StW w o1 o2 o3 c1 c2 c3 T P V od cd D og cg G ov cv W) (hX : ∀ k, X k → k < w.heap.size)
  (Er : Int → World → Prop) (Ok : KA → List TK → List TP → List Int → Int → List Int → List GT → List VW → World → Prop)
  (hEr : ∀ E w2 p u, p.block = w.heap.size + 1 → Er E w2 → Er E (w2.setCell p u)) (hOk : ∀ a T P V dv D G W w2 p u, p.block = w.heap.size + 1 → Ok a T P V dv D G W w2 → Ok a T P V dv D G W (w2.setCell p u))
  (hdo : yP T P V dv D G W = 0 → ∀ (w1 : World) (K Q : Nat) (a : KA) (G' : List GT), G'.map GT.p = G.map GT.p → Ks w1 K Q (w.heap.size + 1 + 1) a T P V dv D G' W → Below w.heap.size w w1 →
   Calls Tryz.prog fn (#[.pointer (some ⟨K, 0, none⟩)] ++ caps) w1 fun e w2 => ∃ E, e = .returned (.int .i64 E) ∧ Kq (fun k => k = K ∨ k = Q ∨ X k) w1 w2 ∧ (E ≠ 0 → Er E w2) ∧ (E = 0 → ∃ a' T' P' V' dv' D' G'' W', Ks w2 K Q (w.heap.size + 1 + 1) a' T' P' V' dv' D' G'' W' ∧ LnS T' P' V' D' G'' W' ∧ Ok a' T' P' V' dv' D' G'' W' w2)) :
  Calls Tryz.prog 60 #[stV o1 o2 o3 T.length c1 P.length c2 V.length c3 dv od D.length cd og G.length cg ov W.length cv, .func (.func fn) #[] caps] w fun e w' =>
   (∃ v E, e = .returned (.tuple #[v, .int .i64 E]) ∧ (yP T P V dv D G W ≠ 0 → E = yP T P V dv D G W ∧ Below w.heap.size w w') ∧ (E ≠ 0 → v = stV none none none 0 0 0 0 0 0 0 none 0 0 none 0 0 none 0 0) ∧ (yP T P V dv D G W = 0 → (E ≠ 0 → Er E w') ∧
    (E = 0 → ∃ a T' P' V' dv' D' G' W', StR w' (w.heap.size + 1 + 1) v T' P' V' dv' D' G' W' ∧ Ok a T' P' V' dv' D' G' W' w'))) ∧ Kq X w w' := by
 have HB := zA (((zL.nil w).more (.cells #[.slice o1 T.length c1, .slice o2 P.length c2, .slice o3 V.length c3, .int .i64 dv, .slice od D.length cd, .slice og G.length cg, .slice ov W.length cv] 32) (by simp)).more (.cells #[.slice none 0 0, .slice none 0 0, .slice none 0 0, .int .i64 0, .slice none 0 0, .slice none 0 0, .slice none 0 0] 32) (by simp))
 have HS := zA hs
 have HX := zA hX
 have HE := zA hEr
 have HO := zA hOk
 have HD := zA hdo
 have HC := zA (fun Y (h : StW Y o1 o2 o3 c1 c2 c3 T P V od cd D og cg G ov cv W) => qB T P V dv D G W o1 o2 o3 od og ov c1 c2 c3 cd cg cv Y h.led h.lok h.den.1 h.den.2.1 h.gts h.gok h.vws h.vln)
 clear hs hX hEr hOk hdo
 have HR := zA (fun h : yP T P V dv D G W = 0 => yM h)
 generalize hc : yP T P V dv D G W = C at *
 clear hc
 obtain ⟨k0, k1, k2, k3, k4, k5, k6⟩ := HB.out.c7 0 w.heap.size rfl rfl rfl rfl rfl rfl rfl rfl rfl
 rcases hC : (C != 0) with _ | _
 ·obtain rfl : C = 0 := by simpa using hC
  clear hC
  obtain ⟨p1, p2, p3, p4, -, p6⟩ := HR.out rfl
  obtain ⟨l1, l2, l3, -, -⟩ := zW p1
  have l4 := (yE p2).2.2.1
  have l5 : V.length ≤ 60 := by omega
  have l6 : G.length ≤ 60 := by omega
  have l7 : W.length ≤ 60 := by omega
  have l8 : 0 < G.length := by omega
  have HGl := zA (fun g (hg : g ∈ G) => show g.A.length ≤ 60 ∧ g.D.length ≤ 60 from by
   obtain ⟨i, hi⟩ := List.mem_iff_getElem?.1 hg
   have := gate_lens (p4 i g hi)
   omega)
  clear p1 p2 p3 p4 p6 l3
  obtain ⟨g0, hg0⟩ : ∃ g, G[0]? = some g := ⟨G[0], by simp [l8]⟩
  obtain ⟨A, rfl, -⟩ := HS.out.gts 0 g0 hg0
  clear hg0
  have HF := zA (fun Y (h : StW Y o1 o2 o3 c1 c2 c3 T P V od cd D (some A) cg G ov cv W) => freshStation_any T P V dv D G W o1 o2 o3 od A ov c1 c2 c3 cd cg cv Y h.led.parts3.1.ats h.led.parts3.2.1.ats h.led.parts3.2.2.ats h.den.1 h.gts h.vws (by omega) l2 l5 (by omega) l7 l6 HGl.out)
  go_enter Tryz.func60, Tryz.ntmps60
  go_wp2_with fail
  refine (HC.out _ (HS.out.below HB.out.2.2)).mono ?_
  rintro e w1 ⟨rfl, hb⟩
  have HB1 := zA (HB.out.on hb)
  clear hb HB HC k0 k1 k2 k3 k4 k5 k6
  obtain ⟨k0, k1, k2, k3, k4, k5, k6⟩ := HB1.out.c7 0 w.heap.size rfl rfl rfl rfl rfl rfl rfl rfl rfl
  go_wp2_with fail
  refine (HF.out _ (HS.out.below HB1.out.2.2)).mono ?_
  rintro e w2 ⟨⟨x1, y1, x2, y2, x3, y3, x4, y4, Q, cq, x5, y5, G', rfl, hm, hf⟩, hb⟩
  have HB2 := zA (HB1.out.on hb)
  have hz1 : w.heap.size + 1 + 1 ≤ w1.heap.size := HB1.out.2.1
  have hz2 : w1.heap.size ≤ w2.heap.size := hb.size
  have hQ := qQ hf.row
  have hgl : G'.length = G.length := by have := congrArg List.length hm; simpa using this
  have hK := Ks.new (B := w.heap.size + 1 + 1) (dv := dv) hf hz1 hz2
  simp only [boxK] at hK
  rw [hgl] at hK
  have HK := zA hK
  have HM := zA hm
  have hba := (Below.refl w2.heap.size w2).alloc (Nat.le_refl _) (.cells #[.slice x1 T.length y1, .slice x2 P.length y2, .slice x3 V.length y3, .int .i64 dv, .slice x4 D.length y4, .slice (some ⟨Q, 0, none⟩) G.length cq, .slice x5 W.length y5] 92)
  have HB3 := zA (HB2.out.on hba)
  have hz3 : w2.heap.size < (w2.alloc (.cells #[.slice x1 T.length y1, .slice x2 P.length y2, .slice x3 V.length y3, .int .i64 dv, .slice x4 D.length y4, .slice (some ⟨Q, 0, none⟩) G.length cq, .slice x5 W.length y5] 92)).heap.size := by simp
  clear hf hb hm hK hgl HB1 HB2 HF hba k0 k1 k2 k3 k4 k5 k6
  go_wp2_with fail
  generalize w2.alloc (.cells #[.slice x1 T.length y1, .slice x2 P.length y2, .slice x3 V.length y3, .int .i64 dv, .slice x4 D.length y4, .slice (some ⟨Q, 0, none⟩) G.length cq, .slice x5 W.length y5] 92) = w3 at *
  refine (HD.out trivial w3 w2.heap.size Q _ G' HM.out HK.out HB3.out.2.2).mono ?_
  rintro e w4 ⟨E, rfl, hkq, he, ho⟩
  have hns : ¬ (w.heap.size + 1 = w2.heap.size ∨ w.heap.size + 1 = Q ∨ X (w.heap.size + 1)) := by
   rintro (h | h | h)
   ·omega
   ·omega
   ·have := HX.out _ h
    omega
  have HZ := zA (hkq.obj (HB3.out.1 1 _ rfl) hns)
  have HQ := zA (Kq.next (X := X) (.ofBelow HB3.out.2.2) hkq (fun i hi h => by
   rcases h with h | h | h
   ·omega
   ·omega
   ·exact h))
  have HEr := zA he
  have HOk := zA ho
  clear hkq he ho hns HK HM HB3 HD
  have r0 := cell_of_row _ _ 0 _ _ _ HZ.out
  have r1 := cell_of_row _ _ 1 _ _ _ HZ.out
  have r2 := cell_of_row _ _ 2 _ _ _ HZ.out
  have r3 := cell_of_row _ _ 3 _ _ _ HZ.out
  have r4 := cell_of_row _ _ 4 _ _ _ HZ.out
  have r5 := cell_of_row _ _ 5 _ _ _ HZ.out
  have r6 := cell_of_row _ _ 6 _ _ _ HZ.out
  have s0 := frozen_of_row _ _ 0 _ _ HZ.out
  have s1 := frozen_of_row _ _ 1 _ _ HZ.out
  have s2 := frozen_of_row _ _ 2 _ _ HZ.out
  have s3 := frozen_of_row _ _ 3 _ _ HZ.out
  have s4 := frozen_of_row _ _ 4 _ _ HZ.out
  have s5 := frozen_of_row _ _ 5 _ _ HZ.out
  have s6 := frozen_of_row _ _ 6 _ _ HZ.out
  simp at r0 r1 r2 r3 r4 r5 r6
  rcases hE : (E != 0) with _ | _
  ·obtain rfl : E = 0 := by simpa using hE
   obtain ⟨a', T', P', V', dv', D', G'', W', hk, hl, hok⟩ := HOk.out rfl
   have HK4 := zA hk
   have HL := zA hl
   have HO4 := zA hok
   clear hk hl hok HEr HOk
   have k0 := HK4.out.c0
   have k1 := HK4.out.c1
   have k2 := HK4.out.c2
   have k3 := HK4.out.c3
   have k4 := HK4.out.c4
   have k5 := HK4.out.c5
   have k6 := HK4.out.c6
   go_wp2_with fail
   have HZ5 := zA (heap_setCell_same _ (w.heap.size + 1) 6 _ _ (.slice a'.ov W'.length a'.cv) (heap_setCell_same _ (w.heap.size + 1) 5 _ _ (.slice (some ⟨Q, 0, none⟩) G''.length a'.cg) (heap_setCell_same _ (w.heap.size + 1) 4 _ _ (.slice a'.od D'.length a'.cd) (heap_setCell_same _ (w.heap.size + 1) 3 _ _ (.int .i64 dv') (heap_setCell_same _ (w.heap.size + 1) 2 _ _ (.slice a'.o3 V'.length a'.c3) (heap_setCell_same _ (w.heap.size + 1) 1 _ _ (.slice a'.o2 P'.length a'.c2) (heap_setCell_same _ (w.heap.size + 1) 0 _ _ (.slice a'.o1 T'.length a'.c1) HZ.out)))))))
   have HK5 := zA (((((((HK4.out.setB (p := ⟨w.heap.size + 1, 0, none⟩) (by simp) (.slice a'.o1 T'.length a'.c1)).setB (p := ⟨w.heap.size + 1, 1, none⟩) (by simp) (.slice a'.o2 P'.length a'.c2)).setB (p := ⟨w.heap.size + 1, 2, none⟩) (by simp) (.slice a'.o3 V'.length a'.c3)).setB (p := ⟨w.heap.size + 1, 3, none⟩) (by simp) (.int .i64 dv')).setB (p := ⟨w.heap.size + 1, 4, none⟩) (by simp) (.slice a'.od D'.length a'.cd)).setB (p := ⟨w.heap.size + 1, 5, none⟩) (by simp) (.slice (some ⟨Q, 0, none⟩) G''.length a'.cg)).setB (p := ⟨w.heap.size + 1, 6, none⟩) (by simp) (.slice a'.ov W'.length a'.cv))
   have HQ5 := zA (((((((HQ.out.setNew (p := ⟨w.heap.size + 1, 0, none⟩) (by simp) (.slice a'.o1 T'.length a'.c1)).setNew (p := ⟨w.heap.size + 1, 1, none⟩) (by simp) (.slice a'.o2 P'.length a'.c2)).setNew (p := ⟨w.heap.size + 1, 2, none⟩) (by simp) (.slice a'.o3 V'.length a'.c3)).setNew (p := ⟨w.heap.size + 1, 3, none⟩) (by simp) (.int .i64 dv')).setNew (p := ⟨w.heap.size + 1, 4, none⟩) (by simp) (.slice a'.od D'.length a'.cd)).setNew (p := ⟨w.heap.size + 1, 5, none⟩) (by simp) (.slice (some ⟨Q, 0, none⟩) G''.length a'.cg)).setNew (p := ⟨w.heap.size + 1, 6, none⟩) (by simp) (.slice a'.ov W'.length a'.cv))
   have HO5 := zA (HO.out a' T' P' V' dv' D' G'' W' _ ⟨w.heap.size + 1, 6, none⟩ (.slice a'.ov W'.length a'.cv) rfl (HO.out a' T' P' V' dv' D' G'' W' _ ⟨w.heap.size + 1, 5, none⟩ (.slice (some ⟨Q, 0, none⟩) G''.length a'.cg) rfl (HO.out a' T' P' V' dv' D' G'' W' _ ⟨w.heap.size + 1, 4, none⟩ (.slice a'.od D'.length a'.cd) rfl (HO.out a' T' P' V' dv' D' G'' W' _ ⟨w.heap.size + 1, 3, none⟩ (.int .i64 dv') rfl (HO.out a' T' P' V' dv' D' G'' W' _ ⟨w.heap.size + 1, 2, none⟩ (.slice a'.o3 V'.length a'.c3) rfl (HO.out a' T' P' V' dv' D' G'' W' _ ⟨w.heap.size + 1, 1, none⟩ (.slice a'.o2 P'.length a'.c2) rfl (HO.out a' T' P' V' dv' D' G'' W' _ ⟨w.heap.size + 1, 0, none⟩ (.slice a'.o1 T'.length a'.c1) rfl HO4.out)))))))
   clear HZ HK4 HQ HO4 r0 r1 r2 r3 r4 r5 r6 s0 s1 s2 s3 s4 s5 s6 k0 k1 k2 k3 k4 k5 k6
   generalize (((((((w4.setCell ⟨w.heap.size + 1, 0, none⟩ (.slice a'.o1 T'.length a'.c1)).setCell ⟨w.heap.size + 1, 1, none⟩ (.slice a'.o2 P'.length a'.c2)).setCell ⟨w.heap.size + 1, 2, none⟩ (.slice a'.o3 V'.length a'.c3)).setCell ⟨w.heap.size + 1, 3, none⟩ (.int .i64 dv')).setCell ⟨w.heap.size + 1, 4, none⟩ (.slice a'.od D'.length a'.cd)).setCell ⟨w.heap.size + 1, 5, none⟩ (.slice (some ⟨Q, 0, none⟩) G''.length a'.cg)).setCell ⟨w.heap.size + 1, 6, none⟩ (.slice a'.ov W'.length a'.cv)) = w5 at *
   have g0 := cell_of_row _ _ 0 _ _ _ HZ5.out
   have g1 := cell_of_row _ _ 1 _ _ _ HZ5.out
   have g2 := cell_of_row _ _ 2 _ _ _ HZ5.out
   have g3 := cell_of_row _ _ 3 _ _ _ HZ5.out
   have g4 := cell_of_row _ _ 4 _ _ _ HZ5.out
   have g5 := cell_of_row _ _ 5 _ _ _ HZ5.out
   have g6 := cell_of_row _ _ 6 _ _ _ HZ5.out
   simp at g0 g1 g2 g3 g4 g5 g6
   exact bodyPost_ret (v := .tuple #[stV a'.o1 a'.o2 a'.o3 T'.length a'.c1 P'.length a'.c2 V'.length a'.c3 dv' a'.od D'.length a'.cd (some ⟨Q, 0, none⟩) G''.length a'.cg a'.ov W'.length a'.cv, .int .i64 0]) (by simp [results, Tryz.results60, go_sem, g0, g1, g2, g3, g4, g5, g6]) rfl ⟨⟨_, _, rfl, fun h => absurd rfl h, fun h => absurd rfl h, fun _ => ⟨fun h => absurd rfl h, fun _ => ⟨a', T', P', V', dv', D', G'', W', HK5.out.str HL.out, HO5.out⟩⟩⟩, HQ5.out⟩
  ·have hE0 : ¬ E = 0 := by simpa using hE
   have HE4 := zA (HEr.out hE0)
   clear HEr HOk
   go_wp2_with fail
   have HZ5 := zA (heap_setCell_same _ (w.heap.size + 1) 6 _ _ (.slice none 0 0) (heap_setCell_same _ (w.heap.size + 1) 5 _ _ (.slice none 0 0) (heap_setCell_same _ (w.heap.size + 1) 4 _ _ (.slice none 0 0) (heap_setCell_same _ (w.heap.size + 1) 3 _ _ (.int .i64 0) (heap_setCell_same _ (w.heap.size + 1) 2 _ _ (.slice none 0 0) (heap_setCell_same _ (w.heap.size + 1) 1 _ _ (.slice none 0 0) (heap_setCell_same _ (w.heap.size + 1) 0 _ _ (.slice none 0 0) HZ.out)))))))
   have HQ5 := zA (((((((HQ.out.setNew (p := ⟨w.heap.size + 1, 0, none⟩) (by simp) (.slice none 0 0)).setNew (p := ⟨w.heap.size + 1, 1, none⟩) (by simp) (.slice none 0 0)).setNew (p := ⟨w.heap.size + 1, 2, none⟩) (by simp) (.slice none 0 0)).setNew (p := ⟨w.heap.size + 1, 3, none⟩) (by simp) (.int .i64 0)).setNew (p := ⟨w.heap.size + 1, 4, none⟩) (by simp) (.slice none 0 0)).setNew (p := ⟨w.heap.size + 1, 5, none⟩) (by simp) (.slice none 0 0)).setNew (p := ⟨w.heap.size + 1, 6, none⟩) (by simp) (.slice none 0 0))
   have HE5 := zA (HE.out E _ ⟨w.heap.size + 1, 6, none⟩ (.slice none 0 0) rfl (HE.out E _ ⟨w.heap.size + 1, 5, none⟩ (.slice none 0 0) rfl (HE.out E _ ⟨w.heap.size + 1, 4, none⟩ (.slice none 0 0) rfl (HE.out E _ ⟨w.heap.size + 1, 3, none⟩ (.int .i64 0) rfl (HE.out E _ ⟨w.heap.size + 1, 2, none⟩ (.slice none 0 0) rfl (HE.out E _ ⟨w.heap.size + 1, 1, none⟩ (.slice none 0 0) rfl (HE.out E _ ⟨w.heap.size + 1, 0, none⟩ (.slice none 0 0) rfl HE4.out)))))))
   clear HZ HE4 HQ r0 r1 r2 r3 r4 r5 r6 s0 s1 s2 s3 s4 s5 s6
   generalize (((((((w4.setCell ⟨w.heap.size + 1, 0, none⟩ (.slice none 0 0)).setCell ⟨w.heap.size + 1, 1, none⟩ (.slice none 0 0)).setCell ⟨w.heap.size + 1, 2, none⟩ (.slice none 0 0)).setCell ⟨w.heap.size + 1, 3, none⟩ (.int .i64 0)).setCell ⟨w.heap.size + 1, 4, none⟩ (.slice none 0 0)).setCell ⟨w.heap.size + 1, 5, none⟩ (.slice none 0 0)).setCell ⟨w.heap.size + 1, 6, none⟩ (.slice none 0 0)) = w5 at *
   have g0 := cell_of_row _ _ 0 _ _ _ HZ5.out
   have g1 := cell_of_row _ _ 1 _ _ _ HZ5.out
   have g2 := cell_of_row _ _ 2 _ _ _ HZ5.out
   have g3 := cell_of_row _ _ 3 _ _ _ HZ5.out
   have g4 := cell_of_row _ _ 4 _ _ _ HZ5.out
   have g5 := cell_of_row _ _ 5 _ _ _ HZ5.out
   have g6 := cell_of_row _ _ 6 _ _ _ HZ5.out
   simp at g0 g1 g2 g3 g4 g5 g6
   exact bodyPost_ret (v := .tuple #[stV none none none 0 0 0 0 0 0 0 none 0 0 none 0 0 none 0 0, .int .i64 E]) (by simp [results, Tryz.results60, go_sem, g0, g1, g2, g3, g4, g5, g6]) rfl ⟨⟨_, _, rfl, fun h => absurd rfl h, fun _ => rfl, fun _ => ⟨fun _ => HE5.out, fun h => absurd h hE0⟩⟩, HQ5.out⟩
 ·have hC0 : ¬ C = 0 := by simpa using hC
  go_enter Tryz.func60, Tryz.ntmps60
  go_wp2_with fail
  refine (HC.out _ (HS.out.below HB.out.2.2)).mono ?_
  rintro e w1 ⟨rfl, hb⟩
  have HB1 := zA (HB.out.on hb)
  clear hb HB HC k0 k1 k2 k3 k4 k5 k6
  obtain ⟨r0, r1, r2, r3, r4, r5, r6⟩ := HB1.out.c7 1 (w.heap.size + 1) rfl rfl rfl rfl rfl rfl rfl rfl rfl
  obtain ⟨s0, s1, s2, s3, s4, s5, s6⟩ := HB1.out.z7 1 (w.heap.size + 1) rfl rfl
  go_wp2_with fail
  have HBz := zA (((((((HB1.out.2.2.setCell (p := ⟨w.heap.size + 1, 0, none⟩) (by simp) (.slice none 0 0)).setCell (p := ⟨w.heap.size + 1, 1, none⟩) (by simp) (.slice none 0 0)).setCell (p := ⟨w.heap.size + 1, 2, none⟩) (by simp) (.slice none 0 0)).setCell (p := ⟨w.heap.size + 1, 3, none⟩) (by simp) (.int .i64 0)).setCell (p := ⟨w.heap.size + 1, 4, none⟩) (by simp) (.slice none 0 0)).setCell (p := ⟨w.heap.size + 1, 5, none⟩) (by simp) (.slice none 0 0)).setCell (p := ⟨w.heap.size + 1, 6, none⟩) (by simp) (.slice none 0 0))
  have HZ := zA (heap_setCell_same _ (w.heap.size + 1) 6 _ _ (.slice none 0 0) (heap_setCell_same _ (w.heap.size + 1) 5 _ _ (.slice none 0 0) (heap_setCell_same _ (w.heap.size + 1) 4 _ _ (.slice none 0 0) (heap_setCell_same _ (w.heap.size + 1) 3 _ _ (.int .i64 0) (heap_setCell_same _ (w.heap.size + 1) 2 _ _ (.slice none 0 0) (heap_setCell_same _ (w.heap.size + 1) 1 _ _ (.slice none 0 0) (heap_setCell_same _ (w.heap.size + 1) 0 _ _ (.slice none 0 0) (HB1.out.1 1 _ rfl))))))))
  clear HB1 r0 r1 r2 r3 r4 r5 r6 s0 s1 s2 s3 s4 s5 s6
  generalize (((((((w1.setCell ⟨w.heap.size + 1, 0, none⟩ (.slice none 0 0)).setCell ⟨w.heap.size + 1, 1, none⟩ (.slice none 0 0)).setCell ⟨w.heap.size + 1, 2, none⟩ (.slice none 0 0)).setCell ⟨w.heap.size + 1, 3, none⟩ (.int .i64 0)).setCell ⟨w.heap.size + 1, 4, none⟩ (.slice none 0 0)).setCell ⟨w.heap.size + 1, 5, none⟩ (.slice none 0 0)).setCell ⟨w.heap.size + 1, 6, none⟩ (.slice none 0 0)) = w5 at *
  have g0 := cell_of_row _ _ 0 _ _ _ HZ.out
  have g1 := cell_of_row _ _ 1 _ _ _ HZ.out
  have g2 := cell_of_row _ _ 2 _ _ _ HZ.out
  have g3 := cell_of_row _ _ 3 _ _ _ HZ.out
  have g4 := cell_of_row _ _ 4 _ _ _ HZ.out
  have g5 := cell_of_row _ _ 5 _ _ _ HZ.out
  have g6 := cell_of_row _ _ 6 _ _ _ HZ.out
  simp at g0 g1 g2 g3 g4 g5 g6
  exact bodyPost_ret (v := .tuple #[stV none none none 0 0 0 0 0 0 0 none 0 0 none 0 0 none 0 0, .int .i64 C]) (by simp [results, Tryz.results60, go_sem, g0, g1, g2, g3, g4, g5, g6]) rfl ⟨⟨_, _, rfl, fun _ => ⟨rfl, HBz.out⟩, fun _ => rfl, fun h => absurd h hC0⟩, .ofBelow HBz.out⟩
def sellK (T : List TK) (P : List TP) (V : List Int) (W : List VW) (t : TK) : Int := if jE W = true then sellE T P V t else 4
theorem keeperSell_any (K Q B : Nat) (a : KA) (T : List TK) (P : List TP) (V : List Int) (dv : Int) (D : List Int) (G : List GT) (W : List VW) (i k f t z r : Int) (w : World) (hK : Ks w K Q B a T P V dv D G W) (hl : xP T P V) (hlW : W.length ≤ 9223372036854775807) :
  Calls Tryz.prog 96 #[.pointer (some ⟨K, 0, none⟩), tk i k f t z r] w fun e w' => (e = .returned (.int .i64 (sellK T P V W ⟨i, k, f, t, z, r⟩)) ∧ ∃ a', Ks w' K Q B a' (if sellK T P V W ⟨i, k, f, t, z, r⟩ = 0 then qI T ⟨i, k, f, t, z, r⟩ else T) P V dv D G W) ∧ Kq (KQ K Q) w w' := by
 have HT := zA ((zL.nil w).more (.cells #[.int .i64 i, .int .i64 k, .int .i64 f, .int .i64 t, .int .i64 z, .int .i64 r] 34) (by simp))
 have HK := zA (hK.below HT.out.2.2)
 have hKlt := hK.lt
 have hQlt := hK.qlt
 have HN := zA (fun X (h : Ks X K Q B a T P V dv D G W) => led_any a.o1 a.o2 a.o3 T.length a.c1 P.length a.c2 V.length a.c3 dv a.od D.length a.cd (some ⟨Q, 0, none⟩) G.length a.cg a.ov a.cv W X h.kl.vws.1.ats hlW)
 have HSl := zA (fun X (h : Ks X K Q B a T P V dv D G W) => sellFV h.led hl i k f t z r)
 clear hK
 unfold sellK
 generalize jE W = nw at *
 generalize qI T ⟨i, k, f, t, z, r⟩ = T' at *
 generalize sellE T P V ⟨i, k, f, t, z, r⟩ = E at *
 have k0 := HK.out.c0
 have k1 := HK.out.c1
 have k2 := HK.out.c2
 have k3 := HK.out.c3
 have k4 := HK.out.c4
 have k5 := HK.out.c5
 have k6 := HK.out.c6
 cases nw
 ·rw [if_neg (show ¬ false = true by decide), if_neg (show ¬ (4 : Int) = 0 by decide)]
  go_enter Tryz.func96, Tryz.ntmps96
  go_wp2_with fail
  refine (HN.out _ HK.out).mono ?_
  rintro e w1 ⟨rfl, hb⟩
  have HT1 := zA (HT.out.on hb)
  have HK1 := zA (HK.out.below hb)
  clear hb HT HK HN k0 k1 k2 k3 k4 k5 k6
  go_wp2_with fail
  go_ret
  exact ⟨⟨rfl, a, HK1.out⟩, .ofBelow HT1.out.2.2⟩
 ·rw [if_pos rfl]
  obtain ⟨X1, hX1⟩ : ∃ X1, X1 = if E = 0 then T' else [] := ⟨_, rfl⟩
  obtain ⟨X2, hX2⟩ : ∃ X2, X2 = if E = 0 then P else [] := ⟨_, rfl⟩
  obtain ⟨X3, hX3⟩ : ∃ X3, X3 = if E = 0 then V else [] := ⟨_, rfl⟩
  rw [← hX1, ← hX2, ← hX3] at HSl
  obtain ⟨RT, hRT⟩ : ∃ RT, RT = if E = 0 then T' else T := ⟨_, rfl⟩
  rw [← hRT]
  have HRT := zA hRT
  clear hRT
  have HX := zA (And.intro hX1 (And.intro hX2 hX3))
  clear hX1 hX2 hX3
  go_enter Tryz.func96, Tryz.ntmps96
  go_wp2_with fail
  refine (HN.out _ HK.out).mono ?_
  rintro e wa ⟨rfl, hb⟩
  have HT1 := zA (HT.out.on hb)
  have HK1 := zA (HK.out.below hb)
  have hwa : w.heap.size ≤ wa.heap.size := HT1.out.2.2.size
  clear hb HT HK HN k0 k1 k2 k3 k4 k5 k6
  go_upto_region 3 with fail
  go_cut [5, 6] from 12 to 22 (fun s5 s6 wx => ∃ b x1 y1 x2 y2 x3 y3, s5 = .pointer (some ⟨b, 0, none⟩) ∧ s6 = .int .i64 E ∧ Hid (wa.heap.size ≤ b ∧ wx.heap[b]? = some (.cells #[.slice x1 X1.length y1, .slice x2 X2.length y2, .slice x3 X3.length y3] 26)) ∧ Hid (Led6 wa.heap.size wx x1 y1 x2 y2 x3 y3 X1 X2 X3) ∧ Hid (Below wa.heap.size wa wx))
  case first =>
   refine zJ (fun w' => Ks w' K Q B a T P V dv D G W ∧ zL w w' [.cells #[.int .i64 i, .int .i64 k, .int .i64 f, .int .i64 t, .int .i64 z, .int .i64 r] 34]) [0, 1, 2, 3, 4, 5] 7 (by rfl) (by kernel_rfl) (by kernel_rfl) (by kernel_rfl) (fun c d v a w h => by cases d <;> exact h) ?_ ?_
   ·exact ⟨HK1.out.below (Below.refl _ _).drew, HT1.out.on (Below.refl _ _).drew⟩
   refine zB (.pointer (some ⟨K, 0, none⟩)) rfl rfl (fun w' hS => ?_) ?_
   ·go_simp
   refine zB (.pointer (some ⟨K, 0, none⟩)) rfl rfl (fun w' hS => ?_) ?_
   ·go_simp
   refine zB (.pointer (some ⟨K, 0, none⟩)) rfl rfl (fun w' hS => ?_) ?_
   ·go_simp
   refine zB (.pointer (some ⟨K, 0, none⟩)) rfl rfl (fun w' hS => ?_) ?_
   ·go_simp
   refine zB (lg a.o1 a.o2 a.o3 T.length a.c1 P.length a.c2 V.length a.c3) rfl rfl (fun w' hS => ?_) ?_
   ·have k0 := hS.1.c0
    have k1 := hS.1.c1
    have k2 := hS.1.c2
    go_simp
   refine zB (tk i k f t z r) rfl rfl (fun w' hS => ?_) ?_
   ·have x0 := hS.2.cell 0 0 w.heap.size _ _ _ rfl rfl rfl
    have x1 := hS.2.cell 0 1 w.heap.size _ _ _ rfl rfl rfl
    have x2 := hS.2.cell 0 2 w.heap.size _ _ _ rfl rfl rfl
    have x3 := hS.2.cell 0 3 w.heap.size _ _ _ rfl rfl rfl
    have x4 := hS.2.cell 0 4 w.heap.size _ _ _ rfl rfl rfl
    have x5 := hS.2.cell 0 5 w.heap.size _ _ _ rfl rfl rfl
    go_simp
   refine zE ?_
   have HKd := zA (HK1.out.below (Below.refl _ _).drew)
   have HTd := zA (HT1.out.on (Below.refl _ _).drew)
   have HAd := zA ((Below.refl wa.heap.size wa).drew)
   have hsd : wa.heap.size ≤ wa.drew.heap.size := Nat.le_refl _
   clear HK1 HT1
   generalize (World.drew _) = w0 at *
   refine zT (i := 6) (j := 10) (by kernel_rfl) rfl rfl rfl rfl (fun K hK => ?_) (fun K hK => ?_)
   ·go_simp
    refine (HSl.out w0 HKd.out).mono ?_
    rintro e w1 ⟨⟨lv, rfl, hN⟩, hb⟩
    obtain ⟨x1, y1, x2, y2, x3, y3, rfl, hN6⟩ := hN.led6
    have HN := zA hN6
    clear hN hN6
    have HB := zA hb
    refine hK _ _ ⟨HKd.out.below HB.out, HTd.out.on HB.out⟩ ?_
    clear hK K hb
    refine yB (fuel := 3) (by kernel_rfl) (fun c d v a w h => by cases d <;> exact h) ⟨HKd.out.below HB.out, HTd.out.on HB.out⟩ [7, 8, 9] _ _ (by kernel_rfl) ?_
    refine pS (.tuple #[lg x1 x2 x3 X1.length y1 X2.length y2 X3.length y3, .int .i64 E]) rfl rfl ?_
    refine pS (lg x1 x2 x3 X1.length y1 X2.length y2 X3.length y3) rfl rfl ?_
    refine pS (.int .i64 E) rfl rfl ?_
    refine zE ?_
    refine oR 10 rfl rfl fun K hK => ?_
    go_simp
    have hba := (Below.refl w1.heap.size w1).alloc (Nat.le_refl _) (.cells #[.slice none 0 0, .slice none 0 0, .slice none 0 0] 26)
    have HBa := zA (HB.out.trans (hba.mono HB.out.size))
    have Hba := zA hba
    have hZ : (w1.alloc (.cells #[.slice none 0 0, .slice none 0 0, .slice none 0 0] 26)).heap[w1.heap.size]? = some (.cells #[.slice none 0 0, .slice none 0 0, .slice none 0 0] 26) := heap_alloc_new w1 _
    have hlb := HB.out.size
    refine hK _ _ ⟨HKd.out.below HBa.out, HTd.out.on HBa.out⟩ ?_
    clear hK K hba HB
    generalize w1.alloc (.cells #[.slice none 0 0, .slice none 0 0, .slice none 0 0] 26) = w2 at *
    have r0 := cell_of_row _ _ 0 _ _ _ hZ
    have s0 := frozen_of_row _ _ 0 _ _ hZ
    have r1 := cell_of_row _ _ 1 _ _ _ hZ
    have s1 := frozen_of_row _ _ 1 _ _ hZ
    have r2 := cell_of_row _ _ 2 _ _ _ hZ
    have s2 := frozen_of_row _ _ 2 _ _ hZ
    simp at r0 r1 r2
    have HZ : Hid ((((w2.setCell ⟨w1.heap.size, 0, none⟩ (.slice x1 X1.length y1)).setCell ⟨w1.heap.size, 1, none⟩ (.slice x2 X2.length y2)).setCell ⟨w1.heap.size, 2, none⟩ (.slice x3 X3.length y3)).heap[w1.heap.size]? = some (.cells #[.slice x1 X1.length y1, .slice x2 X2.length y2, .slice x3 X3.length y3] 26)) := zA (heap_setCell_same _ w1.heap.size 2 _ _ (.slice x3 X3.length y3) (heap_setCell_same _ w1.heap.size 1 _ _ (.slice x2 X2.length y2) (heap_setCell_same _ w1.heap.size 0 _ _ (.slice x1 X1.length y1) hZ)))
    have HBz := zA (((HBa.out.setCell (p := ⟨w1.heap.size, 0, none⟩) hlb (.slice x1 X1.length y1)).setCell (p := ⟨w1.heap.size, 1, none⟩) hlb (.slice x2 X2.length y2)).setCell (p := ⟨w1.heap.size, 2, none⟩) hlb (.slice x3 X3.length y3))
    have hbz := (((Hba.out.setCell (p := ⟨w1.heap.size, 0, none⟩) (Nat.le_refl _) (.slice x1 X1.length y1)).setCell (p := ⟨w1.heap.size, 1, none⟩) (Nat.le_refl _) (.slice x2 X2.length y2)).setCell (p := ⟨w1.heap.size, 2, none⟩) (Nat.le_refl _) (.slice x3 X3.length y3))
    have HNz := zA (HN.out.below hbz)
    clear hbz Hba
    refine oR 11 rfl rfl fun K hK => ?_
    go_simp
    refine hK _ _ ⟨HKd.out.below HBz.out, HTd.out.on HBz.out⟩ ?_
    clear hK K r0 s0 r1 s1 r2 s2 hZ HBa HN
    generalize (((w2.setCell ⟨w1.heap.size, 0, none⟩ (.slice x1 X1.length y1)).setCell ⟨w1.heap.size, 1, none⟩ (.slice x2 X2.length y2)).setCell ⟨w1.heap.size, 2, none⟩ (.slice x3 X3.length y3)) = wz at *
    refine oR 12 rfl rfl fun K hK => ?_
    go_simp
    refine hK _ _ ⟨HKd.out.below HBz.out, HTd.out.on HBz.out⟩ ?_
    clear hK K
    refine wpAnyH_done (by kernel_rfl) ?_ _
    go_wp2_with fail
    go_meet
    case rel => exact ⟨w1.heap.size, x1, y1, x2, y2, x3, y3, rfl, rfl, zA ⟨by omega, HZ.out⟩, zA (HNz.out.mono (by omega)), zA (HAd.out.trans (HBz.out.mono HAd.out.size))⟩
   ·go_simp
    have hba := (Below.refl w0.heap.size w0).alloc (Nat.le_refl _) (.cells #[.slice none 0 0, .slice none 0 0, .slice none 0 0] 26)
    have HB := zA hba
    have hZ0 : Hid ((w0.alloc (.cells #[.slice none 0 0, .slice none 0 0, .slice none 0 0] 26)).heap[w0.heap.size]? = some (.cells #[.slice none 0 0, .slice none 0 0, .slice none 0 0] 26)) := zA (heap_alloc_new w0 _)
    have hs1 : (w0.alloc (.cells #[.slice none 0 0, .slice none 0 0, .slice none 0 0] 26)).heap.size = w0.heap.size + 1 := by simp
    refine hK _ _ ⟨HKd.out.below HB.out, HTd.out.on HB.out⟩ ?_
    clear hK K hba
    generalize w0.alloc (.cells #[.slice none 0 0, .slice none 0 0, .slice none 0 0] 26) = w1 at *
    refine oR 6 rfl rfl fun K hK => ?_
    go_simp
    refine (HSl.out _ (HKd.out.below HB.out)).mono ?_
    rintro e w2 ⟨⟨lv, rfl, hN⟩, hb⟩
    obtain ⟨x1, y1, x2, y2, x3, y3, rfl, hN6⟩ := hN.led6
    have HN := zA hN6
    clear hN hN6
    have HBa := trR HB hb
    have hZ : w2.heap[w0.heap.size]? = some (.cells #[.slice none 0 0, .slice none 0 0, .slice none 0 0] 26) := zC hZ0.out hb
    have hlb : w0.heap.size ≤ w0.heap.size := Nat.le_refl _
    refine hK _ _ ⟨HKd.out.below HBa.out, HTd.out.on HBa.out⟩ ?_
    clear hK K hb HB hZ0
    refine yB (fuel := 2) (by kernel_rfl) (fun c d v a w h => by cases d <;> exact h) ⟨HKd.out.below HBa.out, HTd.out.on HBa.out⟩ [7, 8, 9] _ _ (by kernel_rfl) ?_
    refine pS (.tuple #[lg x1 x2 x3 X1.length y1 X2.length y2 X3.length y3, .int .i64 E]) rfl rfl ?_
    refine pS (lg x1 x2 x3 X1.length y1 X2.length y2 X3.length y3) rfl rfl ?_
    refine pS (.int .i64 E) rfl rfl ?_
    refine zE ?_
    have r0 := cell_of_row _ _ 0 _ _ _ hZ
    have s0 := frozen_of_row _ _ 0 _ _ hZ
    have r1 := cell_of_row _ _ 1 _ _ _ hZ
    have s1 := frozen_of_row _ _ 1 _ _ hZ
    have r2 := cell_of_row _ _ 2 _ _ _ hZ
    have s2 := frozen_of_row _ _ 2 _ _ hZ
    simp at r0 r1 r2
    have HZ : Hid ((((w2.setCell ⟨w0.heap.size, 0, none⟩ (.slice x1 X1.length y1)).setCell ⟨w0.heap.size, 1, none⟩ (.slice x2 X2.length y2)).setCell ⟨w0.heap.size, 2, none⟩ (.slice x3 X3.length y3)).heap[w0.heap.size]? = some (.cells #[.slice x1 X1.length y1, .slice x2 X2.length y2, .slice x3 X3.length y3] 26)) := zA (heap_setCell_same _ w0.heap.size 2 _ _ (.slice x3 X3.length y3) (heap_setCell_same _ w0.heap.size 1 _ _ (.slice x2 X2.length y2) (heap_setCell_same _ w0.heap.size 0 _ _ (.slice x1 X1.length y1) hZ)))
    have HBz := zA (((HBa.out.setCell (p := ⟨w0.heap.size, 0, none⟩) hlb (.slice x1 X1.length y1)).setCell (p := ⟨w0.heap.size, 1, none⟩) hlb (.slice x2 X2.length y2)).setCell (p := ⟨w0.heap.size, 2, none⟩) hlb (.slice x3 X3.length y3))
    have HNz := zA (Led6.mono ((((HN.out.mono (show w0.heap.size + 1 ≤ w1.heap.size by omega)).set (p := ⟨w0.heap.size, 0, none⟩) (by simp) (.slice x1 X1.length y1)).set (p := ⟨w0.heap.size, 1, none⟩) (by simp) (.slice x2 X2.length y2)).set (p := ⟨w0.heap.size, 2, none⟩) (by simp) (.slice x3 X3.length y3)) (Nat.le_succ _))
    refine oR 11 rfl rfl fun K hK => ?_
    go_simp
    refine hK _ _ ⟨HKd.out.below HBz.out, HTd.out.on HBz.out⟩ ?_
    clear hK K r0 s0 r1 s1 r2 s2 hZ HBa HN
    generalize (((w2.setCell ⟨w0.heap.size, 0, none⟩ (.slice x1 X1.length y1)).setCell ⟨w0.heap.size, 1, none⟩ (.slice x2 X2.length y2)).setCell ⟨w0.heap.size, 2, none⟩ (.slice x3 X3.length y3)) = wz at *
    refine oR 12 rfl rfl fun K hK => ?_
    go_simp
    refine hK _ _ ⟨HKd.out.below HBz.out, HTd.out.on HBz.out⟩ ?_
    clear hK K
    refine wpAnyH_done (by kernel_rfl) ?_ _
    go_wp2_with fail
    go_meet
    case rel => exact ⟨w0.heap.size, x1, y1, x2, y2, x3, y3, rfl, rfl, zA ⟨by omega, HZ.out⟩, zA (HNz.out.mono (by omega)), zA (HAd.out.trans (HBz.out.mono HAd.out.size))⟩
  case rest =>
   obtain ⟨b, x1, y1, x2, y2, x3, y3, rfl, rfl, HZ, HL, HB⟩ := hcut
   have HK2 := zA (HK1.out.below HB.out)
   have HT2 := zA (HT1.out.on HB.out)
   clear HT1 HK1 HSl
   rcases hE : (E != 0) with _ | _
   ·obtain rfl : E = 0 := by simpa using hE
    obtain ⟨hx1, hx2, hx3⟩ := HX.out
    have hrt := HRT.out
    rw [if_pos rfl] at hx1 hx2 hx3 hrt
    have r0 := cell_of_row _ _ 0 _ _ _ HZ.out.2
    have r1 := cell_of_row _ _ 1 _ _ _ HZ.out.2
    have r2 := cell_of_row _ _ 2 _ _ _ HZ.out.2
    simp at r0 r1 r2
    have k0 := HK2.out.c0
    have k1 := HK2.out.c1
    have k2 := HK2.out.c2
    have z0 := HK2.out.fz 0
    have z1 := HK2.out.fz 1
    have z2 := HK2.out.fz 2
    subst hx1 hx2 hx3 hrt
    clear HX HRT
    go_wp2_with fail
    go_ret
    have hbk := HK2.out.bk
    exact ⟨⟨rfl, _, HK2.out.setLed ⟨HL.out.1.1, .new HL.out.1.2 (by omega) (by omega) (by omega)⟩ ⟨HL.out.2.1.1, .new HL.out.2.1.2 (by omega) (by omega) (by omega)⟩ ⟨HL.out.2.2.1, .new HL.out.2.2.2 (by omega) (by omega) (by omega)⟩⟩, (((Kq.ofBelow HT2.out.2.2).setCell (p := ⟨K, 0, none⟩) (.inl rfl) _).setCell (p := ⟨K, 1, none⟩) (.inl rfl) _).setCell (p := ⟨K, 2, none⟩) (.inl rfl) _⟩
   ·have hE' : ¬ E = 0 := by simpa using hE
    have hrt := HRT.out
    rw [if_neg hE'] at hrt
    clear hE'
    subst hrt
    go_wp2_with fail
    go_ret
    exact ⟨⟨rfl, a, HK2.out⟩, .ofBelow HT2.out.2.2⟩
theorem xA.set {w : World} {B : Nat} {o : Option Addr} {n c : Nat} {L : List GT} (h : xA w o L) (hf : zK B (.slice o n c)) (hg : ∀ g ∈ L, zK B (.slice g.oa g.A.length g.ca) ∧ zK B (.slice g.od g.D.length g.cd)) {p : Addr} (hp : p.block < B) (u : Value) : xA (w.setCell p u) o L := by
 intro i g hi
 obtain ⟨b, rfl, h8, h1, h2⟩ := h i g hi
 have hb : B ≤ b.block := hf _ rfl
 have hm := hg g (List.mem_of_getElem? hi)
 refine ⟨b, rfl, ⟨at_set (by omega) h8.c0, xF (by omega) h8.c1, xF (by omega) h8.c2, xF (by omega) h8.c3, xF (by omega) h8.c4, xF (by omega) h8.c5, xF (by omega) h8.c6, xF (by omega) h8.c7⟩, h1.set hm.1 hp u, h2.set hm.2 hp u⟩
theorem zZ.setF {w : World} {B : Nat} {o : Option Addr} {n c : Nat} {L : List VW} (h : zZ w o L) (hf : zK B (.slice o n c)) {p : Addr} (hp : p.block < B) (u : Value) : zZ (w.setCell p u) o L := by
 intro i x hi
 obtain ⟨b, rfl, a0, a1, a2⟩ := h i x hi
 have hB : B ≤ b.block := hf _ rfl
 exact ⟨b, rfl, at_set (by omega) a0, xF (by omega) a1, xF (by omega) a2⟩
theorem zH.setF {w : World} {B : Nat} {o : Option Addr} {n c : Nat} {L : List Int} (h : zH w o L) (hf : zK B (.slice o n c)) {p : Addr} (hp : p.block < B) (u : Value) : zH (w.setCell p u) o L := by
 intro i x hi
 obtain ⟨b, rfl, a0⟩ := h i x hi
 have hB : B ≤ b.block := hf _ rfl
 exact ⟨b, rfl, at_set (by omega) a0⟩
theorem StR.set {w : World} {B : Nat} {v : Value} {T : List TK} {P : List TP} {V : List Int} {dv : Int} {D : List Int} {G : List GT} {W : List VW} (h : StR w B v T P V dv D G W) {p : Addr} (hp : p.block < B) (u : Value) : StR (w.setCell p u) B v T P V dv D G W := by
 obtain ⟨o1, c1, o2, c2, o3, c3, od, cd, og, cg, ov, cv, e, hs, f1, f2, f3, f4, f5, f6, f7⟩ := h.of
 obtain ⟨q1, q2, q3⟩ := hs.led.parts3
 exact ⟨⟨o1, c1, o2, c2, o3, c3, od, cd, og, cg, ov, cv, e, ⟨xW.of (q1.set f1 hp u) (q2.set f2 hp u) (q3.set f3 hp u), hs.lok, ⟨hs.den.1.setF f4 hp u, hs.den.2⟩, hs.gts.set f5 f7 hp u, hs.gok, hs.gle, hs.gno, hs.gln, hs.vws.setF f6 hp u, hs.vle, hs.vno, hs.vln⟩, f1, f2, f3, f4, f5, f6, f7⟩⟩
theorem StR.mono {w : World} {B C : Nat} {v : Value} {T : List TK} {P : List TP} {V : List Int} {dv : Int} {D : List Int} {G : List GT} {W : List VW} (h : StR w B v T P V dv D G W) (hC : C ≤ B) : StR w C v T P V dv D G W := by
 obtain ⟨o1, c1, o2, c2, o3, c3, od, cd, og, cg, ov, cv, e, hs, f1, f2, f3, f4, f5, f6, f7⟩ := h.of
 exact ⟨⟨o1, c1, o2, c2, o3, c3, od, cd, og, cg, ov, cv, e, hs, f1.mono hC, f2.mono hC, f3.mono hC, f4.mono hC, f5.mono hC, f6.mono hC, fun g hg => ⟨(f7 g hg).1.mono hC, (f7 g hg).2.mono hC⟩⟩⟩
theorem StR.form {w : World} {B : Nat} {v : Value} {T : List TK} {P : List TP} {V : List Int} {dv : Int} {D : List Int} {G : List GT} {W : List VW} (h : StR w B v T P V dv D G W) : ∃ x1 x2 x3 n1 y1 n2 y2 n3 y3 xv x4 n4 y4 x5 n5 y5 x6 n6 y6, v = stV x1 x2 x3 n1 y1 n2 y2 n3 y3 xv x4 n4 y4 x5 n5 y5 x6 n6 y6 := by
 obtain ⟨o1, c1, o2, c2, o3, c3, od, cd, og, cg, ov, cv, e, -⟩ := h.of
 exact ⟨_, _, _, _, _, _, _, _, _, _, _, _, _, _, _, _, _, _, _, e⟩
theorem sell1_any (K Q B : Nat) (a : KA) (T : List TK) (P : List TP) (V : List Int) (dv : Int) (D : List Int) (G : List GT) (W : List VW) (b : Nat) (i k f t z r : Int) (w : World) (hK : Ks w K Q B a T P V dv D G W) (hl : xP T P V) (hlW : W.length ≤ 9223372036854775807) (hb : w.heap[b]? = some (.cells #[.int .i64 i, .int .i64 k, .int .i64 f, .int .i64 t, .int .i64 z, .int .i64 r] 34)) :
  Calls Tryz.prog 95 #[.pointer (some ⟨K, 0, none⟩), .pointer (some ⟨b, 0, none⟩)] w fun e w' => (e = .returned (.int .i64 (sellK T P V W ⟨i, k, f, t, z, r⟩)) ∧ ∃ a', Ks w' K Q B a' (if sellK T P V W ⟨i, k, f, t, z, r⟩ = 0 then qI T ⟨i, k, f, t, z, r⟩ else T) P V dv D G W) ∧ Kq (KQ K Q) w w' := by
 have HS := zA (keeperSell_any K Q B a T P V dv D G W i k f t z r w hK hl hlW)
 have r0 := cell_of_row _ _ 0 _ _ _ hb
 have r1 := cell_of_row _ _ 1 _ _ _ hb
 have r2 := cell_of_row _ _ 2 _ _ _ hb
 have r3 := cell_of_row _ _ 3 _ _ _ hb
 have r4 := cell_of_row _ _ 4 _ _ _ hb
 have r5 := cell_of_row _ _ 5 _ _ _ hb
 simp at r0 r1 r2 r3 r4 r5
 clear hK hb
 generalize sellK T P V W ⟨i, k, f, t, z, r⟩ = E at *
 obtain ⟨RT, hRT⟩ : ∃ RT, RT = if E = 0 then qI T ⟨i, k, f, t, z, r⟩ else T := ⟨_, rfl⟩
 rw [← hRT] at HS ⊢
 clear hRT
 go_enter Tryz.func95, Tryz.ntmps95
 go_wp2_with fail
 refine HS.out.mono ?_
 rintro e w1 ⟨⟨rfl, hk⟩, hf⟩
 have HK := zA hk
 have HF := zA hf
 clear hk hf HS r0 r1 r2 r3 r4 r5
 go_wp2_with fail
 go_ret
 exact ⟨⟨rfl, HK.out⟩, HF.out⟩
def sellS (T : List TK) (P : List TP) (V : List Int) (dv : Int) (D : List Int) (G : List GT) (W : List VW) (t : TK) : Int := if yP T P V dv D G W = 0 then sellK T P V W t else yP T P V dv D G W
theorem enterS1 (args : Array Value) (W : World) : (callFunc 95 args).run Tryz.prog W = .ok (.enter 95 args) W := by
 simp [go_sem]
theorem gates_lens {dv : Int} {P : List TP} {G G' : List GT} (h : ∀ (q : Nat) g, G[q]? = some g → jY dv P q g = 0) (hm : G'.map GT.p = G.map GT.p) : ∀ (q : Nat) g, G'[q]? = some g → g.A.length ≤ 12 ∧ g.D.length ≤ 12 ∧ 0 ≤ g.s ∧ g.s ≤ 99 := by
 intro q g hg
 have h1 : (G'.map GT.p)[q]? = some g.p := by rw [List.getElem?_map, hg]; rfl
 rw [hm, List.getElem?_map, Option.map_eq_some_iff] at h1
 obtain ⟨x, hx, hp⟩ := h1
 have := gate_lens (h q x hx)
 simp only [GT.p, GP.mk.injEq] at hp
 obtain ⟨-, -, e3, e4, -, e6, -, -⟩ := hp
 rw [e3, e4, e6] at this
 exact this
theorem gates_lnS {T : List TK} {P : List TP} {V : List Int} {dv : Int} {D : List Int} {G G' : List GT} {W : List VW} (h : yP T P V dv D G W = 0) (hm : G'.map GT.p = G.map GT.p) : LnS T P V D G' W := by
 obtain ⟨p1, p2, p3, p4, -, p6⟩ := yM h
 have hl : G'.length = G.length := by simpa using congrArg List.length hm
 refine ⟨xP.of p1, by have := (yE p2).2.2.1; omega, fun g hg => ?_, by omega, by omega⟩
 obtain ⟨i, hi⟩ := List.mem_iff_getElem?.1 hg
 have := gates_lens p4 hm i g hi
 exact ⟨by omega, by omega⟩
theorem stationSell_any (T : List TK) (P : List TP) (V : List Int) (dv : Int) (D : List Int) (G : List GT) (W : List VW) (o1 o2 o3 od og ov : Option Addr) (c1 c2 c3 cd cg cv : Nat) (i k f t z r : Int) (w : World) (hs : StW w o1 o2 o3 c1 c2 c3 T P V od cd D og cg G ov cv W) :
  Calls Tryz.prog 49 #[stV o1 o2 o3 T.length c1 P.length c2 V.length c3 dv od D.length cd og G.length cg ov W.length cv, tk i k f t z r] w fun e w' => (∃ v, e = .returned (.tuple #[v, .int .i64 (sellS T P V dv D G W ⟨i, k, f, t, z, r⟩)]) ∧ (sellS T P V dv D G W ⟨i, k, f, t, z, r⟩ ≠ 0 → v = stV none none none 0 0 0 0 0 0 0 none 0 0 none 0 0 none 0 0) ∧
   (sellS T P V dv D G W ⟨i, k, f, t, z, r⟩ = 0 → ∃ G', G'.map GT.p = G.map GT.p ∧ StR w' w.heap.size v (qI T ⟨i, k, f, t, z, r⟩) P V dv D G' W)) ∧ Below w.heap.size w w' := by
 have HB := zA ((((zL.nil w).more (.cells #[.slice o1 T.length c1, .slice o2 P.length c2, .slice o3 V.length c3, .int .i64 dv, .slice od D.length cd, .slice og G.length cg, .slice ov W.length cv] 32) (by simp)).more (.cells #[.int .i64 i, .int .i64 k, .int .i64 f, .int .i64 t, .int .i64 z, .int .i64 r] 34) (by simp)).more (.cells #[.slice none 0 0, .slice none 0 0, .slice none 0 0, .int .i64 0, .slice none 0 0, .slice none 0 0, .slice none 0 0] 32) (by simp))
 have HS := zA (hs.below HB.out.2.2)
 have hz : (((w.alloc (.cells #[.slice o1 T.length c1, .slice o2 P.length c2, .slice o3 V.length c3, .int .i64 dv, .slice od D.length cd, .slice og G.length cg, .slice ov W.length cv] 32)).alloc (.cells #[.int .i64 i, .int .i64 k, .int .i64 f, .int .i64 t, .int .i64 z, .int .i64 r] 34)).alloc (.cells #[.slice none 0 0, .slice none 0 0, .slice none 0 0, .int .i64 0, .slice none 0 0, .slice none 0 0, .slice none 0 0] 32)).heap.size = w.heap.size + 1 + 1 + 1 := by simp
 have HC := zA (changed_any 95 #[.pointer (some ⟨w.heap.size + 1, 0, none⟩)] enterS1 (fun _ => False) T P V dv D G W o1 o2 o3 od og ov c1 c2 c3 cd cg cv _ HS.out (fun _ h => h.elim)
  (fun E _ => E = sellK T P V W ⟨i, k, f, t, z, r⟩) (fun _ T' P' V' dv' D' G' W' _ => sellK T P V W ⟨i, k, f, t, z, r⟩ = 0 ∧ T' = qI T ⟨i, k, f, t, z, r⟩ ∧ P' = P ∧ V' = V ∧ dv' = dv ∧ D' = D ∧ G'.map GT.p = G.map GT.p ∧ W' = W)
  (fun _ _ _ _ _ h => h) (fun _ _ _ _ _ _ _ _ _ _ _ _ h => h) (fun h0 w1 K Q a G' hm hk hb => by
   obtain ⟨p1, p2, p3, p4, -, p6⟩ := yM h0
   have hcell := zC (HB.out.1 1 _ rfl) hb
   refine (sell1_any K Q _ a T P V dv D G' W (w.heap.size + 1) i k f t z r w1 hk (xP.of p1) (by omega) hcell).mono ?_
   rintro e w2 ⟨⟨rfl, a', hk'⟩, hf⟩
   refine ⟨_, rfl, hf.mono (fun x _ h => h.elim .inl (fun h => .inr (.inl h))), fun _ => rfl, fun h => ⟨a', qI T ⟨i, k, f, t, z, r⟩, P, V, dv, D, G', W, ?_, ?_, h, rfl, rfl, rfl, rfl, rfl, hm, rfl⟩⟩
   ·rw [if_pos h] at hk'
    exact hk'
   ·have h1 := gates_lnS h0 hm
    refine ⟨⟨?_, h1.1.2⟩, h1.2⟩
    have := (zW p1).1
    have hp : qA T i ≤ T.length := List.findIdx_le_length
    simp only [qI, List.length_append, List.length_take, List.length_drop, List.length_singleton]
    omega))
 rw [hz] at HC
 clear hs hz
 obtain ⟨E, hE⟩ : ∃ E, E = sellS T P V dv D G W ⟨i, k, f, t, z, r⟩ := ⟨_, rfl⟩
 rw [← hE]
 have HE := zA hE
 clear hE
 obtain ⟨k0, k1, k2, k3, k4, k5, k6⟩ := HB.out.c7 0 w.heap.size rfl rfl rfl rfl rfl rfl rfl rfl rfl
 go_enter Tryz.func49, Tryz.ntmps49
 go_wp2_with fail
 refine HC.out.mono ?_
 rintro e w1 ⟨⟨v, E', rfl, h1, h2, h3⟩, hkq⟩
 have hEE : E' = E := by
  rw [HE.out, sellS]
  by_cases h0 : yP T P V dv D G W = 0
  ·rw [if_pos h0]
   by_cases hE0 : E' = 0
   ·obtain ⟨a, T', P', V', dv', D', G', W', -, hk, -⟩ := (h3 h0).2 hE0
    rw [hE0, hk]
   ·exact (h3 h0).1 hE0
  ·rw [if_neg h0]
   exact (h1 h0).1
 subst hEE
 have h4 : E' = 0 → ∃ G', G'.map GT.p = G.map GT.p ∧ StR w1 (w.heap.size + 1 + 1 + 1 + 1 + 1) v (qI T ⟨i, k, f, t, z, r⟩) P V dv D G' W := by
  intro h0
  by_cases hc : yP T P V dv D G W = 0
  ·obtain ⟨a, T', P', V', dv', D', G', W', hr, -, rfl, rfl, rfl, rfl, rfl, hm, rfl⟩ := (h3 hc).2 h0
   exact ⟨G', hm, hr⟩
  ·have := (h1 hc).1
   omega
 have hv : ∃ x1 x2 x3 n1 y1 n2 y2 n3 y3 xv x4 n4 y4 x5 n5 y5 x6 n6 y6, v = stV x1 x2 x3 n1 y1 n2 y2 n3 y3 xv x4 n4 y4 x5 n5 y5 x6 n6 y6 := by
  by_cases h0 : E' = 0
  ·obtain ⟨G', -, hr⟩ := h4 h0
   exact hr.form
  ·exact ⟨_, _, _, _, _, _, _, _, _, _, _, _, _, _, _, _, _, _, _, h2 h0⟩
 obtain ⟨x1, x2, x3, n1, y1, n2, y2, n3, y3, xv, x4, n4, y4, x5, n5, y5, x6, n6, y6, rfl⟩ := hv
 have H2 := zA h2
 have H4 := zA h4
 have HB1 := zA (HB.out.kq hkq (fun _ _ h => h))
 clear h1 h2 h3 h4 hkq HB HS HC HE k0 k1 k2 k3 k4 k5 k6
 obtain ⟨r0, r1, r2, r3, r4, r5, r6⟩ := HB1.out.c7 2 (w.heap.size + 1 + 1) rfl rfl rfl rfl rfl rfl rfl rfl rfl
 obtain ⟨s0, s1, s2, s3, s4, s5, s6⟩ := HB1.out.z7 2 (w.heap.size + 1 + 1) rfl rfl
 go_wp2_with fail
 have HZ := zA (heap_setCell_same _ (w.heap.size + 1 + 1) 6 _ _ (.slice x6 n6 y6) (heap_setCell_same _ (w.heap.size + 1 + 1) 5 _ _ (.slice x5 n5 y5) (heap_setCell_same _ (w.heap.size + 1 + 1) 4 _ _ (.slice x4 n4 y4) (heap_setCell_same _ (w.heap.size + 1 + 1) 3 _ _ (.int .i64 xv) (heap_setCell_same _ (w.heap.size + 1 + 1) 2 _ _ (.slice x3 n3 y3) (heap_setCell_same _ (w.heap.size + 1 + 1) 1 _ _ (.slice x2 n2 y2) (heap_setCell_same _ (w.heap.size + 1 + 1) 0 _ _ (.slice x1 n1 y1) (HB1.out.1 2 _ rfl))))))))
 have HBz := zA (((((((HB1.out.2.2.setCell (p := ⟨w.heap.size + 1 + 1, 0, none⟩) (by simp; try omega) (.slice x1 n1 y1)).setCell (p := ⟨w.heap.size + 1 + 1, 1, none⟩) (by simp; try omega) (.slice x2 n2 y2)).setCell (p := ⟨w.heap.size + 1 + 1, 2, none⟩) (by simp; try omega) (.slice x3 n3 y3)).setCell (p := ⟨w.heap.size + 1 + 1, 3, none⟩) (by simp; try omega) (.int .i64 xv)).setCell (p := ⟨w.heap.size + 1 + 1, 4, none⟩) (by simp; try omega) (.slice x4 n4 y4)).setCell (p := ⟨w.heap.size + 1 + 1, 5, none⟩) (by simp; try omega) (.slice x5 n5 y5)).setCell (p := ⟨w.heap.size + 1 + 1, 6, none⟩) (by simp; try omega) (.slice x6 n6 y6))
 have H4z := zA (fun h => (H4.out h).imp fun _ hm => And.intro hm.1 (((((((hm.2.set (p := ⟨w.heap.size + 1 + 1, 0, none⟩) (by simp; try omega) (.slice x1 n1 y1)).set (p := ⟨w.heap.size + 1 + 1, 1, none⟩) (by simp; try omega) (.slice x2 n2 y2)).set (p := ⟨w.heap.size + 1 + 1, 2, none⟩) (by simp; try omega) (.slice x3 n3 y3)).set (p := ⟨w.heap.size + 1 + 1, 3, none⟩) (by simp; try omega) (.int .i64 xv)).set (p := ⟨w.heap.size + 1 + 1, 4, none⟩) (by simp; try omega) (.slice x4 n4 y4)).set (p := ⟨w.heap.size + 1 + 1, 5, none⟩) (by simp; try omega) (.slice x5 n5 y5)).set (p := ⟨w.heap.size + 1 + 1, 6, none⟩) (by simp; try omega) (.slice x6 n6 y6)))
 clear HB1 H4 r0 r1 r2 r3 r4 r5 r6 s0 s1 s2 s3 s4 s5 s6
 generalize (((((((w1.setCell ⟨w.heap.size + 1 + 1, 0, none⟩ (.slice x1 n1 y1)).setCell ⟨w.heap.size + 1 + 1, 1, none⟩ (.slice x2 n2 y2)).setCell ⟨w.heap.size + 1 + 1, 2, none⟩ (.slice x3 n3 y3)).setCell ⟨w.heap.size + 1 + 1, 3, none⟩ (.int .i64 xv)).setCell ⟨w.heap.size + 1 + 1, 4, none⟩ (.slice x4 n4 y4)).setCell ⟨w.heap.size + 1 + 1, 5, none⟩ (.slice x5 n5 y5)).setCell ⟨w.heap.size + 1 + 1, 6, none⟩ (.slice x6 n6 y6)) = w5 at *
 have g0 := cell_of_row _ _ 0 _ _ _ HZ.out
 have g1 := cell_of_row _ _ 1 _ _ _ HZ.out
 have g2 := cell_of_row _ _ 2 _ _ _ HZ.out
 have g3 := cell_of_row _ _ 3 _ _ _ HZ.out
 have g4 := cell_of_row _ _ 4 _ _ _ HZ.out
 have g5 := cell_of_row _ _ 5 _ _ _ HZ.out
 have g6 := cell_of_row _ _ 6 _ _ _ HZ.out
 simp at g0 g1 g2 g3 g4 g5 g6
 exact bodyPost_ret (v := .tuple #[stV x1 x2 x3 n1 y1 n2 y2 n3 y3 xv x4 n4 y4 x5 n5 y5 x6 n6 y6, .int .i64 E']) (by simp [results, Tryz.results49, go_sem, g0, g1, g2, g3, g4, g5, g6]) rfl ⟨⟨_, rfl, H2.out, fun h => (H4z.out h).imp fun _ hm => ⟨hm.1, hm.2.mono (by omega)⟩⟩, HBz.out⟩
def Gn (F : Nat) (w : World) (g : GT) : Prop := (zR w (.slice g.oa g.A.length g.ca) g.A ∧ zK F (.slice g.oa g.A.length g.ca)) ∧ zP w (.slice g.od g.D.length g.cd) g.D ∧ zK F (.slice g.od g.D.length g.cd)
theorem Gn.below {F : Nat} {w w' : World} {g : GT} (h : Gn F w g) (hb : Below w.heap.size w w') : Gn F w' g := ⟨⟨h.1.1.below hb, h.1.2⟩, h.2.1.below hb, h.2.2⟩
theorem Gn.mono {F E : Nat} {w : World} {g : GT} (h : Gn F w g) (hE : E ≤ F) : Gn E w g := ⟨⟨h.1.1, h.1.2.mono hE⟩, h.2.1, h.2.2.mono hE⟩
def GOff (g : GT) (b : Nat) : Prop := Off g.oa g.A b ∧ Off g.od g.D b
theorem Gn.setO {F : Nat} {w : World} {g : GT} (h : Gn F w g) {p : Addr} (ho : GOff g p.block) (u : Value) : Gn F (w.setCell p u) g := ⟨⟨h.1.1.setO ho.1 u, h.1.2⟩, h.2.1.setO ho.2 u, h.2.2⟩
theorem Gn.offlt {F : Nat} {w : World} {g : GT} (h : Gn F w g) : GOff g w.heap.size := ⟨jI h.1.1, jH h.2.1⟩
theorem Gn.offnew {F : Nat} {w : World} {g : GT} (h : Gn F w g) {b : Nat} (hb : b < F) : GOff g b := ⟨zQ h.1.2 hb, zQ h.2.2 hb⟩
theorem Gn.zero (F : Nat) (w : World) (i z s v l u : Int) : Gn F w ⟨i, z, s, none, [], 0, v, none, [], 0, l, u⟩ :=
 ⟨⟨⟨none, 0, rfl, fun i p h => by simp at h, by simp, fun _ => rfl⟩, fun k hk => by simp [Value.ownBlock] at hk⟩, ⟨none, 0, rfl, fun i p h => by simp at h, by simp, fun _ => rfl⟩, fun k hk => by simp [Value.ownBlock] at hk⟩
theorem stG {w : World} {b : Nat} {T : TypeId} {z0 z1 z2 z3 z4 z5 z6 z7 : Value} (h : w.heap[b]? = some (.cells #[z0, z1, z2, z3, z4, z5, z6, z7] T (0, 0))) (x : GT) : ((((((((w.setCell ⟨b, 0, none⟩ (.int .i64 x.i)).setCell ⟨b, 1, none⟩ (.int .i64 x.z)).setCell ⟨b, 2, none⟩ (.int .i64 x.s)).setCell ⟨b, 3, none⟩ (.slice x.oa x.A.length x.ca)).setCell ⟨b, 4, none⟩ (.int .i64 x.v)).setCell ⟨b, 5, none⟩ (.slice x.od x.D.length x.cd)).setCell ⟨b, 6, none⟩ (.int .i64 x.l)).setCell ⟨b, 7, none⟩ (.int .i64 x.u)).heap[b]? = some (.cells #[.int .i64 x.i, .int .i64 x.z, .int .i64 x.s, .slice x.oa x.A.length x.ca, .int .i64 x.v, .slice x.od x.D.length x.cd, .int .i64 x.l, .int .i64 x.u] T (0, 0)) := (heap_setCell_same _ b 7 _ _ (.int .i64 x.u) (heap_setCell_same _ b 6 _ _ (.int .i64 x.l) (heap_setCell_same _ b 5 _ _ (.slice x.od x.D.length x.cd) (heap_setCell_same _ b 4 _ _ (.int .i64 x.v) (heap_setCell_same _ b 3 _ _ (.slice x.oa x.A.length x.ca) (heap_setCell_same _ b 2 _ _ (.int .i64 x.s) (heap_setCell_same _ b 1 _ _ (.int .i64 x.z) (heap_setCell_same _ b 0 _ _ (.int .i64 x.i) h))))))))
theorem soG {w : World} {b q : Nat} {oo : Obj} (h : w.heap[q]? = some oo) (hn : b ≠ q) (x : GT) : ((((((((w.setCell ⟨b, 0, none⟩ (.int .i64 x.i)).setCell ⟨b, 1, none⟩ (.int .i64 x.z)).setCell ⟨b, 2, none⟩ (.int .i64 x.s)).setCell ⟨b, 3, none⟩ (.slice x.oa x.A.length x.ca)).setCell ⟨b, 4, none⟩ (.int .i64 x.v)).setCell ⟨b, 5, none⟩ (.slice x.od x.D.length x.cd)).setCell ⟨b, 6, none⟩ (.int .i64 x.l)).setCell ⟨b, 7, none⟩ (.int .i64 x.u)).heap[q]? = some oo := (zD (zD (zD (zD (zD (zD (zD (zD h (p := ⟨b, 0, none⟩) hn (.int .i64 x.i)) (p := ⟨b, 1, none⟩) hn (.int .i64 x.z)) (p := ⟨b, 2, none⟩) hn (.int .i64 x.s)) (p := ⟨b, 3, none⟩) hn (.slice x.oa x.A.length x.ca)) (p := ⟨b, 4, none⟩) hn (.int .i64 x.v)) (p := ⟨b, 5, none⟩) hn (.slice x.od x.D.length x.cd)) (p := ⟨b, 6, none⟩) hn (.int .i64 x.l)) (p := ⟨b, 7, none⟩) hn (.int .i64 x.u))
theorem sbG {a w : World} {b B : Nat} (h : Below B a w) (hn : B ≤ b) (x : GT) : Below B a ((((((((w.setCell ⟨b, 0, none⟩ (.int .i64 x.i)).setCell ⟨b, 1, none⟩ (.int .i64 x.z)).setCell ⟨b, 2, none⟩ (.int .i64 x.s)).setCell ⟨b, 3, none⟩ (.slice x.oa x.A.length x.ca)).setCell ⟨b, 4, none⟩ (.int .i64 x.v)).setCell ⟨b, 5, none⟩ (.slice x.od x.D.length x.cd)).setCell ⟨b, 6, none⟩ (.int .i64 x.l)).setCell ⟨b, 7, none⟩ (.int .i64 x.u)) := ((((((((h.setCell (p := ⟨b, 0, none⟩) hn (.int .i64 x.i)).setCell (p := ⟨b, 1, none⟩) hn (.int .i64 x.z)).setCell (p := ⟨b, 2, none⟩) hn (.int .i64 x.s)).setCell (p := ⟨b, 3, none⟩) hn (.slice x.oa x.A.length x.ca)).setCell (p := ⟨b, 4, none⟩) hn (.int .i64 x.v)).setCell (p := ⟨b, 5, none⟩) hn (.slice x.od x.D.length x.cd)).setCell (p := ⟨b, 6, none⟩) hn (.int .i64 x.l)).setCell (p := ⟨b, 7, none⟩) hn (.int .i64 x.u))
theorem snG {w : World} {b F : Nat} {x : GT} (h : Gn F w x) (hn : GOff x b) (y : GT) : Gn F ((((((((w.setCell ⟨b, 0, none⟩ (.int .i64 y.i)).setCell ⟨b, 1, none⟩ (.int .i64 y.z)).setCell ⟨b, 2, none⟩ (.int .i64 y.s)).setCell ⟨b, 3, none⟩ (.slice y.oa y.A.length y.ca)).setCell ⟨b, 4, none⟩ (.int .i64 y.v)).setCell ⟨b, 5, none⟩ (.slice y.od y.D.length y.cd)).setCell ⟨b, 6, none⟩ (.int .i64 y.l)).setCell ⟨b, 7, none⟩ (.int .i64 y.u)) x := ((((((((h.setO (p := ⟨b, 0, none⟩) hn (.int .i64 y.i)).setO (p := ⟨b, 1, none⟩) hn (.int .i64 y.z)).setO (p := ⟨b, 2, none⟩) hn (.int .i64 y.s)).setO (p := ⟨b, 3, none⟩) hn (.slice y.oa y.A.length y.ca)).setO (p := ⟨b, 4, none⟩) hn (.int .i64 y.v)).setO (p := ⟨b, 5, none⟩) hn (.slice y.od y.D.length y.cd)).setO (p := ⟨b, 6, none⟩) hn (.int .i64 y.l)).setO (p := ⟨b, 7, none⟩) hn (.int .i64 y.u))
theorem stT {w : World} {b : Nat} {T : TypeId} {z0 z1 z2 z3 z4 : Value} (h : w.heap[b]? = some (.cells #[z0, z1, z2, z3, z4] T (0, 0))) (x : TP) : (((((w.setCell ⟨b, 0, none⟩ (.int .i64 x.a)).setCell ⟨b, 1, none⟩ (.int .i64 x.g)).setCell ⟨b, 2, none⟩ (.int .i64 x.s)).setCell ⟨b, 3, none⟩ (.int .i64 x.m)).setCell ⟨b, 4, none⟩ (.int .i64 x.z)).heap[b]? = some (.cells #[.int .i64 x.a, .int .i64 x.g, .int .i64 x.s, .int .i64 x.m, .int .i64 x.z] T (0, 0)) := (heap_setCell_same _ b 4 _ _ (.int .i64 x.z) (heap_setCell_same _ b 3 _ _ (.int .i64 x.m) (heap_setCell_same _ b 2 _ _ (.int .i64 x.s) (heap_setCell_same _ b 1 _ _ (.int .i64 x.g) (heap_setCell_same _ b 0 _ _ (.int .i64 x.a) h)))))
theorem soT {w : World} {b q : Nat} {oo : Obj} (h : w.heap[q]? = some oo) (hn : b ≠ q) (x : TP) : (((((w.setCell ⟨b, 0, none⟩ (.int .i64 x.a)).setCell ⟨b, 1, none⟩ (.int .i64 x.g)).setCell ⟨b, 2, none⟩ (.int .i64 x.s)).setCell ⟨b, 3, none⟩ (.int .i64 x.m)).setCell ⟨b, 4, none⟩ (.int .i64 x.z)).heap[q]? = some oo := (zD (zD (zD (zD (zD h (p := ⟨b, 0, none⟩) hn (.int .i64 x.a)) (p := ⟨b, 1, none⟩) hn (.int .i64 x.g)) (p := ⟨b, 2, none⟩) hn (.int .i64 x.s)) (p := ⟨b, 3, none⟩) hn (.int .i64 x.m)) (p := ⟨b, 4, none⟩) hn (.int .i64 x.z))
theorem sbT {a w : World} {b B : Nat} (h : Below B a w) (hn : B ≤ b) (x : TP) : Below B a (((((w.setCell ⟨b, 0, none⟩ (.int .i64 x.a)).setCell ⟨b, 1, none⟩ (.int .i64 x.g)).setCell ⟨b, 2, none⟩ (.int .i64 x.s)).setCell ⟨b, 3, none⟩ (.int .i64 x.m)).setCell ⟨b, 4, none⟩ (.int .i64 x.z)) := (((((h.setCell (p := ⟨b, 0, none⟩) hn (.int .i64 x.a)).setCell (p := ⟨b, 1, none⟩) hn (.int .i64 x.g)).setCell (p := ⟨b, 2, none⟩) hn (.int .i64 x.s)).setCell (p := ⟨b, 3, none⟩) hn (.int .i64 x.m)).setCell (p := ⟨b, 4, none⟩) hn (.int .i64 x.z))
theorem snT {w : World} {b F : Nat} {x : GT} (h : Gn F w x) (hn : GOff x b) (y : TP) : Gn F (((((w.setCell ⟨b, 0, none⟩ (.int .i64 y.a)).setCell ⟨b, 1, none⟩ (.int .i64 y.g)).setCell ⟨b, 2, none⟩ (.int .i64 y.s)).setCell ⟨b, 3, none⟩ (.int .i64 y.m)).setCell ⟨b, 4, none⟩ (.int .i64 y.z)) x := (((((h.setO (p := ⟨b, 0, none⟩) hn (.int .i64 y.a)).setO (p := ⟨b, 1, none⟩) hn (.int .i64 y.g)).setO (p := ⟨b, 2, none⟩) hn (.int .i64 y.s)).setO (p := ⟨b, 3, none⟩) hn (.int .i64 y.m)).setO (p := ⟨b, 4, none⟩) hn (.int .i64 y.z))
theorem gateTap_one (g : GT) (ti k f t y r m : Int) (w : World) (hP : zR w (.slice g.oa g.A.length g.ca) g.A) (hD : zP w (.slice g.od g.D.length g.cd) g.D) (hlP : g.A.length ≤ 9223372036854775807) (hlD : g.D.length ≤ 9223372036854775807) :
  Calls Tryz.prog 150 #[gtV g.i g.z g.s g.oa g.A.length g.ca g.v g.od g.D.length g.cd g.l g.u, tk ti k f t y r, .int .i64 m] w fun e w' => (∃ (x : GT) (p : TP), e = .returned (.tuple #[gtV x.i x.z x.s x.oa x.A.length x.ca x.v x.od x.D.length x.cd x.l x.u, tp p.a p.g p.s p.m p.z, .int .i64 (tapG g.i g.z g.s g.A g.v g.D g.l g.u ⟨ti, k, f, t, y, r⟩ m)]) ∧ Gn w.heap.size w' x ∧
   (tapG g.i g.z g.s g.A g.v g.D g.l g.u ⟨ti, k, f, t, y, r⟩ m = 0 → x.p = ⟨g.i, g.z, g.s + 1, g.A ++ [⟨ti, g.i, g.s + 1, m, g.z⟩], g.v, g.D, g.l - 1, g.u⟩)) ∧ Below w.heap.size w w' := by
 by_cases hE : tapG g.i g.z g.s g.A g.v g.D g.l g.u ⟨ti, k, f, t, y, r⟩ m = 0
 ·refine (gateTap_ok g.i g.z g.s g.oa g.A g.ca g.v g.od g.D g.cd g.l g.u ti k f t y r m w hP.ats hD.ats hlP hlD hP.eqs.2.2.2 hE).mono ?_
  rintro e w' ⟨⟨x, rfl, oa, ca, od, cd, rfl, h1, h2, h3, h4⟩, hb⟩
  exact ⟨⟨⟨g.i, g.z, g.s + 1, oa, g.A ++ [⟨ti, g.i, g.s + 1, m, g.z⟩], ca, g.v, od, g.D, cd, g.l - 1, g.u⟩, ⟨ti, g.i, g.s + 1, m, g.z⟩, by rw [hE], ⟨⟨h1, h2⟩, h3, h4⟩, fun _ => rfl⟩, hb⟩
 ·refine (gateTap_err g.i g.z g.s g.oa g.A g.ca g.v g.od g.D g.cd g.l g.u ti k f t y r m w hP.ats hD.ats hlP hlD hE).mono ?_
  rintro e w' ⟨rfl, hb⟩
  exact ⟨⟨⟨0, 0, 0, none, [], 0, 0, none, [], 0, 0, 0⟩, ⟨0, 0, 0, 0, 0⟩, rfl, .zero _ _ _ _ _ _ _ _, fun h => absurd h hE⟩, hb⟩
theorem letThrough_any (K Q B : Nat) (a : KA) (T : List TK) (P : List TP) (V : List Int) (dv : Int) (D : List Int) (G : List GT) (W : List VW) (q : Nat) (g : GT) (i k f t z r m : Int) (w : World) (hK : Ks w K Q B a T P V dv D G W) (hq : G[q]? = some g) (hlA : g.A.length ≤ 9223372036854775807) (hlD : g.D.length ≤ 9223372036854775807) :
  Calls Tryz.prog 122 #[.pointer (some ⟨K, 0, none⟩), tk i k f t z r, .int .i64 (q : Int), .int .i64 m] w fun e w' => (∃ E, E = tapG g.i g.z g.s g.A g.v g.D g.l g.u ⟨i, k, f, t, z, r⟩ m ∧ e = .returned (.int .i64 E) ∧ (E ≠ 0 → Ks w' K Q B a T P V dv D G W) ∧
   (E = 0 → ∃ x : GT, x.p = ⟨g.i, g.z, g.s + 1, g.A ++ [⟨i, g.i, g.s + 1, m, g.z⟩], g.v, g.D, g.l - 1, g.u⟩ ∧ Ks w' K Q B a T P V dv D (G.set q x) W)) ∧ Kq (KQ K Q) w w' := by
 have HT := zA ((zL.nil w).more (.cells #[.int .i64 i, .int .i64 k, .int .i64 f, .int .i64 t, .int .i64 z, .int .i64 r] 34) (by simp))
 have HK1 := zA (hK.below HT.out.2.2)
 have HK0 := zA hK
 have hKlt := hK.lt
 have hQlt := hK.qlt
 have hbk := hK.bk
 have hql := (List.getElem?_eq_some_iff.1 hq).1
 have HTap := zA (fun X (h : Ks X K Q B a T P V dv D G W) => gateTap_one g i k f t z r m X (h.kl.gts g (List.mem_of_getElem? hq)).1.1 (h.kl.gts g (List.mem_of_getElem? hq)).2.1 hlA hlD)
 have Hq := zA hq
 have hi1 : (0 : Int) ≤ (q : Int) := by omega
 have hi2 : (q : Int) < (G.length : Int) := by omega
 have hadd := qX Q (q * 8)
 obtain ⟨E, hE⟩ : ∃ E, E = tapG g.i g.z g.s g.A g.v g.D g.l g.u ⟨i, k, f, t, z, r⟩ m := ⟨_, rfl⟩
 rw [← hE] at HTap
 have HE := zA hE
 obtain ⟨GX, hGX⟩ : ∃ GX : GP, GX = ⟨g.i, g.z, g.s + 1, g.A ++ [⟨i, g.i, g.s + 1, m, g.z⟩], g.v, g.D, g.l - 1, g.u⟩ := ⟨_, rfl⟩
 rw [← hGX] at HTap ⊢
 clear hK hq hE hGX
 go_enter Tryz.func122, Tryz.ntmps122
 go_upto_region 1 with fail
 have hw1 : w.heap.size < (w.alloc (.cells #[.int .i64 i, .int .i64 k, .int .i64 f, .int .i64 t, .int .i64 z, .int .i64 r] 34)).heap.size := by simp
 generalize w.alloc (.cells #[.int .i64 i, .int .i64 k, .int .i64 f, .int .i64 t, .int .i64 z, .int .i64 r] 34) = wa at *
 go_cut [9, 10, 11] from 12 to 27 (fun s9 s10 s11 wx => ∃ (b9 : Nat) (b10 : Nat) (x : GT) (p : TP), s9 = .pointer (some ⟨b9, 0, none⟩) ∧ s10 = .pointer (some ⟨b10, 0, none⟩) ∧ s11 = .int .i64 E ∧ Hid (w.heap.size ≤ b9 ∧ wx.heap[b9]? = some (.cells #[.int .i64 x.i, .int .i64 x.z, .int .i64 x.s, .slice x.oa x.A.length x.ca, .int .i64 x.v, .slice x.od x.D.length x.cd, .int .i64 x.l, .int .i64 x.u] 58)) ∧ Hid (Gn w.heap.size wx x) ∧ Hid (E = 0 → x.p = GX) ∧ Hid (Below w.heap.size w wx))
 case first =>
  refine zJ (fun w' => Ks w' K Q B a T P V dv D G W ∧ zL w w' [.cells #[.int .i64 i, .int .i64 k, .int .i64 f, .int .i64 t, .int .i64 z, .int .i64 r] 34]) [0, 1, 2, 3, 4, 5, 6, 7, 8, 9] 10 (by rfl) (by kernel_rfl) (by kernel_rfl) (by kernel_rfl) (fun c d v a w h => by cases d <;> exact h) ?_ ?_
  ·exact ⟨HK1.out.below (Below.refl _ _).drew, HT.out.on (Below.refl _ _).drew⟩
  refine zB (.pointer (some ⟨K, 0, none⟩)) rfl rfl (fun w' hS => ?_) ?_
  ·go_simp
  refine zB (.pointer (some ⟨K, 0, none⟩)) rfl rfl (fun w' hS => ?_) ?_
  ·go_simp
  refine zB (.pointer (some ⟨K, 0, none⟩)) rfl rfl (fun w' hS => ?_) ?_
  ·go_simp
  refine zB (.pointer (some ⟨K, 5, none⟩)) rfl rfl (fun w' hS => ?_) ?_
  ·go_simp
  refine zB (.slice (some ⟨Q, 0, none⟩) G.length a.cg) rfl rfl (fun w' hS => ?_) ?_
  ·have k5 := hS.1.c5
   go_simp
  refine zB (.int .i64 (q : Int)) rfl rfl (fun w' hS => ?_) ?_
  ·go_simp
  refine zB (.pointer (some ⟨Q, q * 8, none⟩)) rfl rfl (fun w' hS => ?_) ?_
  ·go_simp
  refine zB (gtV g.i g.z g.s g.oa g.A.length g.ca g.v g.od g.D.length g.cd g.l g.u) rfl rfl (fun w' hS => ?_) ?_
  ·have g0 := hS.1.g0 Hq.out
   have g1 := hS.1.g1 Hq.out
   have g2 := hS.1.g2 Hq.out
   have g3 := hS.1.g3 Hq.out
   have g4 := hS.1.g4 Hq.out
   have g5 := hS.1.g5 Hq.out
   have g6 := hS.1.g6 Hq.out
   have g7 := hS.1.g7 Hq.out
   go_simp
  refine zB (tk i k f t z r) rfl rfl (fun w' hS => ?_) ?_
  ·have x0 := hS.2.cell 0 0 w.heap.size _ _ _ rfl rfl rfl
   have x1 := hS.2.cell 0 1 w.heap.size _ _ _ rfl rfl rfl
   have x2 := hS.2.cell 0 2 w.heap.size _ _ _ rfl rfl rfl
   have x3 := hS.2.cell 0 3 w.heap.size _ _ _ rfl rfl rfl
   have x4 := hS.2.cell 0 4 w.heap.size _ _ _ rfl rfl rfl
   have x5 := hS.2.cell 0 5 w.heap.size _ _ _ rfl rfl rfl
   go_simp
  refine zB (.int .i64 m) rfl rfl (fun w' hS => ?_) ?_
  ·go_simp
  refine zE ?_
  have HKd := zA (HK1.out.below (Below.refl _ _).drew)
  have HTd := zA (HT.out.on (Below.refl _ _).drew)
  have HAd := zA (HTd.out.2.2)
  have hsd : w.heap.size ≤ wa.drew.heap.size := by rw [show wa.drew.heap.size = wa.heap.size from rfl]; omega
  clear HK1 HT hw1
  generalize (World.drew _) = w0 at *
  refine three_readyH (i := 10) (j := 15) (k := 16) (by kernel_rfl) rfl rfl rfl rfl rfl rfl (fun K hK => ?_) (fun K hK => ?_) (fun K hK => ?_)
  ·go_simp
   refine (HTap.out w0 HKd.out).mono ?_
   rintro e v1 ⟨⟨x, p, rfl, hN, hX⟩, hb⟩
   have HN := zA hN
   have HX := zA hX
   clear hN hX
   have HB1 := zA (hb)
   have u1 := HB1.out.size
   refine hK _ _ ⟨HKd.out.below HB1.out, HTd.out.on HB1.out⟩ ?_
   clear hK K hb  
   refine yB (fuel := 5) (by kernel_rfl) (fun c d v a w h => by cases d <;> exact h) ⟨HKd.out.below HB1.out, HTd.out.on HB1.out⟩ [11, 12, 13, 14] _ _ (by kernel_rfl) ?_
   refine pS (.tuple #[gtV x.i x.z x.s x.oa x.A.length x.ca x.v x.od x.D.length x.cd x.l x.u, tp p.a p.g p.s p.m p.z, .int .i64 E]) rfl rfl ?_
   refine pS (gtV x.i x.z x.s x.oa x.A.length x.ca x.v x.od x.D.length x.cd x.l x.u) rfl rfl ?_
   refine pS (tp p.a p.g p.s p.m p.z) rfl rfl ?_
   refine pS (.int .i64 E) rfl rfl ?_
   refine zE ?_
   refine zT (i := 15) (j := 16) (by kernel_rfl) rfl rfl rfl rfl (fun K hK => ?_) (fun K hK => ?_)
   ·go_simp
    have hba := (Below.refl v1.heap.size v1).alloc (Nat.le_refl _) (.cells #[.int .i64 0, .int .i64 0, .int .i64 0, .slice none 0 0, .int .i64 0, .slice none 0 0, .int .i64 0, .int .i64 0] 58)
    have HB2 := zA (HB1.out.trans (hba.mono HB1.out.size))
    have Z2_15 : Hid ((v1.alloc (.cells #[.int .i64 0, .int .i64 0, .int .i64 0, .slice none 0 0, .int .i64 0, .slice none 0 0, .int .i64 0, .int .i64 0] 58)).heap[v1.heap.size]? = some (.cells #[.int .i64 0, .int .i64 0, .int .i64 0, .slice none 0 0, .int .i64 0, .slice none 0 0, .int .i64 0, .int .i64 0] 58)) := zA (heap_alloc_new v1 _)
    have q2 : v1.heap.size < (v1.alloc (.cells #[.int .i64 0, .int .i64 0, .int .i64 0, .slice none 0 0, .int .i64 0, .slice none 0 0, .int .i64 0, .int .i64 0] 58)).heap.size := by simp
    have O2_15 := zA (HN.out.offlt)
    have N2 := zA (HN.out.below hba)
    refine hK _ _ ⟨HKd.out.below HB2.out, HTd.out.on HB2.out⟩ ?_
    clear hK K hba HB1  HN
    generalize v1.alloc (.cells #[.int .i64 0, .int .i64 0, .int .i64 0, .slice none 0 0, .int .i64 0, .slice none 0 0, .int .i64 0, .int .i64 0] 58) = v2 at *
    refine oR 16 rfl rfl fun K hK => ?_
    go_simp
    have hba := (Below.refl v2.heap.size v2).alloc (Nat.le_refl _) (.cells #[.int .i64 0, .int .i64 0, .int .i64 0, .int .i64 0, .int .i64 0] 79)
    have HB3 := zA (HB2.out.trans (hba.mono HB2.out.size))
    have Z3_15 := zA (zC Z2_15.out hba)
    have Z3_16 : Hid ((v2.alloc (.cells #[.int .i64 0, .int .i64 0, .int .i64 0, .int .i64 0, .int .i64 0] 79)).heap[v2.heap.size]? = some (.cells #[.int .i64 0, .int .i64 0, .int .i64 0, .int .i64 0, .int .i64 0] 79)) := zA (heap_alloc_new v2 _)
    have q3 : v2.heap.size < (v2.alloc (.cells #[.int .i64 0, .int .i64 0, .int .i64 0, .int .i64 0, .int .i64 0] 79)).heap.size := by simp
    have O3_16 := zA (N2.out.offlt)
    have N3 := zA (N2.out.below hba)
    refine hK _ _ ⟨HKd.out.below HB3.out, HTd.out.on HB3.out⟩ ?_
    clear hK K hba HB2 Z2_15 N2
    generalize v2.alloc (.cells #[.int .i64 0, .int .i64 0, .int .i64 0, .int .i64 0, .int .i64 0] 79) = v3 at *
    have hZ := Z3_15.out
    have r0 := cell_of_row _ _ 0 _ _ _ hZ
    have s0 := frozen_of_row _ _ 0 _ _ hZ
    have r1 := cell_of_row _ _ 1 _ _ _ hZ
    have s1 := frozen_of_row _ _ 1 _ _ hZ
    have r2 := cell_of_row _ _ 2 _ _ _ hZ
    have s2 := frozen_of_row _ _ 2 _ _ hZ
    have r3 := cell_of_row _ _ 3 _ _ _ hZ
    have s3 := frozen_of_row _ _ 3 _ _ hZ
    have r4 := cell_of_row _ _ 4 _ _ _ hZ
    have s4 := frozen_of_row _ _ 4 _ _ hZ
    have r5 := cell_of_row _ _ 5 _ _ _ hZ
    have s5 := frozen_of_row _ _ 5 _ _ hZ
    have r6 := cell_of_row _ _ 6 _ _ _ hZ
    have s6 := frozen_of_row _ _ 6 _ _ hZ
    have r7 := cell_of_row _ _ 7 _ _ _ hZ
    have s7 := frozen_of_row _ _ 7 _ _ hZ
    simp at r0 r1 r2 r3 r4 r5 r6 r7
    have Y4_15 := zA (stG hZ x)
    have Y4_16 := zA (soG Z3_16.out (b := v1.heap.size) (by omega) x)
    have HB4 := zA (sbG HB3.out (b := v1.heap.size) (by omega) x)
    have N4 := zA (snG N3.out (b := v1.heap.size) O2_15.out x)
    refine oR 17 rfl rfl fun K hK => ?_
    go_simp
    refine hK _ _ ⟨HKd.out.below HB4.out, HTd.out.on HB4.out⟩ ?_
    clear hK K hZ r0 s0 r1 s1 r2 s2 r3 s3 r4 s4 r5 s5 r6 s6 r7 s7 HB3 N3 Z3_15 Z3_16
    generalize World.setCell _ ⟨v1.heap.size, 7, none⟩ _ = z4 at *
    have hZ := Y4_16.out
    have r0 := cell_of_row _ _ 0 _ _ _ hZ
    have s0 := frozen_of_row _ _ 0 _ _ hZ
    have r1 := cell_of_row _ _ 1 _ _ _ hZ
    have s1 := frozen_of_row _ _ 1 _ _ hZ
    have r2 := cell_of_row _ _ 2 _ _ _ hZ
    have s2 := frozen_of_row _ _ 2 _ _ hZ
    have r3 := cell_of_row _ _ 3 _ _ _ hZ
    have s3 := frozen_of_row _ _ 3 _ _ hZ
    have r4 := cell_of_row _ _ 4 _ _ _ hZ
    have s4 := frozen_of_row _ _ 4 _ _ hZ
    simp at r0 r1 r2 r3 r4
    have Y5_16 := zA (stT hZ p)
    have Y5_15 := zA (soT Y4_15.out (b := v2.heap.size) (by omega) p)
    have HB5 := zA (sbT HB4.out (b := v2.heap.size) (by omega) p)
    have N5 := zA (snT N4.out (b := v2.heap.size) O3_16.out p)
    refine oR 18 rfl rfl fun K hK => ?_
    go_simp
    refine hK _ _ ⟨HKd.out.below HB5.out, HTd.out.on HB5.out⟩ ?_
    clear hK K hZ r0 s0 r1 s1 r2 s2 r3 s3 r4 s4 HB4 N4 Y4_15 Y4_16
    generalize World.setCell _ ⟨v2.heap.size, 4, none⟩ _ = z5 at *
    refine oR 19 rfl rfl fun K hK => ?_
    go_simp
    refine hK _ _ ⟨HKd.out.below HB5.out, HTd.out.on HB5.out⟩ ?_
    clear hK K
    refine wpAnyH_done (by kernel_rfl) ?_ _
    go_wp2_with fail
    go_meet
    case rel => exact ⟨v1.heap.size, v2.heap.size, x, p, rfl, rfl, rfl, zA ⟨by omega, Y5_15.out⟩, zA (N5.out.mono (by omega)), HX, zA (HAd.out.trans (HB5.out.mono (by omega)))⟩
   ·go_simp
    have hba := (Below.refl v1.heap.size v1).alloc (Nat.le_refl _) (.cells #[.int .i64 0, .int .i64 0, .int .i64 0, .int .i64 0, .int .i64 0] 79)
    have HB6 := zA (HB1.out.trans (hba.mono HB1.out.size))
    have Z6_16 : Hid ((v1.alloc (.cells #[.int .i64 0, .int .i64 0, .int .i64 0, .int .i64 0, .int .i64 0] 79)).heap[v1.heap.size]? = some (.cells #[.int .i64 0, .int .i64 0, .int .i64 0, .int .i64 0, .int .i64 0] 79)) := zA (heap_alloc_new v1 _)
    have q6 : v1.heap.size < (v1.alloc (.cells #[.int .i64 0, .int .i64 0, .int .i64 0, .int .i64 0, .int .i64 0] 79)).heap.size := by simp
    have O6_16 := zA (HN.out.offlt)
    have N6 := zA (HN.out.below hba)
    refine hK _ _ ⟨HKd.out.below HB6.out, HTd.out.on HB6.out⟩ ?_
    clear hK K hba HB1  HN
    generalize v1.alloc (.cells #[.int .i64 0, .int .i64 0, .int .i64 0, .int .i64 0, .int .i64 0] 79) = v6 at *
    refine oR 15 rfl rfl fun K hK => ?_
    go_simp
    have hba := (Below.refl v6.heap.size v6).alloc (Nat.le_refl _) (.cells #[.int .i64 0, .int .i64 0, .int .i64 0, .slice none 0 0, .int .i64 0, .slice none 0 0, .int .i64 0, .int .i64 0] 58)
    have HB7 := zA (HB6.out.trans (hba.mono HB6.out.size))
    have Z7_16 := zA (zC Z6_16.out hba)
    have Z7_15 : Hid ((v6.alloc (.cells #[.int .i64 0, .int .i64 0, .int .i64 0, .slice none 0 0, .int .i64 0, .slice none 0 0, .int .i64 0, .int .i64 0] 58)).heap[v6.heap.size]? = some (.cells #[.int .i64 0, .int .i64 0, .int .i64 0, .slice none 0 0, .int .i64 0, .slice none 0 0, .int .i64 0, .int .i64 0] 58)) := zA (heap_alloc_new v6 _)
    have q7 : v6.heap.size < (v6.alloc (.cells #[.int .i64 0, .int .i64 0, .int .i64 0, .slice none 0 0, .int .i64 0, .slice none 0 0, .int .i64 0, .int .i64 0] 58)).heap.size := by simp
    have O7_15 := zA (N6.out.offlt)
    have N7 := zA (N6.out.below hba)
    refine hK _ _ ⟨HKd.out.below HB7.out, HTd.out.on HB7.out⟩ ?_
    clear hK K hba HB6 Z6_16 N6
    generalize v6.alloc (.cells #[.int .i64 0, .int .i64 0, .int .i64 0, .slice none 0 0, .int .i64 0, .slice none 0 0, .int .i64 0, .int .i64 0] 58) = v7 at *
    have hZ := Z7_15.out
    have r0 := cell_of_row _ _ 0 _ _ _ hZ
    have s0 := frozen_of_row _ _ 0 _ _ hZ
    have r1 := cell_of_row _ _ 1 _ _ _ hZ
    have s1 := frozen_of_row _ _ 1 _ _ hZ
    have r2 := cell_of_row _ _ 2 _ _ _ hZ
    have s2 := frozen_of_row _ _ 2 _ _ hZ
    have r3 := cell_of_row _ _ 3 _ _ _ hZ
    have s3 := frozen_of_row _ _ 3 _ _ hZ
    have r4 := cell_of_row _ _ 4 _ _ _ hZ
    have s4 := frozen_of_row _ _ 4 _ _ hZ
    have r5 := cell_of_row _ _ 5 _ _ _ hZ
    have s5 := frozen_of_row _ _ 5 _ _ hZ
    have r6 := cell_of_row _ _ 6 _ _ _ hZ
    have s6 := frozen_of_row _ _ 6 _ _ hZ
    have r7 := cell_of_row _ _ 7 _ _ _ hZ
    have s7 := frozen_of_row _ _ 7 _ _ hZ
    simp at r0 r1 r2 r3 r4 r5 r6 r7
    have Y8_15 := zA (stG hZ x)
    have Y8_16 := zA (soG Z7_16.out (b := v6.heap.size) (by omega) x)
    have HB8 := zA (sbG HB7.out (b := v6.heap.size) (by omega) x)
    have N8 := zA (snG N7.out (b := v6.heap.size) O7_15.out x)
    refine oR 17 rfl rfl fun K hK => ?_
    go_simp
    refine hK _ _ ⟨HKd.out.below HB8.out, HTd.out.on HB8.out⟩ ?_
    clear hK K hZ r0 s0 r1 s1 r2 s2 r3 s3 r4 s4 r5 s5 r6 s6 r7 s7 HB7 N7 Z7_15 Z7_16
    generalize World.setCell _ ⟨v6.heap.size, 7, none⟩ _ = z8 at *
    have hZ := Y8_16.out
    have r0 := cell_of_row _ _ 0 _ _ _ hZ
    have s0 := frozen_of_row _ _ 0 _ _ hZ
    have r1 := cell_of_row _ _ 1 _ _ _ hZ
    have s1 := frozen_of_row _ _ 1 _ _ hZ
    have r2 := cell_of_row _ _ 2 _ _ _ hZ
    have s2 := frozen_of_row _ _ 2 _ _ hZ
    have r3 := cell_of_row _ _ 3 _ _ _ hZ
    have s3 := frozen_of_row _ _ 3 _ _ hZ
    have r4 := cell_of_row _ _ 4 _ _ _ hZ
    have s4 := frozen_of_row _ _ 4 _ _ hZ
    simp at r0 r1 r2 r3 r4
    have Y9_16 := zA (stT hZ p)
    have Y9_15 := zA (soT Y8_15.out (b := v1.heap.size) (by omega) p)
    have HB9 := zA (sbT HB8.out (b := v1.heap.size) (by omega) p)
    have N9 := zA (snT N8.out (b := v1.heap.size) O6_16.out p)
    refine oR 18 rfl rfl fun K hK => ?_
    go_simp
    refine hK _ _ ⟨HKd.out.below HB9.out, HTd.out.on HB9.out⟩ ?_
    clear hK K hZ r0 s0 r1 s1 r2 s2 r3 s3 r4 s4 HB8 N8 Y8_15 Y8_16
    generalize World.setCell _ ⟨v1.heap.size, 4, none⟩ _ = z9 at *
    refine oR 19 rfl rfl fun K hK => ?_
    go_simp
    refine hK _ _ ⟨HKd.out.below HB9.out, HTd.out.on HB9.out⟩ ?_
    clear hK K
    refine wpAnyH_done (by kernel_rfl) ?_ _
    go_wp2_with fail
    go_meet
    case rel => exact ⟨v6.heap.size, v1.heap.size, x, p, rfl, rfl, rfl, zA ⟨by omega, Y9_15.out⟩, zA (N9.out.mono (by omega)), HX, zA (HAd.out.trans (HB9.out.mono (by omega)))⟩
  ·go_simp
   have hba := (Below.refl w0.heap.size w0).alloc (Nat.le_refl _) (.cells #[.int .i64 0, .int .i64 0, .int .i64 0, .slice none 0 0, .int .i64 0, .slice none 0 0, .int .i64 0, .int .i64 0] 58)
   have HB10 := zA (hba)
   have Z10_15 : Hid ((w0.alloc (.cells #[.int .i64 0, .int .i64 0, .int .i64 0, .slice none 0 0, .int .i64 0, .slice none 0 0, .int .i64 0, .int .i64 0] 58)).heap[w0.heap.size]? = some (.cells #[.int .i64 0, .int .i64 0, .int .i64 0, .slice none 0 0, .int .i64 0, .slice none 0 0, .int .i64 0, .int .i64 0] 58)) := zA (heap_alloc_new w0 _)
   have q10 : w0.heap.size < (w0.alloc (.cells #[.int .i64 0, .int .i64 0, .int .i64 0, .slice none 0 0, .int .i64 0, .slice none 0 0, .int .i64 0, .int .i64 0] 58)).heap.size := by simp
   refine hK _ _ ⟨HKd.out.below HB10.out, HTd.out.on HB10.out⟩ ?_
   clear hK K hba   
   generalize w0.alloc (.cells #[.int .i64 0, .int .i64 0, .int .i64 0, .slice none 0 0, .int .i64 0, .slice none 0 0, .int .i64 0, .int .i64 0] 58) = v10 at *
   refine zT (i := 10) (j := 16) (by kernel_rfl) rfl rfl rfl rfl (fun K hK => ?_) (fun K hK => ?_)
   ·go_simp
    refine (HTap.out _ (HKd.out.below HB10.out)).mono ?_
    rintro e v11 ⟨⟨x, p, rfl, hN, hX⟩, hb⟩
    have HN := zA hN
    have HX := zA hX
    clear hN hX
    have HB11 := trR HB10 hb
    have Z11_15 := atR Z10_15 hb
    have O11_15 := zA (HN.out.offnew (show w0.heap.size < v10.heap.size by omega))
    have q11_15 : w0.heap.size < v11.heap.size := Nat.lt_of_lt_of_le (by omega) hb.size
    have u11 := HB11.out.size
    refine hK _ _ ⟨HKd.out.below HB11.out, HTd.out.on HB11.out⟩ ?_
    clear hK K hb HB10 Z10_15
    refine yB (fuel := 4) (by kernel_rfl) (fun c d v a w h => by cases d <;> exact h) ⟨HKd.out.below HB11.out, HTd.out.on HB11.out⟩ [11, 12, 13, 14] _ _ (by kernel_rfl) ?_
    refine pS (.tuple #[gtV x.i x.z x.s x.oa x.A.length x.ca x.v x.od x.D.length x.cd x.l x.u, tp p.a p.g p.s p.m p.z, .int .i64 E]) rfl rfl ?_
    refine pS (gtV x.i x.z x.s x.oa x.A.length x.ca x.v x.od x.D.length x.cd x.l x.u) rfl rfl ?_
    refine pS (tp p.a p.g p.s p.m p.z) rfl rfl ?_
    refine pS (.int .i64 E) rfl rfl ?_
    refine zE ?_
    refine oR 16 rfl rfl fun K hK => ?_
    go_simp
    have hba := (Below.refl v11.heap.size v11).alloc (Nat.le_refl _) (.cells #[.int .i64 0, .int .i64 0, .int .i64 0, .int .i64 0, .int .i64 0] 79)
    have HB12 := zA (HB11.out.trans (hba.mono HB11.out.size))
    have Z12_15 := zA (zC Z11_15.out hba)
    have Z12_16 : Hid ((v11.alloc (.cells #[.int .i64 0, .int .i64 0, .int .i64 0, .int .i64 0, .int .i64 0] 79)).heap[v11.heap.size]? = some (.cells #[.int .i64 0, .int .i64 0, .int .i64 0, .int .i64 0, .int .i64 0] 79)) := zA (heap_alloc_new v11 _)
    have q12 : v11.heap.size < (v11.alloc (.cells #[.int .i64 0, .int .i64 0, .int .i64 0, .int .i64 0, .int .i64 0] 79)).heap.size := by simp
    have O12_16 := zA (HN.out.offlt)
    have N12 := zA (HN.out.below hba)
    refine hK _ _ ⟨HKd.out.below HB12.out, HTd.out.on HB12.out⟩ ?_
    clear hK K hba HB11 Z11_15 HN
    generalize v11.alloc (.cells #[.int .i64 0, .int .i64 0, .int .i64 0, .int .i64 0, .int .i64 0] 79) = v12 at *
    have hZ := Z12_15.out
    have r0 := cell_of_row _ _ 0 _ _ _ hZ
    have s0 := frozen_of_row _ _ 0 _ _ hZ
    have r1 := cell_of_row _ _ 1 _ _ _ hZ
    have s1 := frozen_of_row _ _ 1 _ _ hZ
    have r2 := cell_of_row _ _ 2 _ _ _ hZ
    have s2 := frozen_of_row _ _ 2 _ _ hZ
    have r3 := cell_of_row _ _ 3 _ _ _ hZ
    have s3 := frozen_of_row _ _ 3 _ _ hZ
    have r4 := cell_of_row _ _ 4 _ _ _ hZ
    have s4 := frozen_of_row _ _ 4 _ _ hZ
    have r5 := cell_of_row _ _ 5 _ _ _ hZ
    have s5 := frozen_of_row _ _ 5 _ _ hZ
    have r6 := cell_of_row _ _ 6 _ _ _ hZ
    have s6 := frozen_of_row _ _ 6 _ _ hZ
    have r7 := cell_of_row _ _ 7 _ _ _ hZ
    have s7 := frozen_of_row _ _ 7 _ _ hZ
    simp at r0 r1 r2 r3 r4 r5 r6 r7
    have Y13_15 := zA (stG hZ x)
    have Y13_16 := zA (soG Z12_16.out (b := w0.heap.size) (by omega) x)
    have HB13 := zA (sbG HB12.out (b := w0.heap.size) (by omega) x)
    have N13 := zA (snG N12.out (b := w0.heap.size) O11_15.out x)
    refine oR 17 rfl rfl fun K hK => ?_
    go_simp
    refine hK _ _ ⟨HKd.out.below HB13.out, HTd.out.on HB13.out⟩ ?_
    clear hK K hZ r0 s0 r1 s1 r2 s2 r3 s3 r4 s4 r5 s5 r6 s6 r7 s7 HB12 N12 Z12_15 Z12_16
    generalize World.setCell _ ⟨w0.heap.size, 7, none⟩ _ = z13 at *
    have hZ := Y13_16.out
    have r0 := cell_of_row _ _ 0 _ _ _ hZ
    have s0 := frozen_of_row _ _ 0 _ _ hZ
    have r1 := cell_of_row _ _ 1 _ _ _ hZ
    have s1 := frozen_of_row _ _ 1 _ _ hZ
    have r2 := cell_of_row _ _ 2 _ _ _ hZ
    have s2 := frozen_of_row _ _ 2 _ _ hZ
    have r3 := cell_of_row _ _ 3 _ _ _ hZ
    have s3 := frozen_of_row _ _ 3 _ _ hZ
    have r4 := cell_of_row _ _ 4 _ _ _ hZ
    have s4 := frozen_of_row _ _ 4 _ _ hZ
    simp at r0 r1 r2 r3 r4
    have Y14_16 := zA (stT hZ p)
    have Y14_15 := zA (soT Y13_15.out (b := v11.heap.size) (by omega) p)
    have HB14 := zA (sbT HB13.out (b := v11.heap.size) (by omega) p)
    have N14 := zA (snT N13.out (b := v11.heap.size) O12_16.out p)
    refine oR 18 rfl rfl fun K hK => ?_
    go_simp
    refine hK _ _ ⟨HKd.out.below HB14.out, HTd.out.on HB14.out⟩ ?_
    clear hK K hZ r0 s0 r1 s1 r2 s2 r3 s3 r4 s4 HB13 N13 Y13_15 Y13_16
    generalize World.setCell _ ⟨v11.heap.size, 4, none⟩ _ = z14 at *
    refine oR 19 rfl rfl fun K hK => ?_
    go_simp
    refine hK _ _ ⟨HKd.out.below HB14.out, HTd.out.on HB14.out⟩ ?_
    clear hK K
    refine wpAnyH_done (by kernel_rfl) ?_ _
    go_wp2_with fail
    go_meet
    case rel => exact ⟨w0.heap.size, v11.heap.size, x, p, rfl, rfl, rfl, zA ⟨by omega, Y14_15.out⟩, zA (N14.out.mono (by omega)), HX, zA (HAd.out.trans (HB14.out.mono (by omega)))⟩
   ·go_simp
    have hba := (Below.refl v10.heap.size v10).alloc (Nat.le_refl _) (.cells #[.int .i64 0, .int .i64 0, .int .i64 0, .int .i64 0, .int .i64 0] 79)
    have HB15 := zA (HB10.out.trans (hba.mono HB10.out.size))
    have Z15_15 := zA (zC Z10_15.out hba)
    have Z15_16 : Hid ((v10.alloc (.cells #[.int .i64 0, .int .i64 0, .int .i64 0, .int .i64 0, .int .i64 0] 79)).heap[v10.heap.size]? = some (.cells #[.int .i64 0, .int .i64 0, .int .i64 0, .int .i64 0, .int .i64 0] 79)) := zA (heap_alloc_new v10 _)
    have q15 : v10.heap.size < (v10.alloc (.cells #[.int .i64 0, .int .i64 0, .int .i64 0, .int .i64 0, .int .i64 0] 79)).heap.size := by simp
    refine hK _ _ ⟨HKd.out.below HB15.out, HTd.out.on HB15.out⟩ ?_
    clear hK K hba HB10 Z10_15 
    generalize v10.alloc (.cells #[.int .i64 0, .int .i64 0, .int .i64 0, .int .i64 0, .int .i64 0] 79) = v15 at *
    refine oR 10 rfl rfl fun K hK => ?_
    go_simp
    refine (HTap.out _ (HKd.out.below HB15.out)).mono ?_
    rintro e v16 ⟨⟨x, p, rfl, hN, hX⟩, hb⟩
    have HN := zA hN
    have HX := zA hX
    clear hN hX
    have HB16 := trR HB15 hb
    have Z16_15 := atR Z15_15 hb
    have O16_15 := zA (HN.out.offnew (show w0.heap.size < v15.heap.size by omega))
    have q16_15 : w0.heap.size < v16.heap.size := Nat.lt_of_lt_of_le (by omega) hb.size
    have Z16_16 := atR Z15_16 hb
    have O16_16 := zA (HN.out.offnew (show v10.heap.size < v15.heap.size by omega))
    have q16_16 : v10.heap.size < v16.heap.size := Nat.lt_of_lt_of_le (by omega) hb.size
    have u16 := HB16.out.size
    refine hK _ _ ⟨HKd.out.below HB16.out, HTd.out.on HB16.out⟩ ?_
    clear hK K hb HB15 Z15_15 Z15_16
    refine yB (fuel := 3) (by kernel_rfl) (fun c d v a w h => by cases d <;> exact h) ⟨HKd.out.below HB16.out, HTd.out.on HB16.out⟩ [11, 12, 13, 14] _ _ (by kernel_rfl) ?_
    refine pS (.tuple #[gtV x.i x.z x.s x.oa x.A.length x.ca x.v x.od x.D.length x.cd x.l x.u, tp p.a p.g p.s p.m p.z, .int .i64 E]) rfl rfl ?_
    refine pS (gtV x.i x.z x.s x.oa x.A.length x.ca x.v x.od x.D.length x.cd x.l x.u) rfl rfl ?_
    refine pS (tp p.a p.g p.s p.m p.z) rfl rfl ?_
    refine pS (.int .i64 E) rfl rfl ?_
    refine zE ?_
    have hZ := Z16_15.out
    have r0 := cell_of_row _ _ 0 _ _ _ hZ
    have s0 := frozen_of_row _ _ 0 _ _ hZ
    have r1 := cell_of_row _ _ 1 _ _ _ hZ
    have s1 := frozen_of_row _ _ 1 _ _ hZ
    have r2 := cell_of_row _ _ 2 _ _ _ hZ
    have s2 := frozen_of_row _ _ 2 _ _ hZ
    have r3 := cell_of_row _ _ 3 _ _ _ hZ
    have s3 := frozen_of_row _ _ 3 _ _ hZ
    have r4 := cell_of_row _ _ 4 _ _ _ hZ
    have s4 := frozen_of_row _ _ 4 _ _ hZ
    have r5 := cell_of_row _ _ 5 _ _ _ hZ
    have s5 := frozen_of_row _ _ 5 _ _ hZ
    have r6 := cell_of_row _ _ 6 _ _ _ hZ
    have s6 := frozen_of_row _ _ 6 _ _ hZ
    have r7 := cell_of_row _ _ 7 _ _ _ hZ
    have s7 := frozen_of_row _ _ 7 _ _ hZ
    simp at r0 r1 r2 r3 r4 r5 r6 r7
    have Y17_15 := zA (stG hZ x)
    have Y17_16 := zA (soG Z16_16.out (b := w0.heap.size) (by omega) x)
    have HB17 := zA (sbG HB16.out (b := w0.heap.size) (by omega) x)
    have N17 := zA (snG HN.out (b := w0.heap.size) O16_15.out x)
    refine oR 17 rfl rfl fun K hK => ?_
    go_simp
    refine hK _ _ ⟨HKd.out.below HB17.out, HTd.out.on HB17.out⟩ ?_
    clear hK K hZ r0 s0 r1 s1 r2 s2 r3 s3 r4 s4 r5 s5 r6 s6 r7 s7 HB16 HN Z16_15 Z16_16
    generalize World.setCell _ ⟨w0.heap.size, 7, none⟩ _ = z17 at *
    have hZ := Y17_16.out
    have r0 := cell_of_row _ _ 0 _ _ _ hZ
    have s0 := frozen_of_row _ _ 0 _ _ hZ
    have r1 := cell_of_row _ _ 1 _ _ _ hZ
    have s1 := frozen_of_row _ _ 1 _ _ hZ
    have r2 := cell_of_row _ _ 2 _ _ _ hZ
    have s2 := frozen_of_row _ _ 2 _ _ hZ
    have r3 := cell_of_row _ _ 3 _ _ _ hZ
    have s3 := frozen_of_row _ _ 3 _ _ hZ
    have r4 := cell_of_row _ _ 4 _ _ _ hZ
    have s4 := frozen_of_row _ _ 4 _ _ hZ
    simp at r0 r1 r2 r3 r4
    have Y18_16 := zA (stT hZ p)
    have Y18_15 := zA (soT Y17_15.out (b := v10.heap.size) (by omega) p)
    have HB18 := zA (sbT HB17.out (b := v10.heap.size) (by omega) p)
    have N18 := zA (snT N17.out (b := v10.heap.size) O16_16.out p)
    refine oR 18 rfl rfl fun K hK => ?_
    go_simp
    refine hK _ _ ⟨HKd.out.below HB18.out, HTd.out.on HB18.out⟩ ?_
    clear hK K hZ r0 s0 r1 s1 r2 s2 r3 s3 r4 s4 HB17 N17 Y17_15 Y17_16
    generalize World.setCell _ ⟨v10.heap.size, 4, none⟩ _ = z18 at *
    refine oR 19 rfl rfl fun K hK => ?_
    go_simp
    refine hK _ _ ⟨HKd.out.below HB18.out, HTd.out.on HB18.out⟩ ?_
    clear hK K
    refine wpAnyH_done (by kernel_rfl) ?_ _
    go_wp2_with fail
    go_meet
    case rel => exact ⟨w0.heap.size, v10.heap.size, x, p, rfl, rfl, rfl, zA ⟨by omega, Y18_15.out⟩, zA (N18.out.mono (by omega)), HX, zA (HAd.out.trans (HB18.out.mono (by omega)))⟩
  ·go_simp
   have hba := (Below.refl w0.heap.size w0).alloc (Nat.le_refl _) (.cells #[.int .i64 0, .int .i64 0, .int .i64 0, .int .i64 0, .int .i64 0] 79)
   have HB19 := zA (hba)
   have Z19_16 : Hid ((w0.alloc (.cells #[.int .i64 0, .int .i64 0, .int .i64 0, .int .i64 0, .int .i64 0] 79)).heap[w0.heap.size]? = some (.cells #[.int .i64 0, .int .i64 0, .int .i64 0, .int .i64 0, .int .i64 0] 79)) := zA (heap_alloc_new w0 _)
   have q19 : w0.heap.size < (w0.alloc (.cells #[.int .i64 0, .int .i64 0, .int .i64 0, .int .i64 0, .int .i64 0] 79)).heap.size := by simp
   refine hK _ _ ⟨HKd.out.below HB19.out, HTd.out.on HB19.out⟩ ?_
   clear hK K hba   
   generalize w0.alloc (.cells #[.int .i64 0, .int .i64 0, .int .i64 0, .int .i64 0, .int .i64 0] 79) = v19 at *
   refine zT (i := 10) (j := 15) (by kernel_rfl) rfl rfl rfl rfl (fun K hK => ?_) (fun K hK => ?_)
   ·go_simp
    refine (HTap.out _ (HKd.out.below HB19.out)).mono ?_
    rintro e v20 ⟨⟨x, p, rfl, hN, hX⟩, hb⟩
    have HN := zA hN
    have HX := zA hX
    clear hN hX
    have HB20 := trR HB19 hb
    have Z20_16 := atR Z19_16 hb
    have O20_16 := zA (HN.out.offnew (show w0.heap.size < v19.heap.size by omega))
    have q20_16 : w0.heap.size < v20.heap.size := Nat.lt_of_lt_of_le (by omega) hb.size
    have u20 := HB20.out.size
    refine hK _ _ ⟨HKd.out.below HB20.out, HTd.out.on HB20.out⟩ ?_
    clear hK K hb HB19 Z19_16
    refine yB (fuel := 4) (by kernel_rfl) (fun c d v a w h => by cases d <;> exact h) ⟨HKd.out.below HB20.out, HTd.out.on HB20.out⟩ [11, 12, 13, 14] _ _ (by kernel_rfl) ?_
    refine pS (.tuple #[gtV x.i x.z x.s x.oa x.A.length x.ca x.v x.od x.D.length x.cd x.l x.u, tp p.a p.g p.s p.m p.z, .int .i64 E]) rfl rfl ?_
    refine pS (gtV x.i x.z x.s x.oa x.A.length x.ca x.v x.od x.D.length x.cd x.l x.u) rfl rfl ?_
    refine pS (tp p.a p.g p.s p.m p.z) rfl rfl ?_
    refine pS (.int .i64 E) rfl rfl ?_
    refine zE ?_
    refine oR 15 rfl rfl fun K hK => ?_
    go_simp
    have hba := (Below.refl v20.heap.size v20).alloc (Nat.le_refl _) (.cells #[.int .i64 0, .int .i64 0, .int .i64 0, .slice none 0 0, .int .i64 0, .slice none 0 0, .int .i64 0, .int .i64 0] 58)
    have HB21 := zA (HB20.out.trans (hba.mono HB20.out.size))
    have Z21_16 := zA (zC Z20_16.out hba)
    have Z21_15 : Hid ((v20.alloc (.cells #[.int .i64 0, .int .i64 0, .int .i64 0, .slice none 0 0, .int .i64 0, .slice none 0 0, .int .i64 0, .int .i64 0] 58)).heap[v20.heap.size]? = some (.cells #[.int .i64 0, .int .i64 0, .int .i64 0, .slice none 0 0, .int .i64 0, .slice none 0 0, .int .i64 0, .int .i64 0] 58)) := zA (heap_alloc_new v20 _)
    have q21 : v20.heap.size < (v20.alloc (.cells #[.int .i64 0, .int .i64 0, .int .i64 0, .slice none 0 0, .int .i64 0, .slice none 0 0, .int .i64 0, .int .i64 0] 58)).heap.size := by simp
    have O21_15 := zA (HN.out.offlt)
    have N21 := zA (HN.out.below hba)
    refine hK _ _ ⟨HKd.out.below HB21.out, HTd.out.on HB21.out⟩ ?_
    clear hK K hba HB20 Z20_16 HN
    generalize v20.alloc (.cells #[.int .i64 0, .int .i64 0, .int .i64 0, .slice none 0 0, .int .i64 0, .slice none 0 0, .int .i64 0, .int .i64 0] 58) = v21 at *
    have hZ := Z21_15.out
    have r0 := cell_of_row _ _ 0 _ _ _ hZ
    have s0 := frozen_of_row _ _ 0 _ _ hZ
    have r1 := cell_of_row _ _ 1 _ _ _ hZ
    have s1 := frozen_of_row _ _ 1 _ _ hZ
    have r2 := cell_of_row _ _ 2 _ _ _ hZ
    have s2 := frozen_of_row _ _ 2 _ _ hZ
    have r3 := cell_of_row _ _ 3 _ _ _ hZ
    have s3 := frozen_of_row _ _ 3 _ _ hZ
    have r4 := cell_of_row _ _ 4 _ _ _ hZ
    have s4 := frozen_of_row _ _ 4 _ _ hZ
    have r5 := cell_of_row _ _ 5 _ _ _ hZ
    have s5 := frozen_of_row _ _ 5 _ _ hZ
    have r6 := cell_of_row _ _ 6 _ _ _ hZ
    have s6 := frozen_of_row _ _ 6 _ _ hZ
    have r7 := cell_of_row _ _ 7 _ _ _ hZ
    have s7 := frozen_of_row _ _ 7 _ _ hZ
    simp at r0 r1 r2 r3 r4 r5 r6 r7
    have Y22_15 := zA (stG hZ x)
    have Y22_16 := zA (soG Z21_16.out (b := v20.heap.size) (by omega) x)
    have HB22 := zA (sbG HB21.out (b := v20.heap.size) (by omega) x)
    have N22 := zA (snG N21.out (b := v20.heap.size) O21_15.out x)
    refine oR 17 rfl rfl fun K hK => ?_
    go_simp
    refine hK _ _ ⟨HKd.out.below HB22.out, HTd.out.on HB22.out⟩ ?_
    clear hK K hZ r0 s0 r1 s1 r2 s2 r3 s3 r4 s4 r5 s5 r6 s6 r7 s7 HB21 N21 Z21_15 Z21_16
    generalize World.setCell _ ⟨v20.heap.size, 7, none⟩ _ = z22 at *
    have hZ := Y22_16.out
    have r0 := cell_of_row _ _ 0 _ _ _ hZ
    have s0 := frozen_of_row _ _ 0 _ _ hZ
    have r1 := cell_of_row _ _ 1 _ _ _ hZ
    have s1 := frozen_of_row _ _ 1 _ _ hZ
    have r2 := cell_of_row _ _ 2 _ _ _ hZ
    have s2 := frozen_of_row _ _ 2 _ _ hZ
    have r3 := cell_of_row _ _ 3 _ _ _ hZ
    have s3 := frozen_of_row _ _ 3 _ _ hZ
    have r4 := cell_of_row _ _ 4 _ _ _ hZ
    have s4 := frozen_of_row _ _ 4 _ _ hZ
    simp at r0 r1 r2 r3 r4
    have Y23_16 := zA (stT hZ p)
    have Y23_15 := zA (soT Y22_15.out (b := w0.heap.size) (by omega) p)
    have HB23 := zA (sbT HB22.out (b := w0.heap.size) (by omega) p)
    have N23 := zA (snT N22.out (b := w0.heap.size) O20_16.out p)
    refine oR 18 rfl rfl fun K hK => ?_
    go_simp
    refine hK _ _ ⟨HKd.out.below HB23.out, HTd.out.on HB23.out⟩ ?_
    clear hK K hZ r0 s0 r1 s1 r2 s2 r3 s3 r4 s4 HB22 N22 Y22_15 Y22_16
    generalize World.setCell _ ⟨w0.heap.size, 4, none⟩ _ = z23 at *
    refine oR 19 rfl rfl fun K hK => ?_
    go_simp
    refine hK _ _ ⟨HKd.out.below HB23.out, HTd.out.on HB23.out⟩ ?_
    clear hK K
    refine wpAnyH_done (by kernel_rfl) ?_ _
    go_wp2_with fail
    go_meet
    case rel => exact ⟨v20.heap.size, w0.heap.size, x, p, rfl, rfl, rfl, zA ⟨by omega, Y23_15.out⟩, zA (N23.out.mono (by omega)), HX, zA (HAd.out.trans (HB23.out.mono (by omega)))⟩
   ·go_simp
    have hba := (Below.refl v19.heap.size v19).alloc (Nat.le_refl _) (.cells #[.int .i64 0, .int .i64 0, .int .i64 0, .slice none 0 0, .int .i64 0, .slice none 0 0, .int .i64 0, .int .i64 0] 58)
    have HB24 := zA (HB19.out.trans (hba.mono HB19.out.size))
    have Z24_16 := zA (zC Z19_16.out hba)
    have Z24_15 : Hid ((v19.alloc (.cells #[.int .i64 0, .int .i64 0, .int .i64 0, .slice none 0 0, .int .i64 0, .slice none 0 0, .int .i64 0, .int .i64 0] 58)).heap[v19.heap.size]? = some (.cells #[.int .i64 0, .int .i64 0, .int .i64 0, .slice none 0 0, .int .i64 0, .slice none 0 0, .int .i64 0, .int .i64 0] 58)) := zA (heap_alloc_new v19 _)
    have q24 : v19.heap.size < (v19.alloc (.cells #[.int .i64 0, .int .i64 0, .int .i64 0, .slice none 0 0, .int .i64 0, .slice none 0 0, .int .i64 0, .int .i64 0] 58)).heap.size := by simp
    refine hK _ _ ⟨HKd.out.below HB24.out, HTd.out.on HB24.out⟩ ?_
    clear hK K hba HB19 Z19_16 
    generalize v19.alloc (.cells #[.int .i64 0, .int .i64 0, .int .i64 0, .slice none 0 0, .int .i64 0, .slice none 0 0, .int .i64 0, .int .i64 0] 58) = v24 at *
    refine oR 10 rfl rfl fun K hK => ?_
    go_simp
    refine (HTap.out _ (HKd.out.below HB24.out)).mono ?_
    rintro e v25 ⟨⟨x, p, rfl, hN, hX⟩, hb⟩
    have HN := zA hN
    have HX := zA hX
    clear hN hX
    have HB25 := trR HB24 hb
    have Z25_16 := atR Z24_16 hb
    have O25_16 := zA (HN.out.offnew (show w0.heap.size < v24.heap.size by omega))
    have q25_16 : w0.heap.size < v25.heap.size := Nat.lt_of_lt_of_le (by omega) hb.size
    have Z25_15 := atR Z24_15 hb
    have O25_15 := zA (HN.out.offnew (show v19.heap.size < v24.heap.size by omega))
    have q25_15 : v19.heap.size < v25.heap.size := Nat.lt_of_lt_of_le (by omega) hb.size
    have u25 := HB25.out.size
    refine hK _ _ ⟨HKd.out.below HB25.out, HTd.out.on HB25.out⟩ ?_
    clear hK K hb HB24 Z24_16 Z24_15
    refine yB (fuel := 3) (by kernel_rfl) (fun c d v a w h => by cases d <;> exact h) ⟨HKd.out.below HB25.out, HTd.out.on HB25.out⟩ [11, 12, 13, 14] _ _ (by kernel_rfl) ?_
    refine pS (.tuple #[gtV x.i x.z x.s x.oa x.A.length x.ca x.v x.od x.D.length x.cd x.l x.u, tp p.a p.g p.s p.m p.z, .int .i64 E]) rfl rfl ?_
    refine pS (gtV x.i x.z x.s x.oa x.A.length x.ca x.v x.od x.D.length x.cd x.l x.u) rfl rfl ?_
    refine pS (tp p.a p.g p.s p.m p.z) rfl rfl ?_
    refine pS (.int .i64 E) rfl rfl ?_
    refine zE ?_
    have hZ := Z25_15.out
    have r0 := cell_of_row _ _ 0 _ _ _ hZ
    have s0 := frozen_of_row _ _ 0 _ _ hZ
    have r1 := cell_of_row _ _ 1 _ _ _ hZ
    have s1 := frozen_of_row _ _ 1 _ _ hZ
    have r2 := cell_of_row _ _ 2 _ _ _ hZ
    have s2 := frozen_of_row _ _ 2 _ _ hZ
    have r3 := cell_of_row _ _ 3 _ _ _ hZ
    have s3 := frozen_of_row _ _ 3 _ _ hZ
    have r4 := cell_of_row _ _ 4 _ _ _ hZ
    have s4 := frozen_of_row _ _ 4 _ _ hZ
    have r5 := cell_of_row _ _ 5 _ _ _ hZ
    have s5 := frozen_of_row _ _ 5 _ _ hZ
    have r6 := cell_of_row _ _ 6 _ _ _ hZ
    have s6 := frozen_of_row _ _ 6 _ _ hZ
    have r7 := cell_of_row _ _ 7 _ _ _ hZ
    have s7 := frozen_of_row _ _ 7 _ _ hZ
    simp at r0 r1 r2 r3 r4 r5 r6 r7
    have Y26_15 := zA (stG hZ x)
    have Y26_16 := zA (soG Z25_16.out (b := v19.heap.size) (by omega) x)
    have HB26 := zA (sbG HB25.out (b := v19.heap.size) (by omega) x)
    have N26 := zA (snG HN.out (b := v19.heap.size) O25_15.out x)
    refine oR 17 rfl rfl fun K hK => ?_
    go_simp
    refine hK _ _ ⟨HKd.out.below HB26.out, HTd.out.on HB26.out⟩ ?_
    clear hK K hZ r0 s0 r1 s1 r2 s2 r3 s3 r4 s4 r5 s5 r6 s6 r7 s7 HB25 HN Z25_15 Z25_16
    generalize World.setCell _ ⟨v19.heap.size, 7, none⟩ _ = z26 at *
    have hZ := Y26_16.out
    have r0 := cell_of_row _ _ 0 _ _ _ hZ
    have s0 := frozen_of_row _ _ 0 _ _ hZ
    have r1 := cell_of_row _ _ 1 _ _ _ hZ
    have s1 := frozen_of_row _ _ 1 _ _ hZ
    have r2 := cell_of_row _ _ 2 _ _ _ hZ
    have s2 := frozen_of_row _ _ 2 _ _ hZ
    have r3 := cell_of_row _ _ 3 _ _ _ hZ
    have s3 := frozen_of_row _ _ 3 _ _ hZ
    have r4 := cell_of_row _ _ 4 _ _ _ hZ
    have s4 := frozen_of_row _ _ 4 _ _ hZ
    simp at r0 r1 r2 r3 r4
    have Y27_16 := zA (stT hZ p)
    have Y27_15 := zA (soT Y26_15.out (b := w0.heap.size) (by omega) p)
    have HB27 := zA (sbT HB26.out (b := w0.heap.size) (by omega) p)
    have N27 := zA (snT N26.out (b := w0.heap.size) O25_16.out p)
    refine oR 18 rfl rfl fun K hK => ?_
    go_simp
    refine hK _ _ ⟨HKd.out.below HB27.out, HTd.out.on HB27.out⟩ ?_
    clear hK K hZ r0 s0 r1 s1 r2 s2 r3 s3 r4 s4 HB26 N26 Y26_15 Y26_16
    generalize World.setCell _ ⟨w0.heap.size, 4, none⟩ _ = z27 at *
    refine oR 19 rfl rfl fun K hK => ?_
    go_simp
    refine hK _ _ ⟨HKd.out.below HB27.out, HTd.out.on HB27.out⟩ ?_
    clear hK K
    refine wpAnyH_done (by kernel_rfl) ?_ _
    go_wp2_with fail
    go_meet
    case rel => exact ⟨v19.heap.size, w0.heap.size, x, p, rfl, rfl, rfl, zA ⟨by omega, Y27_15.out⟩, zA (N27.out.mono (by omega)), HX, zA (HAd.out.trans (HB27.out.mono (by omega)))⟩
 case rest =>
  obtain ⟨b9, b10, x, p, rfl, rfl, rfl, HZ, HN, HX, HB⟩ := hcut
  have HK2 := zA (HK0.out.below HB.out)
  clear HK1 HT HTap HK0
  rcases hE : (E != 0) with _ | _
  ·obtain rfl : E = 0 := by simpa using hE
   have HX0 := zA (HX.out rfl)
   clear HX
   go_upto_region 4 with fail
   refine zJ (fun w' => w'.heap[K]? = some (boxK a Q T P V dv D G W 92) ∧ w'.heap[b9]? = some (.cells #[.int .i64 x.i, .int .i64 x.z, .int .i64 x.s, .slice x.oa x.A.length x.ca, .int .i64 x.v, .slice x.od x.D.length x.cd, .int .i64 x.l, .int .i64 x.u] 58)) [0, 1, 2, 3, 4, 5, 6, 7] 1 (by rfl) (by kernel_rfl) (by kernel_rfl) (by kernel_rfl) (fun c d v a w h => by cases d <;> exact h) ?_ ?_
   ·exact ⟨zC HK2.out.box (Below.refl _ _).drew, zC HZ.out.2 (Below.refl _ _).drew⟩
   refine zB (.pointer (some ⟨K, 0, none⟩)) rfl rfl (fun w' hS => ?_) ?_
   ·go_simp
   refine zB (.pointer (some ⟨K, 0, none⟩)) rfl rfl (fun w' hS => ?_) ?_
   ·go_simp
   refine zB (.pointer (some ⟨K, 0, none⟩)) rfl rfl (fun w' hS => ?_) ?_
   ·go_simp
   refine zB (.pointer (some ⟨K, 5, none⟩)) rfl rfl (fun w' hS => ?_) ?_
   ·go_simp
   refine zB (.slice (some ⟨Q, 0, none⟩) G.length a.cg) rfl rfl (fun w' hS => ?_) ?_
   ·have k5 : w'.cell? ⟨K, 5, none⟩ = some (.slice (some ⟨Q, 0, none⟩) G.length a.cg) := by rw [cell_of_row _ _ 5 _ _ _ hS.1]; rfl
    go_simp
   refine zB (.int .i64 (q : Int)) rfl rfl (fun w' hS => ?_) ?_
   ·go_simp
   refine zB (gtV x.i x.z x.s x.oa x.A.length x.ca x.v x.od x.D.length x.cd x.l x.u) rfl rfl (fun w' hS => ?_) ?_
   ·have x0 : w'.cell? ⟨b9, 0, none⟩ = some (.int .i64 x.i) := by rw [cell_of_row _ _ 0 _ _ _ hS.2]; rfl
    have x1 : w'.cell? ⟨b9, 1, none⟩ = some (.int .i64 x.z) := by rw [cell_of_row _ _ 1 _ _ _ hS.2]; rfl
    have x2 : w'.cell? ⟨b9, 2, none⟩ = some (.int .i64 x.s) := by rw [cell_of_row _ _ 2 _ _ _ hS.2]; rfl
    have x3 : w'.cell? ⟨b9, 3, none⟩ = some (.slice x.oa x.A.length x.ca) := by rw [cell_of_row _ _ 3 _ _ _ hS.2]; rfl
    have x4 : w'.cell? ⟨b9, 4, none⟩ = some (.int .i64 x.v) := by rw [cell_of_row _ _ 4 _ _ _ hS.2]; rfl
    have x5 : w'.cell? ⟨b9, 5, none⟩ = some (.slice x.od x.D.length x.cd) := by rw [cell_of_row _ _ 5 _ _ _ hS.2]; rfl
    have x6 : w'.cell? ⟨b9, 6, none⟩ = some (.int .i64 x.l) := by rw [cell_of_row _ _ 6 _ _ _ hS.2]; rfl
    have x7 : w'.cell? ⟨b9, 7, none⟩ = some (.int .i64 x.u) := by rw [cell_of_row _ _ 7 _ _ _ hS.2]; rfl
    go_simp
   refine zB (.pointer (some ⟨Q, q * 8, none⟩)) rfl rfl (fun w' hS => ?_) ?_
   ·go_simp
   refine zE ?_
   have HKd := zA (HK2.out.below (Below.refl _ _).drew)
   have HNd := zA (HN.out.below (Below.refl _ _).drew)
   have HBd := zA HB.out.drew
   have HZd := zA (zC HZ.out.2 (Below.refl _ _).drew)
   have hb9 := HZ.out.1
   clear HK2 HN HB HZ
   generalize (World.drew _) = w0 at *
   have g0 := HKd.out.g0 Hq.out
   have g1 := HKd.out.g1 Hq.out
   have g2 := HKd.out.g2 Hq.out
   have g3 := HKd.out.g3 Hq.out
   have g4 := HKd.out.g4 Hq.out
   have g5 := HKd.out.g5 Hq.out
   have g6 := HKd.out.g6 Hq.out
   have g7 := HKd.out.g7 Hq.out
   have f0 := HKd.out.row.frozenAt (q * 8)
   have f1 := HKd.out.row.frozenAt (q * 8 + 1)
   have f2 := HKd.out.row.frozenAt (q * 8 + 2)
   have f3 := HKd.out.row.frozenAt (q * 8 + 3)
   have f4 := HKd.out.row.frozenAt (q * 8 + 4)
   have f5 := HKd.out.row.frozenAt (q * 8 + 5)
   have f6 := HKd.out.row.frozenAt (q * 8 + 6)
   have f7 := HKd.out.row.frozenAt (q * 8 + 7)
   refine oR 8 rfl rfl fun J hJ => ?_
   go_simp
   have HKz := zA (HKd.out.setGate q g x Hq.out ⟨HNd.out.1.1, .new HNd.out.1.2 (by omega) (by omega) (by omega)⟩ ⟨HNd.out.2.1, .new HNd.out.2.2 (by omega) (by omega) (by omega)⟩)
   have HF := zA ((((((((Kq.setCell (.ofBelow HBd.out) (S := KQ K Q) (p := ⟨Q, q * 8, none⟩) (.inr rfl) (.int .i64 x.i)).setCell (p := ⟨Q, q * 8 + 1, none⟩) (.inr rfl) (.int .i64 x.z)).setCell (p := ⟨Q, q * 8 + 2, none⟩) (.inr rfl) (.int .i64 x.s)).setCell (p := ⟨Q, q * 8 + 3, none⟩) (.inr rfl) (.slice x.oa x.A.length x.ca)).setCell (p := ⟨Q, q * 8 + 4, none⟩) (.inr rfl) (.int .i64 x.v)).setCell (p := ⟨Q, q * 8 + 5, none⟩) (.inr rfl) (.slice x.od x.D.length x.cd)).setCell (p := ⟨Q, q * 8 + 6, none⟩) (.inr rfl) (.int .i64 x.l)).setCell (p := ⟨Q, q * 8 + 7, none⟩) (.inr rfl) (.int .i64 x.u))
   have HZ2 := zA (zD (zD (zD (zD (zD (zD (zD (zD HZd.out (p := ⟨Q, q * 8, none⟩) (by simp; omega) (.int .i64 x.i)) (p := ⟨Q, q * 8 + 1, none⟩) (by simp; omega) (.int .i64 x.z)) (p := ⟨Q, q * 8 + 2, none⟩) (by simp; omega) (.int .i64 x.s)) (p := ⟨Q, q * 8 + 3, none⟩) (by simp; omega) (.slice x.oa x.A.length x.ca)) (p := ⟨Q, q * 8 + 4, none⟩) (by simp; omega) (.int .i64 x.v)) (p := ⟨Q, q * 8 + 5, none⟩) (by simp; omega) (.slice x.od x.D.length x.cd)) (p := ⟨Q, q * 8 + 6, none⟩) (by simp; omega) (.int .i64 x.l)) (p := ⟨Q, q * 8 + 7, none⟩) (by simp; omega) (.int .i64 x.u))
   refine hJ _ _ ?_ ?_
   ·have hne : Q ≠ K := fun e => HKd.out.ne e.symm
    exact ⟨zD (zD (zD (zD (zD (zD (zD (zD HKd.out.box (p := ⟨Q, q * 8, none⟩) hne _) (p := ⟨Q, q * 8 + 1, none⟩) hne _) (p := ⟨Q, q * 8 + 2, none⟩) hne _) (p := ⟨Q, q * 8 + 3, none⟩) hne _) (p := ⟨Q, q * 8 + 4, none⟩) hne _) (p := ⟨Q, q * 8 + 5, none⟩) hne _) (p := ⟨Q, q * 8 + 6, none⟩) hne _) (p := ⟨Q, q * 8 + 7, none⟩) hne _, HZ2.out⟩
   clear hJ J g0 g1 g2 g3 g4 g5 g6 g7 f0 f1 f2 f3 f4 f5 f6 f7 HKd HNd HBd HZd
   generalize (((((((w0.setCell ⟨Q, q * 8, none⟩ (.int .i64 x.i)).setCell ⟨Q, q * 8 + 1, none⟩ (.int .i64 x.z)).setCell ⟨Q, q * 8 + 2, none⟩ (.int .i64 x.s)).setCell ⟨Q, q * 8 + 3, none⟩ (.slice x.oa x.A.length x.ca)).setCell ⟨Q, q * 8 + 4, none⟩ (.int .i64 x.v)).setCell ⟨Q, q * 8 + 5, none⟩ (.slice x.od x.D.length x.cd)).setCell ⟨Q, q * 8 + 6, none⟩ (.int .i64 x.l)).setCell ⟨Q, q * 8 + 7, none⟩ (.int .i64 x.u) = wz at *
   refine wpAnyH_done (by kernel_rfl) ?_ _
   go_wp2_with fail
   go_ret
   exact ⟨⟨0, HE.out, rfl, fun h => absurd rfl h, fun _ => ⟨x, HX0.out, HKz.out⟩⟩, HF.out⟩
  ·have hE' : ¬ E = 0 := by simpa using hE
   go_wp2_with fail
   go_ret
   exact ⟨⟨E, HE.out, rfl, fun _ => HK2.out, fun h => absurd h hE'⟩, .ofBelow HB.out⟩
def entK (T : List TK) (P : List TP) (V : List Int) (dv : Int) (D : List Int) (n z s id m : Int) : Int × Int :=
 if (decide (unfD dv D id = 0) && xQ D id) = true then (0, 11) else if wi m 0 9999 = false then (0, 3) else if s = 99 then (0, 2) else zO T P V ⟨id, n, s + 1, m, z⟩
theorem keeperEnter_any (K Q B : Nat) (a : KA) (T : List TK) (P : List TP) (V : List Int) (dv : Int) (D : List Int) (G : List GT) (W : List VW) (q : Nat) (g : GT) (id m : Int) (w : World) (hK : Ks w K Q B a T P V dv D G W) (hq : G[q]? = some g) (hl : xP T P V) (hlD : D.length ≤ 9223372036854775807) (hs0 : 0 ≤ g.s) (hs1 : g.s ≤ 99) :
  Calls Tryz.prog 123 #[.pointer (some ⟨K, 0, none⟩), .int .i64 id, .int .i64 (q : Int), .int .i64 m] w fun e w' => (∃ R : Int × Int, R = entK T P V dv D q g.z g.s id m ∧ e = .returned (.tuple #[.int .i64 R.1, .int .i64 R.2]) ∧ (R.2 ≠ 0 → Ks w' K Q B a T P V dv D G W) ∧
   (R.2 = 0 → ∃ a', Ks w' K Q B a' T (P ++ [⟨id, q, g.s + 1, m, g.z⟩]) (V ++ [R.1]) dv D (G.set q { g with s := g.s + 1 }) W)) ∧ Kq (KQ K Q) w w' := by
 have HK := zA hK
 have hKlt := hK.lt
 have hQlt := hK.qlt
 have hbk := hK.bk
 have hql := (List.getElem?_eq_some_iff.1 hq).1
 have hi1 : (0 : Int) ≤ (q : Int) := by omega
 have hi2 : (q : Int) < (G.length : Int) := by omega
 have hadd := qX Q (q * 8)
 have HHas := zA (fun X (h : Ks X K Q B a T P V dv D G W) => has_any dv id D a.od a.cd X h.kl.den.1.ats hlD)
 have HEn := zA (fun X (h : Ks X K Q B a T P V dv D G W) => enterN h.led hl id q (g.s + 1) m g.z)
 have Hq := zA hq
 have k3 := hK.c3
 have k4 := hK.c4
 have k5 := hK.c5
 clear hK hq
 unfold entK
 generalize (decide (unfD dv D id = 0) && xQ D id) = hs at *
 generalize unfD dv D id = ud at *
 cases hs
 ·rw [if_neg (show ¬ false = true by decide)]
  cases hm : wi m 0 9999
  ·rw [if_pos rfl]
   go_enter Tryz.func123, Tryz.ntmps123
   go_wp2_with fail
   refine (HHas.out _ HK.out).mono ?_
   rintro e w1 ⟨rfl, hb⟩
   have HK1 := zA (HK.out.below hb)
   have HA1 := zA hb
   clear hb k3 k4 k5 HHas
   go_wp2_with (go_at_call 139; refine (qS _ _).mono ?_; rintro e w' ⟨rfl, hw⟩; obtain rfl := hw.symm; rw [hm])
   go_ret2
   exact ⟨⟨(0, 3), rfl, rfl, fun _ => HK1.out, fun h => absurd h (by decide)⟩, .ofBelow HA1.out⟩
  ·rw [if_neg (show ¬ true = false by decide)]
   have g2 := HK.out.g2 Hq.out
   by_cases h99 : g.s = 99
   ·rw [if_pos h99]
    have h99' : (g.s == 99) = true := by simpa using h99
    clear g2
    go_enter Tryz.func123, Tryz.ntmps123
    go_wp2_with fail
    refine (HHas.out _ HK.out).mono ?_
    rintro e w1 ⟨rfl, hb⟩
    have HK1 := zA (HK.out.below hb)
    have HA1 := zA hb
    clear hb k3 k4 k5 HHas
    have g2 := HK1.out.g2 Hq.out
    clear h99
    go_wp2_with (go_at_call 139; refine (qS _ _).mono ?_; rintro e w' ⟨rfl, hw⟩; obtain rfl := hw.symm; rw [hm])
    go_ret2
    exact ⟨⟨(0, 2), rfl, rfl, fun _ => HK1.out, fun h => absurd h (by decide)⟩, .ofBelow HA1.out⟩
   ·rw [if_neg h99]
    have h99' : (g.s == 99) = false := by simpa using h99
    clear g2
    obtain ⟨R1, R2, hR⟩ : ∃ R1 R2, (R1, R2) = zO T P V ⟨id, q, g.s + 1, m, g.z⟩ := ⟨_, _, rfl⟩
    rw [← hR] at HEn ⊢
    simp only [] at HEn ⊢
    obtain ⟨X1, hX1⟩ : ∃ X1, X1 = if R2 = 0 then T else [] := ⟨_, rfl⟩
    obtain ⟨X2, hX2⟩ : ∃ X2, X2 = if R2 = 0 then P ++ [(⟨id, q, g.s + 1, m, g.z⟩ : TP)] else [] := ⟨_, rfl⟩
    obtain ⟨X3, hX3⟩ : ∃ X3, X3 = if R2 = 0 then V ++ [R1] else [] := ⟨_, rfl⟩
    rw [← hX1, ← hX2, ← hX3] at HEn
    have HX := zA (And.intro hX1 (And.intro hX2 hX3))
    clear hX1 hX2 hX3 hR
    go_enter Tryz.func123, Tryz.ntmps123
    go_wp2_with fail
    refine (HHas.out _ HK.out).mono ?_
    rintro e w1 ⟨rfl, hb⟩
    have HK1 := zA (HK.out.below hb)
    have HA1 := zA hb
    clear hb k3 k4 k5 HHas
    have g2 := HK1.out.g2 Hq.out
    have hs2 : g.s < 99 := by omega
    have hwr : IntKind.i64.wrap (g.s + 1) = g.s + 1 := by rw [IntKind.wrap_i64]; omega
    clear h99
    go_upto_region 9 with (go_at_call 139; refine (qS _ _).mono ?_; rintro e w' ⟨rfl, hw⟩; obtain rfl := hw.symm; rw [hm])
    refine zJ (fun w' => Ks w' K Q B a T P V dv D G W) [0, 1, 2, 3, 4, 5, 6, 7, 8, 9, 10, 11, 12] 2 (by rfl) (by kernel_rfl) (by kernel_rfl) (by kernel_rfl) (fun c d v a w h => by cases d <;> exact h) ?_ ?_
    ·exact HK1.out.below (Below.refl _ _).drew
    refine zB (.int .i64 id) rfl rfl (fun w' hS => ?_) ?_
    ·go_simp
    refine zB (.int .i64 (q : Int)) rfl rfl (fun w' hS => ?_) ?_
    ·go_simp
    refine zB (.pointer (some ⟨Q, q * 8, none⟩)) rfl rfl (fun w' hS => ?_) ?_
    ·go_simp
    refine zB (.pointer (some ⟨Q, q * 8, none⟩)) rfl rfl (fun w' hS => ?_) ?_
    ·go_simp
    refine zB (.pointer (some ⟨Q, q * 8 + 2, none⟩)) rfl rfl (fun w' hS => ?_) ?_
    ·go_simp
    refine zB (.int .i64 g.s) rfl rfl (fun w' hS => ?_) ?_
    ·have g2 := hS.g2 Hq.out
     go_simp
    refine zB (.int .i64 (g.s + 1)) rfl rfl (fun w' hS => ?_) ?_
    ·go_simp
    refine zB (.int .i64 m) rfl rfl (fun w' hS => ?_) ?_
    ·go_simp
    refine zB (.pointer (some ⟨Q, q * 8, none⟩)) rfl rfl (fun w' hS => ?_) ?_
    ·go_simp
    refine zB (.pointer (some ⟨Q, q * 8, none⟩)) rfl rfl (fun w' hS => ?_) ?_
    ·go_simp
    refine zB (.pointer (some ⟨Q, q * 8 + 1, none⟩)) rfl rfl (fun w' hS => ?_) ?_
    ·go_simp
    refine zB (.int .i64 g.z) rfl rfl (fun w' hS => ?_) ?_
    ·have g1 := hS.g1 Hq.out
     go_simp
    refine zB (tp id q (g.s + 1) m g.z) rfl rfl (fun w' hS => ?_) ?_
    ·go_simp
    refine zE ?_
    have HKd := zA (HK1.out.below (Below.refl _ _).drew)
    have HAd := zA ((Below.refl w1.heap.size w1).drew)
    have hsd : w1.heap.size ≤ w1.drew.heap.size := Nat.le_refl _
    clear HK1 g2
    generalize (World.drew _) = w0 at *
    refine oR 13 rfl rfl fun J hJ => ?_
    go_simp
    have hba := (Below.refl w0.heap.size w0).alloc (Nat.le_refl _) (.cells #[.int .i64 0, .int .i64 0, .int .i64 0, .int .i64 0, .int .i64 0] 79)
    have HZ0 := zA (heap_alloc_new w0 (.cells #[.int .i64 0, .int .i64 0, .int .i64 0, .int .i64 0, .int .i64 0] 79))
    refine hJ _ _ (HKd.out.below hba) ?_
    have Hba := zA hba
    clear hJ J hba
    generalize w0.alloc (.cells #[.int .i64 0, .int .i64 0, .int .i64 0, .int .i64 0, .int .i64 0] 79) = w2 at *
    have r0 := cell_of_row _ _ 0 _ _ _ HZ0.out
    have s0 := frozen_of_row _ _ 0 _ _ HZ0.out
    have r1 := cell_of_row _ _ 1 _ _ _ HZ0.out
    have s1 := frozen_of_row _ _ 1 _ _ HZ0.out
    have r2 := cell_of_row _ _ 2 _ _ _ HZ0.out
    have s2 := frozen_of_row _ _ 2 _ _ HZ0.out
    have r3 := cell_of_row _ _ 3 _ _ _ HZ0.out
    have s3 := frozen_of_row _ _ 3 _ _ HZ0.out
    have r4 := cell_of_row _ _ 4 _ _ _ HZ0.out
    have s4 := frozen_of_row _ _ 4 _ _ HZ0.out
    simp at r0 r1 r2 r3 r4
    refine oR 14 rfl rfl fun J hJ => ?_
    go_simp
    have HBz := zA (((((Hba.out.setCell (p := ⟨w0.heap.size, 0, none⟩) (Nat.le_refl _) (.int .i64 id)).setCell (p := ⟨w0.heap.size, 1, none⟩) (Nat.le_refl _) (.int .i64 (q : Int))).setCell (p := ⟨w0.heap.size, 2, none⟩) (Nat.le_refl _) (.int .i64 (g.s + 1))).setCell (p := ⟨w0.heap.size, 3, none⟩) (Nat.le_refl _) (.int .i64 m)).setCell (p := ⟨w0.heap.size, 4, none⟩) (Nat.le_refl _) (.int .i64 g.z))
    have HZ := zA (heap_setCell_same _ w0.heap.size 4 _ _ (.int .i64 g.z) (heap_setCell_same _ w0.heap.size 3 _ _ (.int .i64 m) (heap_setCell_same _ w0.heap.size 2 _ _ (.int .i64 (g.s + 1)) (heap_setCell_same _ w0.heap.size 1 _ _ (.int .i64 (q : Int)) (heap_setCell_same _ w0.heap.size 0 _ _ (.int .i64 id) HZ0.out)))))
    refine hJ _ _ (HKd.out.below HBz.out) ?_
    have HK1 := zA (HKd.out.below HBz.out)
    have HAz := zA (HAd.out.trans (HBz.out.mono hsd))
    clear hJ J HKd HZ0 Hba HAd r0 r1 r2 r3 r4 s0 s1 s2 s3 s4 HBz
    generalize ((((w2.setCell ⟨w0.heap.size, 0, none⟩ (.int .i64 id)).setCell ⟨w0.heap.size, 1, none⟩ (.int .i64 (q : Int))).setCell ⟨w0.heap.size, 2, none⟩ (.int .i64 (g.s + 1))).setCell ⟨w0.heap.size, 3, none⟩ (.int .i64 m)).setCell ⟨w0.heap.size, 4, none⟩ (.int .i64 g.z) = w3 at *
    refine wpAnyH_done (by kernel_rfl) ?_ _
    have hs3 := ltR HZ
    have hs4 : w1.heap.size ≤ w3.heap.size := by omega
    go_upto_region 10 with fail
    go_cut [14, 15, 16] from 59 to 70 (fun s14 s15 s16 wx => ∃ b x1 y1 x2 y2 x3 y3, s14 = .pointer (some ⟨b, 0, none⟩) ∧ s15 = .int .i64 R1 ∧ s16 = .int .i64 R2 ∧ Hid (w1.heap.size ≤ b ∧ wx.heap[b]? = some (.cells #[.slice x1 X1.length y1, .slice x2 X2.length y2, .slice x3 X3.length y3] 26)) ∧ Hid (Led6 w1.heap.size wx x1 y1 x2 y2 x3 y3 X1 X2 X3) ∧ Hid (Below w1.heap.size w1 wx))
    case first =>
     refine zJ (fun w' => Ks w' K Q B a T P V dv D G W ∧ w'.heap[w0.heap.size]? = some (.cells #[.int .i64 id, .int .i64 (q : Int), .int .i64 (g.s + 1), .int .i64 m, .int .i64 g.z] 79)) [0, 1, 2, 3, 4, 5] 9 (by rfl) (by kernel_rfl) (by kernel_rfl) (by kernel_rfl) (fun c d v a w h => by cases d <;> exact h) ?_ ?_
     ·exact ⟨HK1.out.below (Below.refl _ _).drew, zC HZ.out (Below.refl _ _).drew⟩
     refine zB (.pointer (some ⟨K, 0, none⟩)) rfl rfl (fun w' hS => ?_) ?_
     ·go_simp
     refine zB (.pointer (some ⟨K, 0, none⟩)) rfl rfl (fun w' hS => ?_) ?_
     ·go_simp
     refine zB (.pointer (some ⟨K, 0, none⟩)) rfl rfl (fun w' hS => ?_) ?_
     ·go_simp
     refine zB (.pointer (some ⟨K, 0, none⟩)) rfl rfl (fun w' hS => ?_) ?_
     ·go_simp
     refine zB (lg a.o1 a.o2 a.o3 T.length a.c1 P.length a.c2 V.length a.c3) rfl rfl (fun w' hS => ?_) ?_
     ·have k0 := hS.1.c0
      have k1 := hS.1.c1
      have k2 := hS.1.c2
      go_simp
     refine zB (tp id q (g.s + 1) m g.z) rfl rfl (fun w' hS => ?_) ?_
     ·have x0 : w'.cell? ⟨w0.heap.size, 0, none⟩ = some (.int .i64 id) := by rw [cell_of_row _ _ 0 _ _ _ hS.2]; rfl
      have x1 : w'.cell? ⟨w0.heap.size, 1, none⟩ = some (.int .i64 (q : Int)) := by rw [cell_of_row _ _ 1 _ _ _ hS.2]; rfl
      have x2 : w'.cell? ⟨w0.heap.size, 2, none⟩ = some (.int .i64 (g.s + 1)) := by rw [cell_of_row _ _ 2 _ _ _ hS.2]; rfl
      have x3 : w'.cell? ⟨w0.heap.size, 3, none⟩ = some (.int .i64 m) := by rw [cell_of_row _ _ 3 _ _ _ hS.2]; rfl
      have x4 : w'.cell? ⟨w0.heap.size, 4, none⟩ = some (.int .i64 g.z) := by rw [cell_of_row _ _ 4 _ _ _ hS.2]; rfl
      go_simp
     refine zE ?_
     have HKd := zA (HK1.out.below (Below.refl _ _).drew)
     have HZd := zA (zC HZ.out (Below.refl _ _).drew)
     have HAe := zA (HAz.out.drew)
     have hsd3 : w3.heap.size ≤ w3.drew.heap.size := Nat.le_refl _
     clear HK1 HZ HAz
     generalize (World.drew _) = w5 at *
     refine zT (i := 6) (j := 11) (by kernel_rfl) rfl rfl rfl rfl (fun K hK => ?_) (fun K hK => ?_)
     ·go_simp
      refine (HEn.out w5 HKd.out).mono ?_
      rintro e v1 ⟨⟨lv, rfl, hN⟩, hb⟩
      obtain ⟨x1, y1, x2, y2, x3, y3, rfl, hN6⟩ := hN.led6
      have HN := zA hN6
      clear hN hN6
      have HB := zA hb
      refine hK _ _ ⟨HKd.out.below HB.out, zC HZd.out HB.out⟩ ?_
      clear hK K hb
      refine yB (fuel := 4) (by kernel_rfl) (fun c d v a w h => by cases d <;> exact h) ⟨HKd.out.below HB.out, zC HZd.out HB.out⟩ [7, 8, 9, 10] _ _ (by kernel_rfl) ?_
      refine pS (.tuple #[lg x1 x2 x3 X1.length y1 X2.length y2 X3.length y3, .int .i64 R1, .int .i64 R2]) rfl rfl ?_
      refine pS (lg x1 x2 x3 X1.length y1 X2.length y2 X3.length y3) rfl rfl ?_
      refine pS (.int .i64 R1) rfl rfl ?_
      refine pS (.int .i64 R2) rfl rfl ?_
      refine zE ?_
      refine oR 11 rfl rfl fun K hK => ?_
      go_simp
      have hba := (Below.refl v1.heap.size v1).alloc (Nat.le_refl _) (.cells #[.slice none 0 0, .slice none 0 0, .slice none 0 0] 26)
      have HBa := zA (HB.out.trans (hba.mono HB.out.size))
      have Hba := zA hba
      have hZ : (v1.alloc (.cells #[.slice none 0 0, .slice none 0 0, .slice none 0 0] 26)).heap[v1.heap.size]? = some (.cells #[.slice none 0 0, .slice none 0 0, .slice none 0 0] 26) := heap_alloc_new v1 _
      have hlb := HB.out.size
      refine hK _ _ ⟨HKd.out.below HBa.out, zC HZd.out HBa.out⟩ ?_
      clear hK K hba HB
      generalize v1.alloc (.cells #[.slice none 0 0, .slice none 0 0, .slice none 0 0] 26) = v2 at *
      have r0 := cell_of_row _ _ 0 _ _ _ hZ
      have s0 := frozen_of_row _ _ 0 _ _ hZ
      have r1 := cell_of_row _ _ 1 _ _ _ hZ
      have s1 := frozen_of_row _ _ 1 _ _ hZ
      have r2 := cell_of_row _ _ 2 _ _ _ hZ
      have s2 := frozen_of_row _ _ 2 _ _ hZ
      simp at r0 r1 r2
      have HZ : Hid ((((v2.setCell ⟨v1.heap.size, 0, none⟩ (.slice x1 X1.length y1)).setCell ⟨v1.heap.size, 1, none⟩ (.slice x2 X2.length y2)).setCell ⟨v1.heap.size, 2, none⟩ (.slice x3 X3.length y3)).heap[v1.heap.size]? = some (.cells #[.slice x1 X1.length y1, .slice x2 X2.length y2, .slice x3 X3.length y3] 26)) := zA (heap_setCell_same _ v1.heap.size 2 _ _ (.slice x3 X3.length y3) (heap_setCell_same _ v1.heap.size 1 _ _ (.slice x2 X2.length y2) (heap_setCell_same _ v1.heap.size 0 _ _ (.slice x1 X1.length y1) hZ)))
      have HBz := zA (((HBa.out.setCell (p := ⟨v1.heap.size, 0, none⟩) hlb (.slice x1 X1.length y1)).setCell (p := ⟨v1.heap.size, 1, none⟩) hlb (.slice x2 X2.length y2)).setCell (p := ⟨v1.heap.size, 2, none⟩) hlb (.slice x3 X3.length y3))
      have hbz := (((Hba.out.setCell (p := ⟨v1.heap.size, 0, none⟩) (Nat.le_refl _) (.slice x1 X1.length y1)).setCell (p := ⟨v1.heap.size, 1, none⟩) (Nat.le_refl _) (.slice x2 X2.length y2)).setCell (p := ⟨v1.heap.size, 2, none⟩) (Nat.le_refl _) (.slice x3 X3.length y3))
      have HNz := zA (HN.out.below hbz)
      clear hbz Hba
      refine oR 12 rfl rfl fun K hK => ?_
      go_simp
      refine hK _ _ ⟨HKd.out.below HBz.out, zC HZd.out HBz.out⟩ ?_
      clear hK K r0 s0 r1 s1 r2 s2 hZ HBa HN
      generalize (((v2.setCell ⟨v1.heap.size, 0, none⟩ (.slice x1 X1.length y1)).setCell ⟨v1.heap.size, 1, none⟩ (.slice x2 X2.length y2)).setCell ⟨v1.heap.size, 2, none⟩ (.slice x3 X3.length y3)) = vz at *
      refine oR 13 rfl rfl fun K hK => ?_
      go_simp
      refine hK _ _ ⟨HKd.out.below HBz.out, zC HZd.out HBz.out⟩ ?_
      clear hK K
      refine oR 14 rfl rfl fun K hK => ?_
      go_simp
      refine hK _ _ ⟨HKd.out.below HBz.out, zC HZd.out HBz.out⟩ ?_
      clear hK K
      refine wpAnyH_done (by kernel_rfl) ?_ _
      go_wp2_with fail
      go_meet
      case rel => exact ⟨v1.heap.size, x1, y1, x2, y2, x3, y3, rfl, rfl, rfl, zA ⟨by omega, HZ.out⟩, zA (HNz.out.mono (by omega)), zA (HAe.out.trans (HBz.out.mono (by omega)))⟩
     ·go_simp
      have hba := (Below.refl w5.heap.size w5).alloc (Nat.le_refl _) (.cells #[.slice none 0 0, .slice none 0 0, .slice none 0 0] 26)
      have HB := zA hba
      have hZ0 : Hid ((w5.alloc (.cells #[.slice none 0 0, .slice none 0 0, .slice none 0 0] 26)).heap[w5.heap.size]? = some (.cells #[.slice none 0 0, .slice none 0 0, .slice none 0 0] 26)) := zA (heap_alloc_new w5 _)
      have hs1 : (w5.alloc (.cells #[.slice none 0 0, .slice none 0 0, .slice none 0 0] 26)).heap.size = w5.heap.size + 1 := by simp
      refine hK _ _ ⟨HKd.out.below HB.out, zC HZd.out HB.out⟩ ?_
      clear hK K hba
      generalize w5.alloc (.cells #[.slice none 0 0, .slice none 0 0, .slice none 0 0] 26) = v1 at *
      refine oR 6 rfl rfl fun K hK => ?_
      go_simp
      refine (HEn.out _ (HKd.out.below HB.out)).mono ?_
      rintro e v2 ⟨⟨lv, rfl, hN⟩, hb⟩
      obtain ⟨x1, y1, x2, y2, x3, y3, rfl, hN6⟩ := hN.led6
      have HN := zA hN6
      clear hN hN6
      have HBa := trR HB hb
      have hZ : v2.heap[w5.heap.size]? = some (.cells #[.slice none 0 0, .slice none 0 0, .slice none 0 0] 26) := zC hZ0.out hb
      have hlb : w5.heap.size ≤ w5.heap.size := Nat.le_refl _
      refine hK _ _ ⟨HKd.out.below HBa.out, zC HZd.out HBa.out⟩ ?_
      clear hK K hb HB hZ0
      refine yB (fuel := 3) (by kernel_rfl) (fun c d v a w h => by cases d <;> exact h) ⟨HKd.out.below HBa.out, zC HZd.out HBa.out⟩ [7, 8, 9, 10] _ _ (by kernel_rfl) ?_
      refine pS (.tuple #[lg x1 x2 x3 X1.length y1 X2.length y2 X3.length y3, .int .i64 R1, .int .i64 R2]) rfl rfl ?_
      refine pS (lg x1 x2 x3 X1.length y1 X2.length y2 X3.length y3) rfl rfl ?_
      refine pS (.int .i64 R1) rfl rfl ?_
      refine pS (.int .i64 R2) rfl rfl ?_
      refine zE ?_
      have r0 := cell_of_row _ _ 0 _ _ _ hZ
      have s0 := frozen_of_row _ _ 0 _ _ hZ
      have r1 := cell_of_row _ _ 1 _ _ _ hZ
      have s1 := frozen_of_row _ _ 1 _ _ hZ
      have r2 := cell_of_row _ _ 2 _ _ _ hZ
      have s2 := frozen_of_row _ _ 2 _ _ hZ
      simp at r0 r1 r2
      have HZ : Hid ((((v2.setCell ⟨w5.heap.size, 0, none⟩ (.slice x1 X1.length y1)).setCell ⟨w5.heap.size, 1, none⟩ (.slice x2 X2.length y2)).setCell ⟨w5.heap.size, 2, none⟩ (.slice x3 X3.length y3)).heap[w5.heap.size]? = some (.cells #[.slice x1 X1.length y1, .slice x2 X2.length y2, .slice x3 X3.length y3] 26)) := zA (heap_setCell_same _ w5.heap.size 2 _ _ (.slice x3 X3.length y3) (heap_setCell_same _ w5.heap.size 1 _ _ (.slice x2 X2.length y2) (heap_setCell_same _ w5.heap.size 0 _ _ (.slice x1 X1.length y1) hZ)))
      have HBz := zA (((HBa.out.setCell (p := ⟨w5.heap.size, 0, none⟩) hlb (.slice x1 X1.length y1)).setCell (p := ⟨w5.heap.size, 1, none⟩) hlb (.slice x2 X2.length y2)).setCell (p := ⟨w5.heap.size, 2, none⟩) hlb (.slice x3 X3.length y3))
      have HNz := zA (Led6.mono ((((HN.out.mono (show w5.heap.size + 1 ≤ v1.heap.size by omega)).set (p := ⟨w5.heap.size, 0, none⟩) (by simp) (.slice x1 X1.length y1)).set (p := ⟨w5.heap.size, 1, none⟩) (by simp) (.slice x2 X2.length y2)).set (p := ⟨w5.heap.size, 2, none⟩) (by simp) (.slice x3 X3.length y3)) (Nat.le_succ _))
      refine oR 12 rfl rfl fun K hK => ?_
      go_simp
      refine hK _ _ ⟨HKd.out.below HBz.out, zC HZd.out HBz.out⟩ ?_
      clear hK K r0 s0 r1 s1 r2 s2 hZ HBa HN
      generalize (((v2.setCell ⟨w5.heap.size, 0, none⟩ (.slice x1 X1.length y1)).setCell ⟨w5.heap.size, 1, none⟩ (.slice x2 X2.length y2)).setCell ⟨w5.heap.size, 2, none⟩ (.slice x3 X3.length y3)) = vz at *
      refine oR 13 rfl rfl fun K hK => ?_
      go_simp
      refine hK _ _ ⟨HKd.out.below HBz.out, zC HZd.out HBz.out⟩ ?_
      clear hK K
      refine oR 14 rfl rfl fun K hK => ?_
      go_simp
      refine hK _ _ ⟨HKd.out.below HBz.out, zC HZd.out HBz.out⟩ ?_
      clear hK K
      refine wpAnyH_done (by kernel_rfl) ?_ _
      go_wp2_with fail
      go_meet
      case rel => exact ⟨w5.heap.size, x1, y1, x2, y2, x3, y3, rfl, rfl, rfl, zA ⟨by omega, HZ.out⟩, zA (HNz.out.mono (by omega)), zA (HAe.out.trans (HBz.out.mono (by omega)))⟩
    case rest =>
     obtain ⟨b, x1, y1, x2, y2, x3, y3, rfl, rfl, rfl, HZ4, HL, HB⟩ := hcut
     have HK2 := zA (HK.out.below (HA1.out.trans (HB.out.mono HA1.out.size)))
     have HA2 := zA (HA1.out.trans (HB.out.mono HA1.out.size))
     have hs5 := HA1.out.size
     clear HK1 HEn HZ HAz HA1
     rcases hE : (R2 != 0) with _ | _
     ·obtain rfl : R2 = 0 := by simpa using hE
      obtain ⟨hx1, hx2, hx3⟩ := HX.out
      rw [if_pos rfl] at hx1 hx2 hx3
      have HX0 := zA (And.intro hx1 (And.intro hx2 hx3))
      clear hx1 hx2 hx3
      have r0 := cell_of_row _ _ 0 _ _ _ HZ4.out.2
      have r1 := cell_of_row _ _ 1 _ _ _ HZ4.out.2
      have r2 := cell_of_row _ _ 2 _ _ _ HZ4.out.2
      simp at r0 r1 r2
      have k0 := HK2.out.c0
      have k1 := HK2.out.c1
      have k2 := HK2.out.c2
      have z0 := HK2.out.fz 0
      have z1 := HK2.out.fz 1
      have z2 := HK2.out.fz 2
      clear HX
      go_upto_region 14 with fail
      have HK3 := zA (HK2.out.setLed ⟨HL.out.1.1, .new HL.out.1.2 (by omega) (by omega) (by omega)⟩ ⟨HL.out.2.1.1, .new HL.out.2.1.2 (by omega) (by omega) (by omega)⟩ ⟨HL.out.2.2.1, .new HL.out.2.2.2 (by omega) (by omega) (by omega)⟩)
      have HF3 := zA ((((Kq.ofBelow HA2.out).setCell (S := KQ K Q) (p := ⟨K, 0, none⟩) (.inl rfl) (.slice x1 X1.length y1)).setCell (p := ⟨K, 1, none⟩) (.inl rfl) (.slice x2 X2.length y2)).setCell (p := ⟨K, 2, none⟩) (.inl rfl) (.slice x3 X3.length y3))
      clear r0 r1 r2 k0 k1 k2 z0 z1 z2 HK2 HA2 HL HZ4 HB
      generalize ((wc.setCell ⟨K, 0, none⟩ (.slice x1 X1.length y1)).setCell ⟨K, 1, none⟩ (.slice x2 X2.length y2)).setCell ⟨K, 2, none⟩ (.slice x3 X3.length y3) = w4 at *
      have g2 := HK3.out.g2 Hq.out
      have f2 := HK3.out.row.frozenAt (q * 8 + 2)
      go_wp2_with fail
      go_ret2
      have HK4 := HK3.out.setSeq q g Hq.out (g.s + 1)
      rw [HX0.out.1, HX0.out.2.1, HX0.out.2.2] at HK4
      exact ⟨⟨(R1, 0), rfl, rfl, fun h => absurd rfl h, fun _ => ⟨_, HK4⟩⟩, HF3.out.setCell (p := ⟨Q, q * 8 + 2, none⟩) (.inr rfl) _⟩
     ·have hE' : ¬ R2 = 0 := by simpa using hE
      go_wp2_with fail
      go_ret2
      exact ⟨⟨(R1, R2), rfl, rfl, fun _ => HK2.out, fun h => absurd h hE'⟩, .ofBelow HA2.out⟩
 ·rw [if_pos rfl]
  go_enter Tryz.func123, Tryz.ntmps123
  go_wp2_with fail
  refine (HHas.out _ HK.out).mono ?_
  rintro e w1 ⟨rfl, hb⟩
  have HK1 := zA (HK.out.below hb)
  have HA1 := zA hb
  clear hb k3 k4 k5 HHas
  go_wp2_with fail
  go_ret2
  exact ⟨⟨(0, 11), rfl, rfl, fun _ => HK1.out, fun h => absurd h (by decide)⟩, .ofBelow HA1.out⟩
theorem ktap1_any (i k f t z r id : Int) (B : Nat) (w : World) (hc : w.cell? ⟨B, 0, none⟩ = some (.int .i64 id)) :
  Calls Tryz.prog 121 #[tk i k f t z r, .pointer (some ⟨B, 0, none⟩)] w fun e w' => e = .returned (.bool (i == id)) ∧ Below w.heap.size w w' := by
 have hlt := World.block_lt_of_cell? w ⟨B, 0, none⟩ hc
 go_enter Tryz.func121, Tryz.ntmps121
 go_wp2_with fail
 go_ret
 exact ⟨rfl, (Below.refl _ _).alloc (Nat.le_refl _) _⟩
theorem indexKT_any (B : Nat) (id : Int) (L : List TK) (o : Option Addr) (cap : Nat) (w : World) (hL : zV w o L) (hlen : L.length ≤ 9223372036854775807) (hc : w.cell? ⟨B, 0, none⟩ = some (.int .i64 id)) :
  Calls Tryz.prog 120 #[.slice o L.length cap, .func (.func 121) #[] #[.pointer (some ⟨B, 0, none⟩)]] w fun e w' => e = .returned (.int .i64 (qM L id)) ∧ Below w.heap.size w w' := by
 have HL := zA hL
 have hlt := World.block_lt_of_cell? w ⟨B, 0, none⟩ hc
 have HF := zA (fun (x : TK) (W : World) h => ktap1_any x.i x.k x.f x.t x.z x.r id B W h)
 clear hL
 go_enter Tryz.func120, Tryz.ntmps120
 go_wp2_with fail
 go_loopw [8] (fun j wr => ∃ (q : Nat), q ≤ L.length ∧ j = .int .i64 q ∧ Hid (∀ j, j < q → ∀ p, L[j]? = some p → p.i ≠ id) ∧ Below w.heap.size w wr) (fun j _ => L.length - (intOf j).toNat)
 case atStart => exact ⟨0, Nat.zero_le _, rfl, fun j h => by omega, Below.refl _ _⟩
 case round =>
  obtain ⟨q, hq, rfl, hE, hbr⟩ := hrel
  have c' : wr.cell? ⟨B, 0, none⟩ = some (.int .i64 id) := by rw [hbr.cell (p := ⟨B, 0, none⟩) hlt]; exact hc
  by_cases hgo : q < L.length
  ·obtain ⟨x, hx⟩ : ∃ x, L[q]? = some x := ⟨L[q], by simp [hgo]⟩
   obtain ⟨A, rfl, c0, c1, c2, c3, c4, c5⟩ := (HL.out.below hbr) q x hx
   have HX := zA hx
   clear hx
   go_wp2_with fail
   refine (HF.out x _ c').mono ?_
   rintro e w1 ⟨rfl, hb⟩
   have hbr3 := hbr.trans (hb.mono hbr.size)
   clear hbr hb c'
   cases hg : (x.i == id)
   ·go_wp2_with fail
    refine ⟨⟨q + 1, by omega, by simp, ?_, hbr3⟩, by simp [intOf]; omega⟩
    intro j hj p hp
    rcases Nat.lt_or_ge j q with h | h
    ·exact hE.out j h p hp
    ·have : j = q := by omega
     subst this
     rw [HX.out] at hp
     cases hp
     simpa using hg
   ·have e1 := idxT_some HX.out (by simpa using hg) hE.out
    have H1 := zA e1
    clear e1
    go_wp2_with fail
    go_ret
    exact ⟨by rw [H1.out]; rfl, hbr3⟩
  ·have e1 := idxT_none (L := L) (id := id) (fun j p hp => hE.out j (by have := (List.getElem?_eq_some_iff.1 hp).1; omega) p hp)
   have H1 := zA e1
   clear e1
   go_wp2_with fail
   go_ret
   exact ⟨by rw [H1.out]; rfl, hbr⟩
theorem idxT_at {T : List TK} {id : Int} (h : ¬ qM T id < 0) : ∃ (k : Nat) (x : TK), qM T id = k ∧ T[k]? = some x := by
 unfold qM at h ⊢
 cases hf : T.findIdx? (fun p => p.i == id) with
 | none => rw [hf] at h; simp at h
 | some n =>
  obtain ⟨hlt, -⟩ := List.findIdx?_eq_some_iff_getElem.1 hf
  exact ⟨n, T[n], rfl, by simp [hlt]⟩
def alB (W : List VW) (A : List TP) : Bool := !jE W || !A.isEmpty
def tapK (T : List TK) (P : List TP) (V : List Int) (dv : Int) (D : List Int) (W : List VW) (g : GP) (id q m : Int) : Int × Int :=
 if qM T id < 0 then (0, 5) else if alB W g.A = true then (0, tapG g.i g.z g.s g.A g.v g.D g.l g.u (T.getD (qM T id).toNat tk0) m) else entK T P V dv D q g.z g.s id m
theorem keeperTap_range (K : Nat) (id n m : Int) (w : World) (hn : wi n 0 2 = false) : Calls Tryz.prog 94 #[.pointer (some ⟨K, 0, none⟩), .int .i64 id, .int .i64 n, .int .i64 m] w fun e w' => e = .returned (.tuple #[.int .i64 0, .int .i64 3]) ∧ Below w.heap.size w w' := by
 go_enter Tryz.func94, Tryz.ntmps94
 go_wp2_with fail
 refine (qR _ _).mono ?_
 rintro e w1 ⟨rfl, hw⟩
 obtain rfl := hw.symm
 rw [hn]
 go_wp2_with fail
 go_ret2
 exact ⟨rfl, (Below.refl _ _).alloc (Nat.le_refl _) _⟩
theorem keeperTap_any (K Q B : Nat) (a : KA) (T : List TK) (P : List TP) (V : List Int) (dv : Int) (D : List Int) (G : List GT) (W : List VW) (q : Nat) (g : GT) (id m : Int) (w : World) (hK : Ks w K Q B a T P V dv D G W) (hq : G[q]? = some g) (hq3 : q < 3) (hl : xP T P V) (hlA : g.A.length ≤ 9223372036854775807) (hlgD : g.D.length ≤ 9223372036854775807) (hlD : D.length ≤ 9223372036854775807) (hlW : W.length ≤ 9223372036854775807) (hs0 : 0 ≤ g.s) (hs1 : g.s ≤ 99) :
  Calls Tryz.prog 94 #[.pointer (some ⟨K, 0, none⟩), .int .i64 id, .int .i64 (q : Int), .int .i64 m] w fun e w' => (∃ R : Int × Int, R = tapK T P V dv D W g.p id q m ∧ e = .returned (.tuple #[.int .i64 R.1, .int .i64 R.2]) ∧ (R.2 ≠ 0 → Ks w' K Q B a T P V dv D G W) ∧
   (R.2 = 0 → (alB W g.A = true → ∃ x : GT, x.p = ⟨g.i, g.z, g.s + 1, g.A ++ [⟨(T.getD (qM T id).toNat tk0).i, g.i, g.s + 1, m, g.z⟩], g.v, g.D, g.l - 1, g.u⟩ ∧ Ks w' K Q B a T P V dv D (G.set q x) W) ∧ (alB W g.A = false → ∃ a', Ks w' K Q B a' T (P ++ [⟨id, q, g.s + 1, m, g.z⟩]) (V ++ [R.1]) dv D (G.set q { g with s := g.s + 1 }) W))) ∧ Kq (KQ K Q) w w' := by
 have HB := zA ((zL.nil w).more (.cells #[.int .i64 id] 3) (by simp))
 have HK := zA (hK.below HB.out.2.2)
 have hql := (List.getElem?_eq_some_iff.1 hq).1
 have hi1 : (0 : Int) ≤ (q : Int) := by omega
 have hi2 : (q : Int) < (G.length : Int) := by omega
 have hgate : wi (q : Int) 0 2 = true := by simp [wi]; omega
 have hadd := qX Q (q * 8)
 have HN := zA (fun X (h : Ks X K Q B a T P V dv D G W) => led_any a.o1 a.o2 a.o3 T.length a.c1 P.length a.c2 V.length a.c3 dv a.od D.length a.cd (some ⟨Q, 0, none⟩) G.length a.cg a.ov a.cv W X h.kl.vws.1.ats hlW)
 have HIx := zA (fun X (h : Ks X K Q B a T P V dv D G W) (h' : zL w X [.cells #[.int .i64 id] 3]) => indexKT_any w.heap.size id T a.o1 a.c1 X h.kl.tik.1.ats hl.1 (h'.cell 0 0 w.heap.size _ _ _ rfl rfl rfl))
 have Hq := zA hq
 clear hK hq
 have k0 := HK.out.c0
 have k1 := HK.out.c1
 have k2 := HK.out.c2
 have k3 := HK.out.c3
 have k4 := HK.out.c4
 have k5 := HK.out.c5
 have k6 := HK.out.c6
 obtain ⟨R, hR⟩ : ∃ R, R = tapK T P V dv D W g.p id q m := ⟨_, rfl⟩
 have hRR := hR
 rw [tapK] at hRR
 obtain ⟨TI, hTI⟩ : ∃ TI : TK, TI = T.getD (qM T id).toNat tk0 := ⟨_, rfl⟩
 rw [← hTI] at hRR ⊢
 by_cases hx : qM T id < 0
 ·rw [if_pos hx] at hRR
  have hR5 := zA (hR.symm.trans hRR)
  generalize qM T id = ix at *
  clear hR hRR hTI
  go_enter Tryz.func94, Tryz.ntmps94
  go_wp2_with fail
  refine (qR _ _).mono ?_
  rintro e w1 ⟨rfl, hw⟩
  obtain rfl := hw.symm
  rw [hgate]
  go_wp2_with fail
  refine (HIx.out _ HK.out HB.out).mono ?_
  rintro e w1 ⟨rfl, hb⟩
  have HB1 := zA (HB.out.on hb)
  have HK1 := zA (HK.out.below hb)
  clear hb HB HK HIx k0 k1 k2 k3 k4 k5 k6
  go_wp2_with fail
  go_ret2
  exact ⟨⟨(0, 5), hR5.out.symm, rfl, fun _ => HK1.out, fun h => absurd h (by decide)⟩, .ofBelow HB1.out.2.2⟩
 ·rw [if_neg hx] at hRR
  obtain ⟨k, t, hk, ht⟩ := idxT_at hx
  have hti : TI = t := by rw [hTI, hk]; simp [List.getD, ht]
  have hkl := (List.getElem?_eq_some_iff.1 ht).1
  have hk1 : (0 : Int) ≤ (k : Int) := by omega
  have hk2 : (k : Int) < (T.length : Int) := by omega
  rw [hk] at HIx
  have HT := zA hti
  have HTk := zA ht
  rw [hti] at hRR
  clear hx hTI hti ht hk
  cases hal : alB W g.A
  ·have hA0 : g.A.length = 0 := by
    rw [alB] at hal
    cases h : g.A with
    | nil => rfl
    | cons x L => rw [h] at hal; simp at hal
   have hnw : jE W = true := by
    rw [alB] at hal
    cases h : jE W with
    | true => rfl
    | false => rw [h] at hal; simp at hal
   have hg0 : ¬ 0 < g.A.length := by omega
   have hR' : R = entK T P V dv D q g.z g.s id m := by
    rw [hRR, if_neg (show ¬ alB W g.p.A = true by show ¬ alB W g.A = true; rw [hal]; decide)]
    rfl
   have HR := zA (hR.symm.trans hR')
   rw [hnw] at HN
   clear hR hRR hR' hnw hA0
   go_enter Tryz.func94, Tryz.ntmps94
   go_wp2_with fail
   refine (qR _ _).mono ?_
   rintro e w1 ⟨rfl, hw⟩
   obtain rfl := hw.symm
   rw [hgate]
   go_wp2_with fail
   refine (HIx.out _ HK.out HB.out).mono ?_
   rintro e w1 ⟨rfl, hb⟩
   have HB1 := zA (HB.out.on hb)
   have HK1 := zA (HK.out.below hb)
   clear hb HB HK HIx k0 k1 k2 k3 k4 k5 k6
   have g3 := HK1.out.g3 Hq.out
   have k0 := HK1.out.c0
   have k1 := HK1.out.c1
   have k2 := HK1.out.c2
   have k3 := HK1.out.c3
   have k4 := HK1.out.c4
   have k5 := HK1.out.c5
   have k6 := HK1.out.c6
   go_wp2_with fail
   refine (HN.out _ HK1.out).mono ?_
   rintro e w2 ⟨rfl, hb⟩
   have HB2 := zA (HB1.out.on hb)
   have HK2 := zA (HK1.out.below hb)
   clear hb HB1 HK1 HN k0 k1 k2 k3 k4 k5 k6
   have k5 := HK2.out.c5
   clear g3
   have g3 := HK2.out.g3 Hq.out
   have b0 := HB2.out.cell 0 0 w.heap.size _ _ _ rfl rfl rfl
   go_wp2_with fail
   refine (keeperEnter_any K Q B a T P V dv D G W q g id m _ HK2.out Hq.out hl hlD hs0 hs1).mono ?_
   rintro e w3 ⟨⟨R', hE, rfl, h1, h2⟩, hf⟩
   have HE := zA hE
   have H12 := zA (And.intro h1 h2)
   have HF := zA ((Kq.ofBelow HB2.out.2.2).trans hf)
   clear hE h1 h2 hf HB2 HK2 k5 g3 b0
   go_wp2_with fail
   go_ret2
   exact ⟨⟨R', by rw [HR.out, HE.out], rfl, H12.out.1, fun h => ⟨fun h' => (by cases h'), fun _ => H12.out.2 h⟩⟩, HF.out⟩
  ·have hR' : R = (0, tapG g.i g.z g.s g.A g.v g.D g.l g.u t m) := by
    rw [hRR, if_pos (show alB W g.p.A = true from hal)]
    rfl
   have HR := zA (hR.symm.trans hR')
   clear hR hRR hR'
   cases hnw : jE W
   ·rw [hnw] at HN
    clear hnw
    go_enter Tryz.func94, Tryz.ntmps94
    go_wp2_with fail
    refine (qR _ _).mono ?_
    rintro e w1 ⟨rfl, hw⟩
    obtain rfl := hw.symm
    rw [hgate]
    go_wp2_with fail
    refine (HIx.out _ HK.out HB.out).mono ?_
    rintro e w1 ⟨rfl, hb⟩
    have HB1 := zA (HB.out.on hb)
    have HK1 := zA (HK.out.below hb)
    clear hb HB HK HIx k0 k1 k2 k3 k4 k5 k6
    have k0 := HK1.out.c0
    have k1 := HK1.out.c1
    have k2 := HK1.out.c2
    have k3 := HK1.out.c3
    have k4 := HK1.out.c4
    have k5 := HK1.out.c5
    have k6 := HK1.out.c6
    go_wp2_with fail
    refine (HN.out _ HK1.out).mono ?_
    rintro e w2 ⟨rfl, hb⟩
    have HB2 := zA (HB1.out.on hb)
    have HK2 := zA (HK1.out.below hb)
    clear hb HB1 HK1 HN k0 k1 k2 k3 k4 k5 k6
    obtain ⟨A, hA, c0, c1, c2, c3, c4, c5⟩ := HK2.out.kl.tik.1.ats k t HTk.out
    have k0 := HK2.out.c0
    rw [hA] at k0
    go_wp2_with fail
    refine (letThrough_any K Q B a T P V dv D G W q g t.i t.k t.f t.t t.z t.r m _ HK2.out Hq.out hlA hlgD).mono ?_
    rintro e w3 ⟨⟨E, hE, rfl, h1, h2⟩, hf⟩
    have HE := zA hE
    have H12 := zA (And.intro h1 h2)
    have HF := zA ((Kq.ofBelow HB2.out.2.2).trans hf)
    clear hE h1 h2 hf HB2 HK2 hA k0 c0 c1 c2 c3 c4 c5
    go_wp2_with fail
    go_ret2
    refine ⟨⟨(0, E), by rw [HR.out, HE.out], rfl, H12.out.1, fun h => ⟨fun _ => ?_, fun h' => (by cases h')⟩⟩, HF.out⟩
    obtain ⟨x, hx, hk⟩ := H12.out.2 h
    exact ⟨x, by rw [hx, HT.out], hk⟩
   ·have hg0 : 0 < g.A.length := by
     rw [alB, hnw] at hal
     cases h : g.A with
     | nil => rw [h] at hal; simp at hal
     | cons x L => simp
    rw [hnw] at HN
    clear hnw
    go_enter Tryz.func94, Tryz.ntmps94
    go_wp2_with fail
    refine (qR _ _).mono ?_
    rintro e w1 ⟨rfl, hw⟩
    obtain rfl := hw.symm
    rw [hgate]
    go_wp2_with fail
    refine (HIx.out _ HK.out HB.out).mono ?_
    rintro e w1 ⟨rfl, hb⟩
    have HB1 := zA (HB.out.on hb)
    have HK1 := zA (HK.out.below hb)
    clear hb HB HK HIx k0 k1 k2 k3 k4 k5 k6
    have k0 := HK1.out.c0
    have k1 := HK1.out.c1
    have k2 := HK1.out.c2
    have k3 := HK1.out.c3
    have k4 := HK1.out.c4
    have k5 := HK1.out.c5
    have k6 := HK1.out.c6
    go_wp2_with fail
    refine (HN.out _ HK1.out).mono ?_
    rintro e w2 ⟨rfl, hb⟩
    have HB2 := zA (HB1.out.on hb)
    have HK2 := zA (HK1.out.below hb)
    clear hb HB1 HK1 HN k0 k1 k2 k3 k4 k5 k6
    obtain ⟨A, hA, c0, c1, c2, c3, c4, c5⟩ := HK2.out.kl.tik.1.ats k t HTk.out
    have k0 := HK2.out.c0
    rw [hA] at k0
    have k5 := HK2.out.c5
    have g3 := HK2.out.g3 Hq.out
    go_wp2_with fail
    refine (letThrough_any K Q B a T P V dv D G W q g t.i t.k t.f t.t t.z t.r m _ HK2.out Hq.out hlA hlgD).mono ?_
    rintro e w3 ⟨⟨E, hE, rfl, h1, h2⟩, hf⟩
    have HE := zA hE
    have H12 := zA (And.intro h1 h2)
    have HF := zA ((Kq.ofBelow HB2.out.2.2).trans hf)
    clear hE h1 h2 hf HB2 HK2 hA k0 c0 c1 c2 c3 c4 c5 k5 g3
    go_wp2_with fail
    go_ret2
    refine ⟨⟨(0, E), by rw [HR.out, HE.out], rfl, H12.out.1, fun h => ⟨fun _ => ?_, fun h' => (by cases h')⟩⟩, HF.out⟩
    obtain ⟨x, hx, hk⟩ := H12.out.2 h
    exact ⟨x, by rw [hx, HT.out], hk⟩
def gp0 : GP := ⟨0, 0, 0, [], 0, [], 0, 0⟩
def gAt (L : List GP) (n : Int) : GP := L.getD n.toNat gp0
def gTap (W : List VW) (g : GP) (t : TK) (m : Int) : GP := if alB W g.A = true then ⟨g.i, g.z, g.s + 1, g.A ++ [⟨t.i, g.i, g.s + 1, m, g.z⟩], g.v, g.D, g.l - 1, g.u⟩ else { g with s := g.s + 1 }
def pTap (W : List VW) (g : GP) (P : List TP) (id n m : Int) : List TP := if alB W g.A = true then P else P ++ [⟨id, n, g.s + 1, m, g.z⟩]
def vTap (W : List VW) (g : GP) (V : List Int) (v : Int) : List Int := if alB W g.A = true then V else V ++ [v]
def tAt (T : List TK) (id : Int) : TK := T.getD (qM T id).toNat tk0
def tapR (T : List TK) (P : List TP) (V : List Int) (dv : Int) (D : List Int) (L : List GP) (W : List VW) (id n m : Int) : Int × Int := if wi n 0 2 = false then (0, 3) else tapK T P V dv D W (gAt L n) id n m
def tapS (T : List TK) (P : List TP) (V : List Int) (dv : Int) (D : List Int) (G : List GT) (W : List VW) (id n m : Int) : Int × Int := if yP T P V dv D G W = 0 then tapR T P V dv D (G.map GT.p) W id n m else (0, yP T P V dv D G W)
theorem gAt_map {G : List GT} {q : Nat} {g : GT} (h : G[q]? = some g) : gAt (G.map GT.p) q = g.p := by
 simp [gAt, List.getD, List.getElem?_map, h]
theorem tap1_any (K Q B : Nat) (a : KA) (T : List TK) (P : List TP) (V : List Int) (dv : Int) (D : List Int) (G : List GT) (W : List VW) (b1 b2 b3 vb : Nat) (id n m v0 : Int) (w : World) (hK : Ks w K Q B a T P V dv D G W) (hG : G.length = 3) (hg : ∀ (q : Nat) g, G[q]? = some g → g.A.length ≤ 12 ∧ g.D.length ≤ 12 ∧ 0 ≤ g.s ∧ g.s ≤ 99) (hl : xP T P V) (hlD : D.length ≤ 12) (hlW : W.length ≤ 9223372036854775807)
  (h1 : w.heap[b1]? = some (.cells #[.int .i64 id] 3)) (h2 : w.heap[b2]? = some (.cells #[.int .i64 n] 3)) (h3 : w.heap[b3]? = some (.cells #[.int .i64 m] 3)) (hv : w.heap[vb]? = some (.cells #[.int .i64 v0] 3)) (hvb : vb < B) :
  Calls Tryz.prog 93 #[.pointer (some ⟨K, 0, none⟩), .pointer (some ⟨b1, 0, none⟩), .pointer (some ⟨b2, 0, none⟩), .pointer (some ⟨b3, 0, none⟩), .pointer (some ⟨vb, 0, none⟩)] w fun e w' => ∃ R : Int × Int, R = tapR T P V dv D (G.map GT.p) W id n m ∧ e = .returned (.int .i64 R.2) ∧ w'.heap[vb]? = some (.cells #[.int .i64 R.1] 3) ∧ Kq (fun k => k = K ∨ k = Q ∨ k = vb) w w' ∧ (R.2 ≠ 0 → Ks w' K Q B a T P V dv D G W) ∧
   (R.2 = 0 → ∃ a' G', Ks w' K Q B a' T (pTap W (gAt (G.map GT.p) n) P id n m) (vTap W (gAt (G.map GT.p) n) V R.1) dv D G' W ∧ G'.map GT.p = (G.map GT.p).set n.toNat (gTap W (gAt (G.map GT.p) n) (tAt T id) m) ∧ ∀ (q : Nat) g, G'[q]? = some g → g.A.length ≤ 13 ∧ g.D.length ≤ 12) := by
 have hbk := hK.bk
 have hbq := hK.qlt
 have r1 := cell_of_row _ _ 0 _ _ _ h1
 have r2 := cell_of_row _ _ 0 _ _ _ h2
 have r3 := cell_of_row _ _ 0 _ _ _ h3
 simp at r1 r2 r3
 have HV := zA hv
 cases hn : wi n 0 2
 ·have HC := zA (keeperTap_range K id n m w hn)
  have HR : Hid (((0, 3) : Int × Int) = tapR T P V dv D (G.map GT.p) W id n m) := zA (by rw [tapR, if_pos hn])
  have HK := zA hK
  clear hK hv h1 h2 h3 hg hG
  go_enter Tryz.func93, Tryz.ntmps93
  go_wp2_with fail
  refine HC.out.mono ?_
  rintro e w1 ⟨rfl, hb⟩
  have HB := zA hb
  have hv1 := zC HV.out hb
  have HV1 := zA hv1
  have rv := cell_of_row _ _ 0 _ _ _ hv1
  have sv := frozen_of_row _ _ 0 _ _ hv1
  simp at rv
  clear hb hv1 HC r1 r2 r3
  go_wp2_with fail
  go_ret
  exact ⟨(0, 3), HR.out, rfl, heap_setCell_same _ vb 0 _ _ _ HV1.out, (Kq.ofBelow HB.out).setCell (p := ⟨vb, 0, none⟩) (.inr (.inr rfl)) _, fun _ => (HK.out.below HB.out).setB (p := ⟨vb, 0, none⟩) hvb _, fun h => absurd h (by decide)⟩
 ·have hnn : 0 ≤ n ∧ n ≤ 2 := (yO n 0 2).1 hn
  obtain ⟨q, rfl⟩ : ∃ q : Nat, n = (q : Int) := ⟨n.toNat, by omega⟩
  have hq3 : q < 3 := by omega
  obtain ⟨g, hgq⟩ : ∃ g, G[q]? = some g := ⟨G[q]'(by omega), by simp⟩
  obtain ⟨hA, hgD, hs0, hs1⟩ := hg q g hgq
  have HC := zA (keeperTap_any K Q B a T P V dv D G W q g id m w hK hgq hq3 hl (by omega) (by omega) (by omega) hlW hs0 hs1)
  have hgp := gAt_map hgq
  have HGP := zA hgp
  have HGQ := zA hgq
  have HGL := zA (fun (x : GT) (hx : x.A.length ≤ 13 ∧ x.D.length ≤ 12) (k : Nat) (y : GT) (hy : (G.set q x)[k]? = some y) => show y.A.length ≤ 13 ∧ y.D.length ≤ 12 from by
   rw [List.getElem?_set] at hy
   split at hy
   ·split at hy
    ·cases hy; exact hx
    ·cases hy
   ·have := hg k y hy
    omega)
  clear hK hv h1 h2 h3 hg hgp hgq hG hnn
  go_enter Tryz.func93, Tryz.ntmps93
  go_wp2_with fail
  refine HC.out.mono ?_
  rintro e w1 ⟨⟨R, hR, rfl, hk1, hk2⟩, hkq⟩
  have HKQ := zA hkq
  have HR := zA hR
  have H12 := zA (And.intro hk1 hk2)
  have hv1 := hkq.obj HV.out (fun h => by rcases h with h | h <;> omega)
  have HV1 := zA hv1
  have rv := cell_of_row _ _ 0 _ _ _ hv1
  have sv := frozen_of_row _ _ 0 _ _ hv1
  simp at rv
  clear hkq hR hk1 hk2 hv1 HC r1 r2 r3
  go_wp2_with fail
  go_ret
  refine ⟨R, by rw [HR.out, tapR, if_neg (by rw [hn]; decide), HGP.out], rfl, heap_setCell_same _ vb 0 _ _ _ HV1.out, (HKQ.out.mono (fun k _ h => h.elim .inl (fun h => .inr (.inl h)))).setCell (p := ⟨vb, 0, none⟩) (.inr (.inr rfl)) _, fun h => (H12.out.1 h).setB (p := ⟨vb, 0, none⟩) hvb _, fun h => ?_⟩
  obtain ⟨ha, hb⟩ := H12.out.2 h
  rw [HGP.out]
  have hgA : g.p.A = g.A := rfl
  have hset : ∀ x : GT, (G.set q x).map GT.p = (G.map GT.p).set q x.p := fun x => List.map_set
  cases hal : alB W g.A
  ·obtain ⟨a', hk⟩ := hb hal
   refine ⟨a', _, ?_, ?_, HGL.out { g with s := g.s + 1 } (by simp only []; omega)⟩
   ·rw [pTap, vTap, hgA, hal]
    exact hk.setB (p := ⟨vb, 0, none⟩) hvb _
   ·rw [hset, gTap, hgA, hal]
    rfl
  ·obtain ⟨x, hx, hk⟩ := ha hal
   have hxA : x.A.length = g.A.length + 1 := by have := congrArg (fun y => y.A.length) hx; simpa [GT.p] using this
   have hxD : x.D = g.D := congrArg GP.D hx
   refine ⟨a, _, ?_, ?_, HGL.out x (by rw [hxD]; omega)⟩
   ·rw [pTap, vTap, hgA, hal]
    exact hk.setB (p := ⟨vb, 0, none⟩) hvb _
   ·rw [hset, gTap, hgA, hal, hx]
    rfl
theorem enterT1 (args : Array Value) (W : World) : (callFunc 93 args).run Tryz.prog W = .ok (.enter 93 args) W := by
 simp [go_sem]
theorem jX (T : List TK) (P : List TP) (V : List Int) (dv : Int) (D : List Int) (G : List GT) (W : List VW) (o1 o2 o3 od og ov : Option Addr) (c1 c2 c3 cd cg cv : Nat) (id n m : Int) (w : World) (hs : StW w o1 o2 o3 c1 c2 c3 T P V od cd D og cg G ov cv W) :
  Calls Tryz.prog 47 #[stV o1 o2 o3 T.length c1 P.length c2 V.length c3 dv od D.length cd og G.length cg ov W.length cv, .int .i64 id, .int .i64 n, .int .i64 m] w fun e w' => (∃ v R, R = tapS T P V dv D G W id n m ∧ e = .returned (.tuple #[v, .int .i64 R.1, .int .i64 R.2]) ∧ (R.2 ≠ 0 → v = stV none none none 0 0 0 0 0 0 0 none 0 0 none 0 0 none 0 0) ∧
   (R.2 = 0 → ∃ G', G'.map GT.p = (G.map GT.p).set n.toNat (gTap W (gAt (G.map GT.p) n) (tAt T id) m) ∧ StR w' w.heap.size v T (pTap W (gAt (G.map GT.p) n) P id n m) (vTap W (gAt (G.map GT.p) n) V R.1) dv D G' W)) ∧ Below w.heap.size w w' := by
 have HB := zA (((((((zL.nil w).more (.cells #[.slice o1 T.length c1, .slice o2 P.length c2, .slice o3 V.length c3, .int .i64 dv, .slice od D.length cd, .slice og G.length cg, .slice ov W.length cv] 32) (by simp)).more (.cells #[.int .i64 id] 3) (by simp)).more (.cells #[.int .i64 n] 3) (by simp)).more (.cells #[.int .i64 m] 3) (by simp)).more (.cells #[.slice none 0 0, .slice none 0 0, .slice none 0 0, .int .i64 0, .slice none 0 0, .slice none 0 0, .slice none 0 0] 32) (by simp)).more (.cells #[.int .i64 0] 3) (by simp))
 have HS := zA (hs.below HB.out.2.2)
 have hz : ((((((w.alloc (.cells #[.slice o1 T.length c1, .slice o2 P.length c2, .slice o3 V.length c3, .int .i64 dv, .slice od D.length cd, .slice og G.length cg, .slice ov W.length cv] 32)).alloc (.cells #[.int .i64 id] 3)).alloc (.cells #[.int .i64 n] 3)).alloc (.cells #[.int .i64 m] 3)).alloc (.cells #[.slice none 0 0, .slice none 0 0, .slice none 0 0, .int .i64 0, .slice none 0 0, .slice none 0 0, .slice none 0 0] 32)).alloc (.cells #[.int .i64 0] 3)).heap.size = w.heap.size + 1 + 1 + 1 + 1 + 1 + 1 := by simp
 obtain ⟨R, hR⟩ : ∃ R, R = tapS T P V dv D G W id n m := ⟨_, rfl⟩
 have hR0 : yP T P V dv D G W = 0 → R = tapR T P V dv D (G.map GT.p) W id n m := fun h => by rw [hR, tapS, if_pos h]
 have hRE : yP T P V dv D G W ≠ 0 → R = (0, yP T P V dv D G W) := fun h => by rw [hR, tapS, if_neg h]
 have HC := zA (changed_any 93 #[.pointer (some ⟨w.heap.size + 1, 0, none⟩), .pointer (some ⟨w.heap.size + 1 + 1, 0, none⟩), .pointer (some ⟨w.heap.size + 1 + 1 + 1, 0, none⟩), .pointer (some ⟨w.heap.size + 1 + 1 + 1 + 1 + 1, 0, none⟩)] enterT1 (fun k => k = w.heap.size + 1 + 1 + 1 + 1 + 1) T P V dv D G W o1 o2 o3 od og ov c1 c2 c3 cd cg cv _ HS.out (fun k h => by rw [h]; simp)
  (fun E X => E = R.2 ∧ X.heap[w.heap.size + 1 + 1 + 1 + 1 + 1]? = some (.cells #[.int .i64 R.1] 3)) (fun _ T' P' V' dv' D' G' W' X => R.2 = 0 ∧ X.heap[w.heap.size + 1 + 1 + 1 + 1 + 1]? = some (.cells #[.int .i64 R.1] 3) ∧ T' = T ∧ P' = pTap W (gAt (G.map GT.p) n) P id n m ∧ V' = vTap W (gAt (G.map GT.p) n) V R.1 ∧ dv' = dv ∧ D' = D ∧ G'.map GT.p = (G.map GT.p).set n.toNat (gTap W (gAt (G.map GT.p) n) (tAt T id) m) ∧ W' = W)
  (fun _ _ p u hp h => ⟨h.1, zD h.2 (by rw [hp]; simp; try omega) u⟩) (fun _ _ _ _ _ _ _ _ _ p u hp h => ⟨h.1, zD h.2.1 (by rw [hp]; simp; try omega) u, h.2.2⟩) (fun h0 w1 K Q a G' hm hk hb => by
   obtain ⟨p1, p2, p3, p4, -, p6⟩ := yM h0
   have hl3 : G'.length = 3 := by have := congrArg List.length hm; simp at this; omega
   have hgl := gates_lens p4 hm
   refine (tap1_any K Q _ a T P V dv D G' W (w.heap.size + 1) (w.heap.size + 1 + 1) (w.heap.size + 1 + 1 + 1) (w.heap.size + 1 + 1 + 1 + 1 + 1) id n m 0 w1 hk hl3 hgl (xP.of p1) (yE p2).2.2.1 (by omega) (zC (HB.out.1 1 _ rfl) hb) (zC (HB.out.1 2 _ rfl) hb) (zC (HB.out.1 3 _ rfl) hb) (zC (HB.out.1 5 _ rfl) hb) (by simp; try omega)).mono ?_
   rintro e w2 ⟨R', hR', rfl, hv, hkq, he, ho⟩
   rw [hm] at hR' ho
   have hRR : R' = R := by rw [hR', hR0 h0]
   subst hRR
   refine ⟨_, rfl, hkq, fun _ => ⟨rfl, hv⟩, fun h => ?_⟩
   obtain ⟨a', G'', hk', hm', hl'⟩ := ho h
   refine ⟨a', _, _, _, _, _, G'', _, hk', ?_, h, hv, rfl, rfl, rfl, rfl, rfl, hm', rfl⟩
   have h1 := gates_lnS h0 hm
   obtain ⟨q1, q2, q3, -, -⟩ := zW p1
   refine ⟨⟨by omega, ?_, ?_⟩, h1.2.1, fun g hg => ?_, ?_, by omega⟩
   ·unfold pTap
    split
    ·omega
    ·simp; omega
   ·unfold vTap
    split
    ·omega
    ·simp; omega
   ·obtain ⟨i, hi⟩ := List.mem_iff_getElem?.1 hg
    have := hl' i g hi
    exact ⟨by omega, by omega⟩
   ·have := congrArg List.length hm'
    simp at this
    omega))
 rw [hz] at HC
 have HR0 := zA (And.intro hR0 hRE)
 have HR := zA hR
 clear hs hz hR0 hRE hR
 obtain ⟨k0, k1, k2, k3, k4, k5, k6⟩ := HB.out.c7 0 w.heap.size rfl rfl rfl rfl rfl rfl rfl rfl rfl
 go_enter Tryz.func47, Tryz.ntmps47
 go_wp2_with fail
 refine HC.out.mono ?_
 rintro e w1 ⟨⟨v, E', rfl, h1, h2, h3⟩, hkq⟩
 have hEE : E' = R.2 ∧ w1.heap[w.heap.size + 1 + 1 + 1 + 1 + 1]? = some (.cells #[.int .i64 R.1] 3) := by
  by_cases h0 : yP T P V dv D G W = 0
  ·by_cases hE0 : E' = 0
   ·obtain ⟨a, T', P', V', dv', D', G', W', -, hk, hv, -⟩ := (h3 h0).2 hE0
    exact ⟨by rw [hE0, hk], hv⟩
   ·exact (h3 h0).1 hE0
  ·have he := h1 h0
   have hr := HR0.out.2 h0
   rw [hr]
   refine ⟨he.1, ?_⟩
   exact (he.2.block _ (by omega)).trans (HB.out.1 5 _ rfl)
 obtain ⟨hE1, hV1⟩ := hEE
 subst hE1
 have h4 : R.2 = 0 → ∃ G', G'.map GT.p = (G.map GT.p).set n.toNat (gTap W (gAt (G.map GT.p) n) (tAt T id) m) ∧ StR w1 (w.heap.size + 1 + 1 + 1 + 1 + 1 + 1 + 1 + 1) v T (pTap W (gAt (G.map GT.p) n) P id n m) (vTap W (gAt (G.map GT.p) n) V R.1) dv D G' W := by
  intro h0
  by_cases hc : yP T P V dv D G W = 0
  ·obtain ⟨a, T', P', V', dv', D', G', W', hr, -, -, rfl, rfl, rfl, rfl, rfl, hm, rfl⟩ := (h3 hc).2 h0
   exact ⟨G', hm, hr⟩
  ·have := (h1 hc).1
   omega
 have hv : ∃ x1 x2 x3 n1 y1 n2 y2 n3 y3 xv x4 n4 y4 x5 n5 y5 x6 n6 y6, v = stV x1 x2 x3 n1 y1 n2 y2 n3 y3 xv x4 n4 y4 x5 n5 y5 x6 n6 y6 := by
  by_cases h0 : R.2 = 0
  ·obtain ⟨G', -, hr⟩ := h4 h0
   exact hr.form
  ·exact ⟨_, _, _, _, _, _, _, _, _, _, _, _, _, _, _, _, _, _, _, h2 h0⟩
 obtain ⟨x1, x2, x3, n1, y1, n2, y2, n3, y3, xv, x4, n4, y4, x5, n5, y5, x6, n6, y6, rfl⟩ := hv
 have H2 := zA h2
 have H4 := zA h4
 have HV1 := zA hV1
 have HZ1 := zA (hkq.obj (HB.out.1 4 _ rfl) (by omega))
 have hkb := hkq.below (B := w.heap.size) (by have := HB.out.2.2.size; exact this) (fun k hk h => by omega)
 have HBw := zA (HB.out.2.2.trans hkb)
 have hsz : w.heap.size + 1 + 1 + 1 + 1 + 1 + 1 ≤ w1.heap.size := by have := hkq.size; simp at this; omega
 clear h1 h2 h3 h4 hV1 hkq hkb HB HS HC HR0 k0 k1 k2 k3 k4 k5 k6
 have HA := zA ((Below.refl w1.heap.size w1).alloc (Nat.le_refl _) (.cells #[.slice x1 n1 y1, .slice x2 n2 y2, .slice x3 n3 y3, .int .i64 xv, .slice x4 n4 y4, .slice x5 n5 y5, .slice x6 n6 y6] 32))
 have HN := zA (heap_alloc_new w1 (.cells #[.slice x1 n1 y1, .slice x2 n2 y2, .slice x3 n3 y3, .int .i64 xv, .slice x4 n4 y4, .slice x5 n5 y5, .slice x6 n6 y6] 32))
 have HV2 := zA (zC HV1.out HA.out)
 have HZ2 := zA (zC HZ1.out HA.out)
 have HB2 := zA (HBw.out.trans (HA.out.mono (by omega)))
 have H42 := zA (fun h => (H4.out h).imp fun _ hm => And.intro hm.1 (hm.2.below HA.out))
 clear HV1 HZ1 HBw H4
 go_upto_region 3 with fail
 generalize w1.alloc (.cells #[.slice x1 n1 y1, .slice x2 n2 y2, .slice x3 n3 y3, .int .i64 xv, .slice x4 n4 y4, .slice x5 n5 y5, .slice x6 n6 y6] 32) = w2 at *
 refine zJ (fun w' => w'.heap[w1.heap.size]? = some (.cells #[.slice x1 n1 y1, .slice x2 n2 y2, .slice x3 n3 y3, .int .i64 xv, .slice x4 n4 y4, .slice x5 n5 y5, .slice x6 n6 y6] 32) ∧ w'.heap[w.heap.size + 1 + 1 + 1 + 1 + 1]? = some (.cells #[.int .i64 R.1] 3)) [0, 1, 2] 3 (by rfl) (by kernel_rfl) (by kernel_rfl) (by kernel_rfl) (fun c d v a w h => by cases d <;> exact h) ?_ ?_
 ·exact ⟨zC HN.out (Below.refl _ _).drew, zC HV2.out (Below.refl _ _).drew⟩
 refine zB (stV x1 x2 x3 n1 y1 n2 y2 n3 y3 xv x4 n4 y4 x5 n5 y5 x6 n6 y6) rfl rfl (fun w' hS => ?_) ?_
 ·have q0 : w'.cell? ⟨w1.heap.size, 0, none⟩ = some (.slice x1 n1 y1) := by rw [cell_of_row _ _ 0 _ _ _ hS.1]; rfl
  have q1 : w'.cell? ⟨w1.heap.size, 1, none⟩ = some (.slice x2 n2 y2) := by rw [cell_of_row _ _ 1 _ _ _ hS.1]; rfl
  have q2 : w'.cell? ⟨w1.heap.size, 2, none⟩ = some (.slice x3 n3 y3) := by rw [cell_of_row _ _ 2 _ _ _ hS.1]; rfl
  have q3 : w'.cell? ⟨w1.heap.size, 3, none⟩ = some (.int .i64 xv) := by rw [cell_of_row _ _ 3 _ _ _ hS.1]; rfl
  have q4 : w'.cell? ⟨w1.heap.size, 4, none⟩ = some (.slice x4 n4 y4) := by rw [cell_of_row _ _ 4 _ _ _ hS.1]; rfl
  have q5 : w'.cell? ⟨w1.heap.size, 5, none⟩ = some (.slice x5 n5 y5) := by rw [cell_of_row _ _ 5 _ _ _ hS.1]; rfl
  have q6 : w'.cell? ⟨w1.heap.size, 6, none⟩ = some (.slice x6 n6 y6) := by rw [cell_of_row _ _ 6 _ _ _ hS.1]; rfl
  go_simp
 refine zB (.int .i64 R.1) rfl rfl (fun w' hS => ?_) ?_
 ·have q0 : w'.cell? ⟨w.heap.size + 1 + 1 + 1 + 1 + 1, 0, none⟩ = some (.int .i64 R.1) := by rw [cell_of_row _ _ 0 _ _ _ hS.2]; rfl
  go_simp
 refine pS (.int .i64 R.2) rfl rfl ?_
 refine zE ?_
 have HNd := zA (zC HN.out (Below.refl _ _).drew)
 have HVd := zA (zC HV2.out (Below.refl _ _).drew)
 have HZd := zA (zC HZ2.out (Below.refl _ _).drew)
 have HBd := zA HB2.out.drew
 have H4d := zA (fun h => (H42.out h).imp fun _ hm => And.intro hm.1 (hm.2.below (Below.refl _ _).drew))
 clear HN HV2 HZ2 HB2 H42 HA
 generalize (World.drew _) = w3 at *
 have r0 := cell_of_row _ _ 0 _ _ _ HZd.out
 have s0 := frozen_of_row _ _ 0 _ _ HZd.out
 have r1 := cell_of_row _ _ 1 _ _ _ HZd.out
 have s1 := frozen_of_row _ _ 1 _ _ HZd.out
 have r2 := cell_of_row _ _ 2 _ _ _ HZd.out
 have s2 := frozen_of_row _ _ 2 _ _ HZd.out
 have r3 := cell_of_row _ _ 3 _ _ _ HZd.out
 have s3 := frozen_of_row _ _ 3 _ _ HZd.out
 have r4 := cell_of_row _ _ 4 _ _ _ HZd.out
 have s4 := frozen_of_row _ _ 4 _ _ HZd.out
 have r5 := cell_of_row _ _ 5 _ _ _ HZd.out
 have s5 := frozen_of_row _ _ 5 _ _ HZd.out
 have r6 := cell_of_row _ _ 6 _ _ _ HZd.out
 have s6 := frozen_of_row _ _ 6 _ _ HZd.out
 simp at r0 r1 r2 r3 r4 r5 r6
 refine oR 3 rfl rfl fun K hK => ?_
 go_simp
 have HZ := zA (heap_setCell_same _ (w.heap.size + 1 + 1 + 1 + 1) 6 _ _ (.slice x6 n6 y6) (heap_setCell_same _ (w.heap.size + 1 + 1 + 1 + 1) 5 _ _ (.slice x5 n5 y5) (heap_setCell_same _ (w.heap.size + 1 + 1 + 1 + 1) 4 _ _ (.slice x4 n4 y4) (heap_setCell_same _ (w.heap.size + 1 + 1 + 1 + 1) 3 _ _ (.int .i64 xv) (heap_setCell_same _ (w.heap.size + 1 + 1 + 1 + 1) 2 _ _ (.slice x3 n3 y3) (heap_setCell_same _ (w.heap.size + 1 + 1 + 1 + 1) 1 _ _ (.slice x2 n2 y2) (heap_setCell_same _ (w.heap.size + 1 + 1 + 1 + 1) 0 _ _ (.slice x1 n1 y1) HZd.out)))))))
 have HBz := zA (((((((HBd.out.setCell (p := ⟨w.heap.size + 1 + 1 + 1 + 1, 0, none⟩) (by simp; try omega) (.slice x1 n1 y1)).setCell (p := ⟨w.heap.size + 1 + 1 + 1 + 1, 1, none⟩) (by simp; try omega) (.slice x2 n2 y2)).setCell (p := ⟨w.heap.size + 1 + 1 + 1 + 1, 2, none⟩) (by simp; try omega) (.slice x3 n3 y3)).setCell (p := ⟨w.heap.size + 1 + 1 + 1 + 1, 3, none⟩) (by simp; try omega) (.int .i64 xv)).setCell (p := ⟨w.heap.size + 1 + 1 + 1 + 1, 4, none⟩) (by simp; try omega) (.slice x4 n4 y4)).setCell (p := ⟨w.heap.size + 1 + 1 + 1 + 1, 5, none⟩) (by simp; try omega) (.slice x5 n5 y5)).setCell (p := ⟨w.heap.size + 1 + 1 + 1 + 1, 6, none⟩) (by simp; try omega) (.slice x6 n6 y6))
 have H4z := zA (fun h => (H4d.out h).imp fun _ hm => And.intro hm.1 (((((((hm.2.set (p := ⟨w.heap.size + 1 + 1 + 1 + 1, 0, none⟩) (by simp; try omega) (.slice x1 n1 y1)).set (p := ⟨w.heap.size + 1 + 1 + 1 + 1, 1, none⟩) (by simp; try omega) (.slice x2 n2 y2)).set (p := ⟨w.heap.size + 1 + 1 + 1 + 1, 2, none⟩) (by simp; try omega) (.slice x3 n3 y3)).set (p := ⟨w.heap.size + 1 + 1 + 1 + 1, 3, none⟩) (by simp; try omega) (.int .i64 xv)).set (p := ⟨w.heap.size + 1 + 1 + 1 + 1, 4, none⟩) (by simp; try omega) (.slice x4 n4 y4)).set (p := ⟨w.heap.size + 1 + 1 + 1 + 1, 5, none⟩) (by simp; try omega) (.slice x5 n5 y5)).set (p := ⟨w.heap.size + 1 + 1 + 1 + 1, 6, none⟩) (by simp; try omega) (.slice x6 n6 y6)))
 have HSn := zA (And.intro (zD (zD (zD (zD (zD (zD (zD HNd.out (p := ⟨w.heap.size + 1 + 1 + 1 + 1, 0, none⟩) (by simp; try omega) (.slice x1 n1 y1)) (p := ⟨w.heap.size + 1 + 1 + 1 + 1, 1, none⟩) (by simp; try omega) (.slice x2 n2 y2)) (p := ⟨w.heap.size + 1 + 1 + 1 + 1, 2, none⟩) (by simp; try omega) (.slice x3 n3 y3)) (p := ⟨w.heap.size + 1 + 1 + 1 + 1, 3, none⟩) (by simp; try omega) (.int .i64 xv)) (p := ⟨w.heap.size + 1 + 1 + 1 + 1, 4, none⟩) (by simp; try omega) (.slice x4 n4 y4)) (p := ⟨w.heap.size + 1 + 1 + 1 + 1, 5, none⟩) (by simp; try omega) (.slice x5 n5 y5)) (p := ⟨w.heap.size + 1 + 1 + 1 + 1, 6, none⟩) (by simp; try omega) (.slice x6 n6 y6)) (zD (zD (zD (zD (zD (zD (zD HVd.out (p := ⟨w.heap.size + 1 + 1 + 1 + 1, 0, none⟩) (by simp; try omega) (.slice x1 n1 y1)) (p := ⟨w.heap.size + 1 + 1 + 1 + 1, 1, none⟩) (by simp; try omega) (.slice x2 n2 y2)) (p := ⟨w.heap.size + 1 + 1 + 1 + 1, 2, none⟩) (by simp; try omega) (.slice x3 n3 y3)) (p := ⟨w.heap.size + 1 + 1 + 1 + 1, 3, none⟩) (by simp; try omega) (.int .i64 xv)) (p := ⟨w.heap.size + 1 + 1 + 1 + 1, 4, none⟩) (by simp; try omega) (.slice x4 n4 y4)) (p := ⟨w.heap.size + 1 + 1 + 1 + 1, 5, none⟩) (by simp; try omega) (.slice x5 n5 y5)) (p := ⟨w.heap.size + 1 + 1 + 1 + 1, 6, none⟩) (by simp; try omega) (.slice x6 n6 y6)))
 refine hK _ _ HSn.out ?_
 clear hK K HBd H4d HNd HVd HZd r0 r1 r2 r3 r4 r5 r6 s0 s1 s2 s3 s4 s5 s6
 generalize (((((((w3.setCell ⟨w.heap.size + 1 + 1 + 1 + 1, 0, none⟩ (.slice x1 n1 y1)).setCell ⟨w.heap.size + 1 + 1 + 1 + 1, 1, none⟩ (.slice x2 n2 y2)).setCell ⟨w.heap.size + 1 + 1 + 1 + 1, 2, none⟩ (.slice x3 n3 y3)).setCell ⟨w.heap.size + 1 + 1 + 1 + 1, 3, none⟩ (.int .i64 xv)).setCell ⟨w.heap.size + 1 + 1 + 1 + 1, 4, none⟩ (.slice x4 n4 y4)).setCell ⟨w.heap.size + 1 + 1 + 1 + 1, 5, none⟩ (.slice x5 n5 y5)).setCell ⟨w.heap.size + 1 + 1 + 1 + 1, 6, none⟩ (.slice x6 n6 y6)) = w5 at *
 refine oR 4 rfl rfl fun K hK => ?_
 go_simp
 refine hK _ _ HSn.out ?_
 clear hK K
 refine oR 5 rfl rfl fun K hK => ?_
 go_simp
 refine hK _ _ HSn.out ?_
 clear hK K
 refine wpAnyH_done (by kernel_rfl) ?_ _
 have g0 := cell_of_row _ _ 0 _ _ _ HZ.out
 have g1 := cell_of_row _ _ 1 _ _ _ HZ.out
 have g2 := cell_of_row _ _ 2 _ _ _ HZ.out
 have g3 := cell_of_row _ _ 3 _ _ _ HZ.out
 have g4 := cell_of_row _ _ 4 _ _ _ HZ.out
 have g5 := cell_of_row _ _ 5 _ _ _ HZ.out
 have g6 := cell_of_row _ _ 6 _ _ _ HZ.out
 simp at g0 g1 g2 g3 g4 g5 g6
 go_wp2_with fail
 exact bodyPost_ret (v := .tuple #[stV x1 x2 x3 n1 y1 n2 y2 n3 y3 xv x4 n4 y4 x5 n5 y5 x6 n6 y6, .int .i64 R.1, .int .i64 R.2]) (by simp [results, Tryz.results47, go_sem, g0, g1, g2, g3, g4, g5, g6]) rfl ⟨⟨_, R, HR.out, rfl, H2.out, fun h => (H4z.out h).imp fun _ hm => ⟨hm.1, hm.2.mono (by omega)⟩⟩, HBz.out⟩
theorem addI_nil (id : Int) : addI [] id = [id] := by simp [addI, posI]
theorem addI_cons (x : Int) (L : List Int) (id : Int) : addI (x :: L) id = if id < x then id :: x :: L else x :: addI L id := by
 unfold addI posI
 by_cases h : id < x
 ·rw [List.findIdx_cons]
  simp [h]
 ·rw [List.findIdx_cons]
  simp [h]
theorem addI_len (L : List Int) (id : Int) : (addI L id).length = L.length + 1 := by
 induction L with
 | nil => rw [addI_nil]; rfl
 | cons x L ih =>
  rw [addI_cons]
  split
  ·simp
  ·simp [ih]
theorem hasI_cons (x : Int) (L : List Int) (o : Int) : xQ (x :: L) o = (x == o || xQ L o) := rfl
theorem hasI_addI (L : List Int) (id o : Int) : xQ (addI L id) o = (xQ L o || o == id) := by
 have hs : (id == o) = (o == id) := by rw [Bool.eq_iff_iff, beq_iff_eq, beq_iff_eq]; exact eq_comm
 induction L with
 | nil => rw [addI_nil]; simp [xQ, hs]
 | cons x L ih =>
  rw [addI_cons]
  split
  ·rw [hasI_cons, hasI_cons, hs, Bool.or_comm]
  ·rw [hasI_cons, hasI_cons, ih, Bool.or_assoc]
theorem qT {l x : Int} {L : List Int} : errD l (x :: L) = 0 ↔ wi x 1 9999 = true ∧ l < x ∧ errD x L = 0 := by
 rcases errD_ways l x L with ⟨h1, h2⟩ | ⟨h1, h2, h3⟩ | ⟨h1, h2, h3⟩
 ·rw [h2, h1]; simp
 ·rw [h3, h1]; simp; omega
 ·rw [h3, h1]; simp; omega
theorem errD_addI {l id : Int} {L : List Int} (h : errD l L = 0) (hw : wi id 1 9999 = true) (hl : l < id) (hn : xQ L id = false) : errD l (addI L id) = 0 := by
 induction L generalizing l with
 | nil => rw [addI_nil, qT]; exact ⟨hw, hl, rfl⟩
 | cons x L ih =>
  rw [qT] at h
  rw [hasI_cons, Bool.or_eq_false_iff] at hn
  have hx : x ≠ id := by simpa using hn.1
  rw [addI_cons]
  split
  ·rename_i hlt
   rw [qT, qT]
   exact ⟨hw, hl, h.1, hlt, h.2.2⟩
  ·rw [qT]
   exact ⟨h.1, h.2.1, ih h.2.2 (by omega) hn.2⟩
theorem chkD_zero {v : Int} {L : List Int} : yZ v L = 0 ↔ (0 ≤ v ∧ v ≤ 999 ∧ L.length ≤ 12 ∧ errD 0 L = 0 ∧ (L.length : Int) ≤ v) := by
 refine ⟨yE, fun ⟨h1, h2, h3, h4, h5⟩ => ?_⟩
 have hw : wi v 0 999 = true := (yO _ _ _).2 ⟨h1, h2⟩
 rw [yZ, hw, if_neg (by simp), if_neg (by omega), if_pos h4, if_neg (by omega)]
theorem addE_right {v : Int} {L : List Int} {id : Int} (h : addE v L id = 0) : yZ v L = 0 ∧ wi id 1 9999 = true ∧ xQ L id = false ∧ L.length < 12 ∧ v < 999 := by
 rcases addE_ways v L id with ⟨h1, h2⟩ | ⟨h1, h2, h3⟩ | ⟨h1, h2, h3, h4⟩ | ⟨h1, h2, h3, h4⟩
 ·rw [h2] at h; rw [h] at h1; cases h1
 ·omega
 ·omega
 ·have hu := unfD_right h1
  have hr := yE hu.1
  rw [fullD, Bool.or_eq_false_iff] at h3
  have a1 : ¬ (L.length : Int) = 12 := by simpa using h3.1
  have a2 : ¬ v = 999 := by simpa using h3.2
  exact ⟨hu.1, hu.2, h2, by omega, by omega⟩
theorem chkD_addI {v : Int} {L : List Int} {id : Int} (h : addE v L id = 0) : yZ (v + 1) (addI L id) = 0 := by
 obtain ⟨h1, h2, h3, h4, h5⟩ := addE_right h
 have hr := yE h1
 have hw := (yO _ _ _).1 h2
 rw [chkD_zero, addI_len]
 exact ⟨by omega, by omega, by omega, errD_addI hr.2.2.2.1 h2 (by omega) h3, by omega⟩
end
end Go.Proofs.YtgidebfgcbkkkaaGreat
