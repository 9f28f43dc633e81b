/-
  'Tap' (package gate), where it lets through.
-/
import Derived.Test.YtlnmheooicancaaJ6
namespace Go.Proofs.Ytlnmheooicancaa
open Go.RowKit

set_option maxHeartbeats 6400000 in
theorem gateTap_ok (i z s : Int) (oa : Option Addr) (P : List TP) (ca : Nat) (v : Int) (od : Option Addr) (D : List Int) (cd : Nat) (l u : Int) (ti k f t y r m : Int) (w : World) (hP : TapsAt w oa P) (hD : IntsAt w od D) (hlP : P.length ≤ 9223372036854775807) (hlD : D.length ≤ 9223372036854775807) (hn : oa = none → ca = 0) (hE : tapG i z s P v D l u ⟨ti, k, f, t, y, r⟩ m = 0) :
    Calls Try.prog 6 #[gtV i z s oa P.length ca v od D.length cd l u, tk ti k f t y r, .int .i64 m] w fun e w' => (∃ x, e = .returned (.tuple #[x, tp ti i (s + 1) m z, .int .i64 0]) ∧ GateF w.heap.size w' x i z (s + 1) (P ++ [⟨ti, i, s + 1, m, z⟩]) v D (l - 1) u) ∧ Below w.heap.size w w' := by
  have HU := hide (fun W (h : TapsAt W oa P) (h' : IntsAt W od D) => gateUnfit_any i z s oa P ca v od D cd l u ti k f t y r m W h h' hlD)
  have HS := hide (fun W (h0 : unfG i z s P v D l u ⟨ti, k, f, t, y, r⟩ m = 0) (h' : IntsAt W od D) => gateShut_any i z s oa P ca v od D cd l u ti k f t y r m W h' hlD (unfG_more h0).1 (unfG_more h0).2.1 (unfG_more h0).2.2.1 (unfG_more h0).2.2.2.1)
  have HN := hide (fun W (h : TapsAt W oa P) => gateSpent_any i z s oa P ca v od D cd l u ti k f t y r W h hlP)
  have HF := hide (fun W => fullG_any i z s oa P.length ca v od D.length cd l u W)
  have HP := hide hP
  have HD := hide hD
  clear hP hD
  have hp := tapG_ways i z s P v D l u ⟨ti, k, f, t, y, r⟩ m
  rw [hE] at hp
  have hu : unfG i z s P v D l u ⟨ti, k, f, t, y, r⟩ m = 0 := by
    rcases hp with ⟨h1, h2⟩ | h | h | h | h
    · exact h2.symm
    all_goals exact h.1
  obtain ⟨-, -, -, -, m1, m2, m3, m4, m5, m6⟩ := unfG_more hu
  have HX := hide (fun W => gateNext_any i z s oa P ca v od D cd l u ti k f t y r m W m1 m2)
  have HW := hide (fun W (h : TapsAt W oa P) (h' : IntsAt W od D) => gateWith_any i z s oa P ca v od D cd l u ti i (s + 1) m z W h h' m3 m4 hn m5 m6)
  clear hE hu
  generalize P ++ [(⟨ti, i, s + 1, m, z⟩ : TP)] = M at *
  generalize unfG i z s P v D l u ⟨ti, k, f, t, y, r⟩ m = X1 at *
  generalize shutG D u z ⟨ti, k, f, t, y, r⟩ m = X2 at *
  generalize spentG P l ⟨ti, k, f, t, y, r⟩ = X3 at *
  generalize fullG P.length s = X4 at *
  clear m1 m2 m3 m4 m5 m6
  rcases hp with ⟨h1, rfl⟩ | ⟨rfl, h1, rfl⟩ | ⟨rfl, rfl, rfl, h⟩ | ⟨rfl, rfl, rfl, rfl, h⟩ | ⟨rfl, rfl, rfl, rfl, -⟩
  · cases h1
  · cases h1
  · cases h
  · cases h
  · go_enter Try.func6, Try.ntmps6
    go_wp2_with fail
    have HG1 := hide ((((((Blks.nil w).more (.cells #[.int .i64 i, .int .i64 z, .int .i64 s, .slice oa P.length ca, .int .i64 v, .slice od D.length cd, .int .i64 l, .int .i64 u] 29) (by simp)).more (.cells #[.int .i64 ti, .int .i64 k, .int .i64 f, .int .i64 t, .int .i64 y, .int .i64 r] 39) (by simp)).more (.cells #[.int .i64 0, .int .i64 0, .int .i64 0, .slice none 0 0, .int .i64 0, .slice none 0 0, .int .i64 0, .int .i64 0] 29) (by simp)).more (.cells #[.int .i64 0, .int .i64 0, .int .i64 0, .int .i64 0, .int .i64 0] 35) (by simp)).more (.cells #[.int .i64 i, .int .i64 z, .int .i64 s, .slice oa P.length ca, .int .i64 v, .slice od D.length cd, .int .i64 l, .int .i64 u] 48) (by simp))
    refine (HU.out _ (HP.out.below HG1.out.2.2) (HD.out.below HG1.out.2.2)).mono ?_
    rintro e w1 ⟨rfl, hb⟩
    have HG1w1 := hide (HG1.out.on hb)
    clear hb HG1
    have lG1_1 := HG1w1.out.lt 1 (w.heap.size + 1) (by simp) rfl
    have cG1_1_0 := HG1w1.out.cell 1 0 (w.heap.size + 1) _ _ _ rfl rfl rfl
    have cG1_1_1 := HG1w1.out.cell 1 1 (w.heap.size + 1) _ _ _ rfl rfl rfl
    have cG1_1_2 := HG1w1.out.cell 1 2 (w.heap.size + 1) _ _ _ rfl rfl rfl
    have cG1_1_3 := HG1w1.out.cell 1 3 (w.heap.size + 1) _ _ _ rfl rfl rfl
    have cG1_1_4 := HG1w1.out.cell 1 4 (w.heap.size + 1) _ _ _ rfl rfl rfl
    have cG1_1_5 := HG1w1.out.cell 1 5 (w.heap.size + 1) _ _ _ rfl rfl rfl
    have lG1_2 := HG1w1.out.lt 2 (w.heap.size + 1 + 1) (by simp) rfl
    have cG1_2_0 := HG1w1.out.cell 2 0 (w.heap.size + 1 + 1) _ _ _ rfl rfl rfl
    have fG1_2_0 := HG1w1.out.frozen 2 0 (w.heap.size + 1 + 1) _ _ rfl rfl
    have cG1_2_1 := HG1w1.out.cell 2 1 (w.heap.size + 1 + 1) _ _ _ rfl rfl rfl
    have fG1_2_1 := HG1w1.out.frozen 2 1 (w.heap.size + 1 + 1) _ _ rfl rfl
    have cG1_2_2 := HG1w1.out.cell 2 2 (w.heap.size + 1 + 1) _ _ _ rfl rfl rfl
    have fG1_2_2 := HG1w1.out.frozen 2 2 (w.heap.size + 1 + 1) _ _ rfl rfl
    have cG1_2_3 := HG1w1.out.cell 2 3 (w.heap.size + 1 + 1) _ _ _ rfl rfl rfl
    have fG1_2_3 := HG1w1.out.frozen 2 3 (w.heap.size + 1 + 1) _ _ rfl rfl
    have cG1_2_4 := HG1w1.out.cell 2 4 (w.heap.size + 1 + 1) _ _ _ rfl rfl rfl
    have fG1_2_4 := HG1w1.out.frozen 2 4 (w.heap.size + 1 + 1) _ _ rfl rfl
    have cG1_2_5 := HG1w1.out.cell 2 5 (w.heap.size + 1 + 1) _ _ _ rfl rfl rfl
    have fG1_2_5 := HG1w1.out.frozen 2 5 (w.heap.size + 1 + 1) _ _ rfl rfl
    have cG1_2_6 := HG1w1.out.cell 2 6 (w.heap.size + 1 + 1) _ _ _ rfl rfl rfl
    have fG1_2_6 := HG1w1.out.frozen 2 6 (w.heap.size + 1 + 1) _ _ rfl rfl
    have cG1_2_7 := HG1w1.out.cell 2 7 (w.heap.size + 1 + 1) _ _ _ rfl rfl rfl
    have fG1_2_7 := HG1w1.out.frozen 2 7 (w.heap.size + 1 + 1) _ _ rfl rfl
    have lG1_3 := HG1w1.out.lt 3 (w.heap.size + 1 + 1 + 1) (by simp) rfl
    have cG1_3_0 := HG1w1.out.cell 3 0 (w.heap.size + 1 + 1 + 1) _ _ _ rfl rfl rfl
    have fG1_3_0 := HG1w1.out.frozen 3 0 (w.heap.size + 1 + 1 + 1) _ _ rfl rfl
    have cG1_3_1 := HG1w1.out.cell 3 1 (w.heap.size + 1 + 1 + 1) _ _ _ rfl rfl rfl
    have fG1_3_1 := HG1w1.out.frozen 3 1 (w.heap.size + 1 + 1 + 1) _ _ rfl rfl
    have cG1_3_2 := HG1w1.out.cell 3 2 (w.heap.size + 1 + 1 + 1) _ _ _ rfl rfl rfl
    have fG1_3_2 := HG1w1.out.frozen 3 2 (w.heap.size + 1 + 1 + 1) _ _ rfl rfl
    have cG1_3_3 := HG1w1.out.cell 3 3 (w.heap.size + 1 + 1 + 1) _ _ _ rfl rfl rfl
    have fG1_3_3 := HG1w1.out.frozen 3 3 (w.heap.size + 1 + 1 + 1) _ _ rfl rfl
    have cG1_3_4 := HG1w1.out.cell 3 4 (w.heap.size + 1 + 1 + 1) _ _ _ rfl rfl rfl
    have fG1_3_4 := HG1w1.out.frozen 3 4 (w.heap.size + 1 + 1 + 1) _ _ rfl rfl
    have lG1_4 := HG1w1.out.lt 4 (w.heap.size + 1 + 1 + 1 + 1) (by simp) rfl
    have cG1_4_0 := HG1w1.out.cell 4 0 (w.heap.size + 1 + 1 + 1 + 1) _ _ _ rfl rfl rfl
    have cG1_4_1 := HG1w1.out.cell 4 1 (w.heap.size + 1 + 1 + 1 + 1) _ _ _ rfl rfl rfl
    have cG1_4_2 := HG1w1.out.cell 4 2 (w.heap.size + 1 + 1 + 1 + 1) _ _ _ rfl rfl rfl
    have cG1_4_3 := HG1w1.out.cell 4 3 (w.heap.size + 1 + 1 + 1 + 1) _ _ _ rfl rfl rfl
    have cG1_4_4 := HG1w1.out.cell 4 4 (w.heap.size + 1 + 1 + 1 + 1) _ _ _ rfl rfl rfl
    have cG1_4_5 := HG1w1.out.cell 4 5 (w.heap.size + 1 + 1 + 1 + 1) _ _ _ rfl rfl rfl
    have cG1_4_6 := HG1w1.out.cell 4 6 (w.heap.size + 1 + 1 + 1 + 1) _ _ _ rfl rfl rfl
    have cG1_4_7 := HG1w1.out.cell 4 7 (w.heap.size + 1 + 1 + 1 + 1) _ _ _ rfl rfl rfl
    go_wp2_with fail
    refine (HS.out _ trivial (HD.out.below HG1w1.out.2.2)).mono ?_
    rintro e w2 ⟨rfl, hb⟩
    have HG1w2 := hide (HG1w1.out.on hb)
    clear lG1_1 cG1_1_0 cG1_1_1 cG1_1_2 cG1_1_3 cG1_1_4 cG1_1_5 lG1_2 cG1_2_0 fG1_2_0 cG1_2_1 fG1_2_1 cG1_2_2 fG1_2_2 cG1_2_3 fG1_2_3 cG1_2_4 fG1_2_4 cG1_2_5 fG1_2_5 cG1_2_6 fG1_2_6 cG1_2_7 fG1_2_7 lG1_3 cG1_3_0 fG1_3_0 cG1_3_1 fG1_3_1 cG1_3_2 fG1_3_2 cG1_3_3 fG1_3_3 cG1_3_4 fG1_3_4 lG1_4 cG1_4_0 cG1_4_1 cG1_4_2 cG1_4_3 cG1_4_4 cG1_4_5 cG1_4_6 cG1_4_7
    clear hb HG1w1
    have lG1_1 := HG1w2.out.lt 1 (w.heap.size + 1) (by simp) rfl
    have cG1_1_0 := HG1w2.out.cell 1 0 (w.heap.size + 1) _ _ _ rfl rfl rfl
    have cG1_1_1 := HG1w2.out.cell 1 1 (w.heap.size + 1) _ _ _ rfl rfl rfl
    have cG1_1_2 := HG1w2.out.cell 1 2 (w.heap.size + 1) _ _ _ rfl rfl rfl
    have cG1_1_3 := HG1w2.out.cell 1 3 (w.heap.size + 1) _ _ _ rfl rfl rfl
    have cG1_1_4 := HG1w2.out.cell 1 4 (w.heap.size + 1) _ _ _ rfl rfl rfl
    have cG1_1_5 := HG1w2.out.cell 1 5 (w.heap.size + 1) _ _ _ rfl rfl rfl
    have lG1_2 := HG1w2.out.lt 2 (w.heap.size + 1 + 1) (by simp) rfl
    have cG1_2_0 := HG1w2.out.cell 2 0 (w.heap.size + 1 + 1) _ _ _ rfl rfl rfl
    have fG1_2_0 := HG1w2.out.frozen 2 0 (w.heap.size + 1 + 1) _ _ rfl rfl
    have cG1_2_1 := HG1w2.out.cell 2 1 (w.heap.size + 1 + 1) _ _ _ rfl rfl rfl
    have fG1_2_1 := HG1w2.out.frozen 2 1 (w.heap.size + 1 + 1) _ _ rfl rfl
    have cG1_2_2 := HG1w2.out.cell 2 2 (w.heap.size + 1 + 1) _ _ _ rfl rfl rfl
    have fG1_2_2 := HG1w2.out.frozen 2 2 (w.heap.size + 1 + 1) _ _ rfl rfl
    have cG1_2_3 := HG1w2.out.cell 2 3 (w.heap.size + 1 + 1) _ _ _ rfl rfl rfl
    have fG1_2_3 := HG1w2.out.frozen 2 3 (w.heap.size + 1 + 1) _ _ rfl rfl
    have cG1_2_4 := HG1w2.out.cell 2 4 (w.heap.size + 1 + 1) _ _ _ rfl rfl rfl
    have fG1_2_4 := HG1w2.out.frozen 2 4 (w.heap.size + 1 + 1) _ _ rfl rfl
    have cG1_2_5 := HG1w2.out.cell 2 5 (w.heap.size + 1 + 1) _ _ _ rfl rfl rfl
    have fG1_2_5 := HG1w2.out.frozen 2 5 (w.heap.size + 1 + 1) _ _ rfl rfl
    have cG1_2_6 := HG1w2.out.cell 2 6 (w.heap.size + 1 + 1) _ _ _ rfl rfl rfl
    have fG1_2_6 := HG1w2.out.frozen 2 6 (w.heap.size + 1 + 1) _ _ rfl rfl
    have cG1_2_7 := HG1w2.out.cell 2 7 (w.heap.size + 1 + 1) _ _ _ rfl rfl rfl
    have fG1_2_7 := HG1w2.out.frozen 2 7 (w.heap.size + 1 + 1) _ _ rfl rfl
    have lG1_3 := HG1w2.out.lt 3 (w.heap.size + 1 + 1 + 1) (by simp) rfl
    have cG1_3_0 := HG1w2.out.cell 3 0 (w.heap.size + 1 + 1 + 1) _ _ _ rfl rfl rfl
    have fG1_3_0 := HG1w2.out.frozen 3 0 (w.heap.size + 1 + 1 + 1) _ _ rfl rfl
    have cG1_3_1 := HG1w2.out.cell 3 1 (w.heap.size + 1 + 1 + 1) _ _ _ rfl rfl rfl
    have fG1_3_1 := HG1w2.out.frozen 3 1 (w.heap.size + 1 + 1 + 1) _ _ rfl rfl
    have cG1_3_2 := HG1w2.out.cell 3 2 (w.heap.size + 1 + 1 + 1) _ _ _ rfl rfl rfl
    have fG1_3_2 := HG1w2.out.frozen 3 2 (w.heap.size + 1 + 1 + 1) _ _ rfl rfl
    have cG1_3_3 := HG1w2.out.cell 3 3 (w.heap.size + 1 + 1 + 1) _ _ _ rfl rfl rfl
    have fG1_3_3 := HG1w2.out.frozen 3 3 (w.heap.size + 1 + 1 + 1) _ _ rfl rfl
    have cG1_3_4 := HG1w2.out.cell 3 4 (w.heap.size + 1 + 1 + 1) _ _ _ rfl rfl rfl
    have fG1_3_4 := HG1w2.out.frozen 3 4 (w.heap.size + 1 + 1 + 1) _ _ rfl rfl
    have lG1_4 := HG1w2.out.lt 4 (w.heap.size + 1 + 1 + 1 + 1) (by simp) rfl
    have cG1_4_0 := HG1w2.out.cell 4 0 (w.heap.size + 1 + 1 + 1 + 1) _ _ _ rfl rfl rfl
    have cG1_4_1 := HG1w2.out.cell 4 1 (w.heap.size + 1 + 1 + 1 + 1) _ _ _ rfl rfl rfl
    have cG1_4_2 := HG1w2.out.cell 4 2 (w.heap.size + 1 + 1 + 1 + 1) _ _ _ rfl rfl rfl
    have cG1_4_3 := HG1w2.out.cell 4 3 (w.heap.size + 1 + 1 + 1 + 1) _ _ _ rfl rfl rfl
    have cG1_4_4 := HG1w2.out.cell 4 4 (w.heap.size + 1 + 1 + 1 + 1) _ _ _ rfl rfl rfl
    have cG1_4_5 := HG1w2.out.cell 4 5 (w.heap.size + 1 + 1 + 1 + 1) _ _ _ rfl rfl rfl
    have cG1_4_6 := HG1w2.out.cell 4 6 (w.heap.size + 1 + 1 + 1 + 1) _ _ _ rfl rfl rfl
    have cG1_4_7 := HG1w2.out.cell 4 7 (w.heap.size + 1 + 1 + 1 + 1) _ _ _ rfl rfl rfl
    go_wp2_with fail
    refine (HN.out _ (HP.out.below HG1w2.out.2.2)).mono ?_
    rintro e w3 ⟨rfl, hb⟩
    have HG1w3 := hide (HG1w2.out.on hb)
    clear lG1_1 cG1_1_0 cG1_1_1 cG1_1_2 cG1_1_3 cG1_1_4 cG1_1_5 lG1_2 cG1_2_0 fG1_2_0 cG1_2_1 fG1_2_1 cG1_2_2 fG1_2_2 cG1_2_3 fG1_2_3 cG1_2_4 fG1_2_4 cG1_2_5 fG1_2_5 cG1_2_6 fG1_2_6 cG1_2_7 fG1_2_7 lG1_3 cG1_3_0 fG1_3_0 cG1_3_1 fG1_3_1 cG1_3_2 fG1_3_2 cG1_3_3 fG1_3_3 cG1_3_4 fG1_3_4 lG1_4 cG1_4_0 cG1_4_1 cG1_4_2 cG1_4_3 cG1_4_4 cG1_4_5 cG1_4_6 cG1_4_7
    clear hb HG1w2
    have lG1_1 := HG1w3.out.lt 1 (w.heap.size + 1) (by simp) rfl
    have cG1_1_0 := HG1w3.out.cell 1 0 (w.heap.size + 1) _ _ _ rfl rfl rfl
    have cG1_1_1 := HG1w3.out.cell 1 1 (w.heap.size + 1) _ _ _ rfl rfl rfl
    have cG1_1_2 := HG1w3.out.cell 1 2 (w.heap.size + 1) _ _ _ rfl rfl rfl
    have cG1_1_3 := HG1w3.out.cell 1 3 (w.heap.size + 1) _ _ _ rfl rfl rfl
    have cG1_1_4 := HG1w3.out.cell 1 4 (w.heap.size + 1) _ _ _ rfl rfl rfl
    have cG1_1_5 := HG1w3.out.cell 1 5 (w.heap.size + 1) _ _ _ rfl rfl rfl
    have lG1_2 := HG1w3.out.lt 2 (w.heap.size + 1 + 1) (by simp) rfl
    have cG1_2_0 := HG1w3.out.cell 2 0 (w.heap.size + 1 + 1) _ _ _ rfl rfl rfl
    have fG1_2_0 := HG1w3.out.frozen 2 0 (w.heap.size + 1 + 1) _ _ rfl rfl
    have cG1_2_1 := HG1w3.out.cell 2 1 (w.heap.size + 1 + 1) _ _ _ rfl rfl rfl
    have fG1_2_1 := HG1w3.out.frozen 2 1 (w.heap.size + 1 + 1) _ _ rfl rfl
    have cG1_2_2 := HG1w3.out.cell 2 2 (w.heap.size + 1 + 1) _ _ _ rfl rfl rfl
    have fG1_2_2 := HG1w3.out.frozen 2 2 (w.heap.size + 1 + 1) _ _ rfl rfl
    have cG1_2_3 := HG1w3.out.cell 2 3 (w.heap.size + 1 + 1) _ _ _ rfl rfl rfl
    have fG1_2_3 := HG1w3.out.frozen 2 3 (w.heap.size + 1 + 1) _ _ rfl rfl
    have cG1_2_4 := HG1w3.out.cell 2 4 (w.heap.size + 1 + 1) _ _ _ rfl rfl rfl
    have fG1_2_4 := HG1w3.out.frozen 2 4 (w.heap.size + 1 + 1) _ _ rfl rfl
    have cG1_2_5 := HG1w3.out.cell 2 5 (w.heap.size + 1 + 1) _ _ _ rfl rfl rfl
    have fG1_2_5 := HG1w3.out.frozen 2 5 (w.heap.size + 1 + 1) _ _ rfl rfl
    have cG1_2_6 := HG1w3.out.cell 2 6 (w.heap.size + 1 + 1) _ _ _ rfl rfl rfl
    have fG1_2_6 := HG1w3.out.frozen 2 6 (w.heap.size + 1 + 1) _ _ rfl rfl
    have cG1_2_7 := HG1w3.out.cell 2 7 (w.heap.size + 1 + 1) _ _ _ rfl rfl rfl
    have fG1_2_7 := HG1w3.out.frozen 2 7 (w.heap.size + 1 + 1) _ _ rfl rfl
    have lG1_3 := HG1w3.out.lt 3 (w.heap.size + 1 + 1 + 1) (by simp) rfl
    have cG1_3_0 := HG1w3.out.cell 3 0 (w.heap.size + 1 + 1 + 1) _ _ _ rfl rfl rfl
    have fG1_3_0 := HG1w3.out.frozen 3 0 (w.heap.size + 1 + 1 + 1) _ _ rfl rfl
    have cG1_3_1 := HG1w3.out.cell 3 1 (w.heap.size + 1 + 1 + 1) _ _ _ rfl rfl rfl
    have fG1_3_1 := HG1w3.out.frozen 3 1 (w.heap.size + 1 + 1 + 1) _ _ rfl rfl
    have cG1_3_2 := HG1w3.out.cell 3 2 (w.heap.size + 1 + 1 + 1) _ _ _ rfl rfl rfl
    have fG1_3_2 := HG1w3.out.frozen 3 2 (w.heap.size + 1 + 1 + 1) _ _ rfl rfl
    have cG1_3_3 := HG1w3.out.cell 3 3 (w.heap.size + 1 + 1 + 1) _ _ _ rfl rfl rfl
    have fG1_3_3 := HG1w3.out.frozen 3 3 (w.heap.size + 1 + 1 + 1) _ _ rfl rfl
    have cG1_3_4 := HG1w3.out.cell 3 4 (w.heap.size + 1 + 1 + 1) _ _ _ rfl rfl rfl
    have fG1_3_4 := HG1w3.out.frozen 3 4 (w.heap.size + 1 + 1 + 1) _ _ rfl rfl
    have lG1_4 := HG1w3.out.lt 4 (w.heap.size + 1 + 1 + 1 + 1) (by simp) rfl
    have cG1_4_0 := HG1w3.out.cell 4 0 (w.heap.size + 1 + 1 + 1 + 1) _ _ _ rfl rfl rfl
    have cG1_4_1 := HG1w3.out.cell 4 1 (w.heap.size + 1 + 1 + 1 + 1) _ _ _ rfl rfl rfl
    have cG1_4_2 := HG1w3.out.cell 4 2 (w.heap.size + 1 + 1 + 1 + 1) _ _ _ rfl rfl rfl
    have cG1_4_3 := HG1w3.out.cell 4 3 (w.heap.size + 1 + 1 + 1 + 1) _ _ _ rfl rfl rfl
    have cG1_4_4 := HG1w3.out.cell 4 4 (w.heap.size + 1 + 1 + 1 + 1) _ _ _ rfl rfl rfl
    have cG1_4_5 := HG1w3.out.cell 4 5 (w.heap.size + 1 + 1 + 1 + 1) _ _ _ rfl rfl rfl
    have cG1_4_6 := HG1w3.out.cell 4 6 (w.heap.size + 1 + 1 + 1 + 1) _ _ _ rfl rfl rfl
    have cG1_4_7 := HG1w3.out.cell 4 7 (w.heap.size + 1 + 1 + 1 + 1) _ _ _ rfl rfl rfl
    go_wp2_with fail
    refine (HF.out _).mono ?_
    rintro e w4 ⟨rfl, hb⟩
    have HG1w4 := hide (HG1w3.out.on hb)
    clear lG1_1 cG1_1_0 cG1_1_1 cG1_1_2 cG1_1_3 cG1_1_4 cG1_1_5 lG1_2 cG1_2_0 fG1_2_0 cG1_2_1 fG1_2_1 cG1_2_2 fG1_2_2 cG1_2_3 fG1_2_3 cG1_2_4 fG1_2_4 cG1_2_5 fG1_2_5 cG1_2_6 fG1_2_6 cG1_2_7 fG1_2_7 lG1_3 cG1_3_0 fG1_3_0 cG1_3_1 fG1_3_1 cG1_3_2 fG1_3_2 cG1_3_3 fG1_3_3 cG1_3_4 fG1_3_4 lG1_4 cG1_4_0 cG1_4_1 cG1_4_2 cG1_4_3 cG1_4_4 cG1_4_5 cG1_4_6 cG1_4_7
    clear hb HG1w3
    have lG1_1 := HG1w4.out.lt 1 (w.heap.size + 1) (by simp) rfl
    have cG1_1_0 := HG1w4.out.cell 1 0 (w.heap.size + 1) _ _ _ rfl rfl rfl
    have cG1_1_1 := HG1w4.out.cell 1 1 (w.heap.size + 1) _ _ _ rfl rfl rfl
    have cG1_1_2 := HG1w4.out.cell 1 2 (w.heap.size + 1) _ _ _ rfl rfl rfl
    have cG1_1_3 := HG1w4.out.cell 1 3 (w.heap.size + 1) _ _ _ rfl rfl rfl
    have cG1_1_4 := HG1w4.out.cell 1 4 (w.heap.size + 1) _ _ _ rfl rfl rfl
    have cG1_1_5 := HG1w4.out.cell 1 5 (w.heap.size + 1) _ _ _ rfl rfl rfl
    have lG1_2 := HG1w4.out.lt 2 (w.heap.size + 1 + 1) (by simp) rfl
    have cG1_2_0 := HG1w4.out.cell 2 0 (w.heap.size + 1 + 1) _ _ _ rfl rfl rfl
    have fG1_2_0 := HG1w4.out.frozen 2 0 (w.heap.size + 1 + 1) _ _ rfl rfl
    have cG1_2_1 := HG1w4.out.cell 2 1 (w.heap.size + 1 + 1) _ _ _ rfl rfl rfl
    have fG1_2_1 := HG1w4.out.frozen 2 1 (w.heap.size + 1 + 1) _ _ rfl rfl
    have cG1_2_2 := HG1w4.out.cell 2 2 (w.heap.size + 1 + 1) _ _ _ rfl rfl rfl
    have fG1_2_2 := HG1w4.out.frozen 2 2 (w.heap.size + 1 + 1) _ _ rfl rfl
    have cG1_2_3 := HG1w4.out.cell 2 3 (w.heap.size + 1 + 1) _ _ _ rfl rfl rfl
    have fG1_2_3 := HG1w4.out.frozen 2 3 (w.heap.size + 1 + 1) _ _ rfl rfl
    have cG1_2_4 := HG1w4.out.cell 2 4 (w.heap.size + 1 + 1) _ _ _ rfl rfl rfl
    have fG1_2_4 := HG1w4.out.frozen 2 4 (w.heap.size + 1 + 1) _ _ rfl rfl
    have cG1_2_5 := HG1w4.out.cell 2 5 (w.heap.size + 1 + 1) _ _ _ rfl rfl rfl
    have fG1_2_5 := HG1w4.out.frozen 2 5 (w.heap.size + 1 + 1) _ _ rfl rfl
    have cG1_2_6 := HG1w4.out.cell 2 6 (w.heap.size + 1 + 1) _ _ _ rfl rfl rfl
    have fG1_2_6 := HG1w4.out.frozen 2 6 (w.heap.size + 1 + 1) _ _ rfl rfl
    have cG1_2_7 := HG1w4.out.cell 2 7 (w.heap.size + 1 + 1) _ _ _ rfl rfl rfl
    have fG1_2_7 := HG1w4.out.frozen 2 7 (w.heap.size + 1 + 1) _ _ rfl rfl
    have lG1_3 := HG1w4.out.lt 3 (w.heap.size + 1 + 1 + 1) (by simp) rfl
    have cG1_3_0 := HG1w4.out.cell 3 0 (w.heap.size + 1 + 1 + 1) _ _ _ rfl rfl rfl
    have fG1_3_0 := HG1w4.out.frozen 3 0 (w.heap.size + 1 + 1 + 1) _ _ rfl rfl
    have cG1_3_1 := HG1w4.out.cell 3 1 (w.heap.size + 1 + 1 + 1) _ _ _ rfl rfl rfl
    have fG1_3_1 := HG1w4.out.frozen 3 1 (w.heap.size + 1 + 1 + 1) _ _ rfl rfl
    have cG1_3_2 := HG1w4.out.cell 3 2 (w.heap.size + 1 + 1 + 1) _ _ _ rfl rfl rfl
    have fG1_3_2 := HG1w4.out.frozen 3 2 (w.heap.size + 1 + 1 + 1) _ _ rfl rfl
    have cG1_3_3 := HG1w4.out.cell 3 3 (w.heap.size + 1 + 1 + 1) _ _ _ rfl rfl rfl
    have fG1_3_3 := HG1w4.out.frozen 3 3 (w.heap.size + 1 + 1 + 1) _ _ rfl rfl
    have cG1_3_4 := HG1w4.out.cell 3 4 (w.heap.size + 1 + 1 + 1) _ _ _ rfl rfl rfl
    have fG1_3_4 := HG1w4.out.frozen 3 4 (w.heap.size + 1 + 1 + 1) _ _ rfl rfl
    have lG1_4 := HG1w4.out.lt 4 (w.heap.size + 1 + 1 + 1 + 1) (by simp) rfl
    have cG1_4_0 := HG1w4.out.cell 4 0 (w.heap.size + 1 + 1 + 1 + 1) _ _ _ rfl rfl rfl
    have cG1_4_1 := HG1w4.out.cell 4 1 (w.heap.size + 1 + 1 + 1 + 1) _ _ _ rfl rfl rfl
    have cG1_4_2 := HG1w4.out.cell 4 2 (w.heap.size + 1 + 1 + 1 + 1) _ _ _ rfl rfl rfl
    have cG1_4_3 := HG1w4.out.cell 4 3 (w.heap.size + 1 + 1 + 1 + 1) _ _ _ rfl rfl rfl
    have cG1_4_4 := HG1w4.out.cell 4 4 (w.heap.size + 1 + 1 + 1 + 1) _ _ _ rfl rfl rfl
    have cG1_4_5 := HG1w4.out.cell 4 5 (w.heap.size + 1 + 1 + 1 + 1) _ _ _ rfl rfl rfl
    have cG1_4_6 := HG1w4.out.cell 4 6 (w.heap.size + 1 + 1 + 1 + 1) _ _ _ rfl rfl rfl
    have cG1_4_7 := HG1w4.out.cell 4 7 (w.heap.size + 1 + 1 + 1 + 1) _ _ _ rfl rfl rfl
    go_wp2_with fail
    refine (HX.out _).mono ?_
    rintro e w5 ⟨rfl, hb⟩
    have HG1w5 := hide (HG1w4.out.on hb)
    clear lG1_1 cG1_1_0 cG1_1_1 cG1_1_2 cG1_1_3 cG1_1_4 cG1_1_5 lG1_2 cG1_2_0 fG1_2_0 cG1_2_1 fG1_2_1 cG1_2_2 fG1_2_2 cG1_2_3 fG1_2_3 cG1_2_4 fG1_2_4 cG1_2_5 fG1_2_5 cG1_2_6 fG1_2_6 cG1_2_7 fG1_2_7 lG1_3 cG1_3_0 fG1_3_0 cG1_3_1 fG1_3_1 cG1_3_2 fG1_3_2 cG1_3_3 fG1_3_3 cG1_3_4 fG1_3_4 lG1_4 cG1_4_0 cG1_4_1 cG1_4_2 cG1_4_3 cG1_4_4 cG1_4_5 cG1_4_6 cG1_4_7
    clear hb HG1w4
    have lG1_1 := HG1w5.out.lt 1 (w.heap.size + 1) (by simp) rfl
    have cG1_1_0 := HG1w5.out.cell 1 0 (w.heap.size + 1) _ _ _ rfl rfl rfl
    have cG1_1_1 := HG1w5.out.cell 1 1 (w.heap.size + 1) _ _ _ rfl rfl rfl
    have cG1_1_2 := HG1w5.out.cell 1 2 (w.heap.size + 1) _ _ _ rfl rfl rfl
    have cG1_1_3 := HG1w5.out.cell 1 3 (w.heap.size + 1) _ _ _ rfl rfl rfl
    have cG1_1_4 := HG1w5.out.cell 1 4 (w.heap.size + 1) _ _ _ rfl rfl rfl
    have cG1_1_5 := HG1w5.out.cell 1 5 (w.heap.size + 1) _ _ _ rfl rfl rfl
    have lG1_2 := HG1w5.out.lt 2 (w.heap.size + 1 + 1) (by simp) rfl
    have cG1_2_0 := HG1w5.out.cell 2 0 (w.heap.size + 1 + 1) _ _ _ rfl rfl rfl
    have fG1_2_0 := HG1w5.out.frozen 2 0 (w.heap.size + 1 + 1) _ _ rfl rfl
    have cG1_2_1 := HG1w5.out.cell 2 1 (w.heap.size + 1 + 1) _ _ _ rfl rfl rfl
    have fG1_2_1 := HG1w5.out.frozen 2 1 (w.heap.size + 1 + 1) _ _ rfl rfl
    have cG1_2_2 := HG1w5.out.cell 2 2 (w.heap.size + 1 + 1) _ _ _ rfl rfl rfl
    have fG1_2_2 := HG1w5.out.frozen 2 2 (w.heap.size + 1 + 1) _ _ rfl rfl
    have cG1_2_3 := HG1w5.out.cell 2 3 (w.heap.size + 1 + 1) _ _ _ rfl rfl rfl
    have fG1_2_3 := HG1w5.out.frozen 2 3 (w.heap.size + 1 + 1) _ _ rfl rfl
    have cG1_2_4 := HG1w5.out.cell 2 4 (w.heap.size + 1 + 1) _ _ _ rfl rfl rfl
    have fG1_2_4 := HG1w5.out.frozen 2 4 (w.heap.size + 1 + 1) _ _ rfl rfl
    have cG1_2_5 := HG1w5.out.cell 2 5 (w.heap.size + 1 + 1) _ _ _ rfl rfl rfl
    have fG1_2_5 := HG1w5.out.frozen 2 5 (w.heap.size + 1 + 1) _ _ rfl rfl
    have cG1_2_6 := HG1w5.out.cell 2 6 (w.heap.size + 1 + 1) _ _ _ rfl rfl rfl
    have fG1_2_6 := HG1w5.out.frozen 2 6 (w.heap.size + 1 + 1) _ _ rfl rfl
    have cG1_2_7 := HG1w5.out.cell 2 7 (w.heap.size + 1 + 1) _ _ _ rfl rfl rfl
    have fG1_2_7 := HG1w5.out.frozen 2 7 (w.heap.size + 1 + 1) _ _ rfl rfl
    have lG1_3 := HG1w5.out.lt 3 (w.heap.size + 1 + 1 + 1) (by simp) rfl
    have cG1_3_0 := HG1w5.out.cell 3 0 (w.heap.size + 1 + 1 + 1) _ _ _ rfl rfl rfl
    have fG1_3_0 := HG1w5.out.frozen 3 0 (w.heap.size + 1 + 1 + 1) _ _ rfl rfl
    have cG1_3_1 := HG1w5.out.cell 3 1 (w.heap.size + 1 + 1 + 1) _ _ _ rfl rfl rfl
    have fG1_3_1 := HG1w5.out.frozen 3 1 (w.heap.size + 1 + 1 + 1) _ _ rfl rfl
    have cG1_3_2 := HG1w5.out.cell 3 2 (w.heap.size + 1 + 1 + 1) _ _ _ rfl rfl rfl
    have fG1_3_2 := HG1w5.out.frozen 3 2 (w.heap.size + 1 + 1 + 1) _ _ rfl rfl
    have cG1_3_3 := HG1w5.out.cell 3 3 (w.heap.size + 1 + 1 + 1) _ _ _ rfl rfl rfl
    have fG1_3_3 := HG1w5.out.frozen 3 3 (w.heap.size + 1 + 1 + 1) _ _ rfl rfl
    have cG1_3_4 := HG1w5.out.cell 3 4 (w.heap.size + 1 + 1 + 1) _ _ _ rfl rfl rfl
    have fG1_3_4 := HG1w5.out.frozen 3 4 (w.heap.size + 1 + 1 + 1) _ _ rfl rfl
    have lG1_4 := HG1w5.out.lt 4 (w.heap.size + 1 + 1 + 1 + 1) (by simp) rfl
    have cG1_4_0 := HG1w5.out.cell 4 0 (w.heap.size + 1 + 1 + 1 + 1) _ _ _ rfl rfl rfl
    have cG1_4_1 := HG1w5.out.cell 4 1 (w.heap.size + 1 + 1 + 1 + 1) _ _ _ rfl rfl rfl
    have cG1_4_2 := HG1w5.out.cell 4 2 (w.heap.size + 1 + 1 + 1 + 1) _ _ _ rfl rfl rfl
    have cG1_4_3 := HG1w5.out.cell 4 3 (w.heap.size + 1 + 1 + 1 + 1) _ _ _ rfl rfl rfl
    have cG1_4_4 := HG1w5.out.cell 4 4 (w.heap.size + 1 + 1 + 1 + 1) _ _ _ rfl rfl rfl
    have cG1_4_5 := HG1w5.out.cell 4 5 (w.heap.size + 1 + 1 + 1 + 1) _ _ _ rfl rfl rfl
    have cG1_4_6 := HG1w5.out.cell 4 6 (w.heap.size + 1 + 1 + 1 + 1) _ _ _ rfl rfl rfl
    have cG1_4_7 := HG1w5.out.cell 4 7 (w.heap.size + 1 + 1 + 1 + 1) _ _ _ rfl rfl rfl
    go_wp2_with fail
    clear lG1_1 cG1_1_0 cG1_1_1 cG1_1_2 cG1_1_3 cG1_1_4 cG1_1_5 lG1_2 cG1_2_0 fG1_2_0 cG1_2_1 fG1_2_1 cG1_2_2 fG1_2_2 cG1_2_3 fG1_2_3 cG1_2_4 fG1_2_4 cG1_2_5 fG1_2_5 cG1_2_6 fG1_2_6 cG1_2_7 fG1_2_7 lG1_3 cG1_3_0 fG1_3_0 cG1_3_1 fG1_3_1 cG1_3_2 fG1_3_2 cG1_3_3 fG1_3_3 cG1_3_4 fG1_3_4 lG1_4 cG1_4_0 cG1_4_1 cG1_4_2 cG1_4_3 cG1_4_4 cG1_4_5 cG1_4_6 cG1_4_7
    have HQ := hide ((Blks.nil w5).more (.cells #[.int .i64 ti, .int .i64 i, .int .i64 (s + 1), .int .i64 m, .int .i64 z] 35) (by simp))
    have HG1w5sz := HG1w5.out.2.1
    simp only [List.length_append, List.length_cons, List.length_nil] at HG1w5sz
    have HGa : Hid (Blks w _ [.cells #[.int .i64 i, .int .i64 z, .int .i64 s, .slice oa P.length ca, .int .i64 v, .slice od D.length cd, .int .i64 l, .int .i64 u] 29, .cells #[.int .i64 ti, .int .i64 k, .int .i64 f, .int .i64 t, .int .i64 y, .int .i64 r] 39, .cells #[.int .i64 0, .int .i64 0, .int .i64 0, .slice none 0 0, .int .i64 0, .slice none 0 0, .int .i64 0, .int .i64 0] 29, .cells #[.int .i64 0, .int .i64 0, .int .i64 0, .int .i64 0, .int .i64 0] 35, .cells #[.int .i64 i, .int .i64 z, .int .i64 s, .slice oa P.length ca, .int .i64 v, .slice od D.length cd, .int .i64 l, .int .i64 u] 48]) := hide ((HG1w5.out.on HQ.out.2.2).on (Below.refl _ _).drew)
    have hQx := HQ.out.on (Below.refl _ _).drew
    have HQa : Hid (Tap5 (w5.alloc (.cells #[.int .i64 ti, .int .i64 i, .int .i64 (s + 1), .int .i64 m, .int .i64 z] 35)).drew ⟨w5.heap.size, 0, none⟩ ⟨ti, i, s + 1, m, z⟩) := hide ⟨hQx.cell 0 0 w5.heap.size _ _ _ rfl rfl rfl, hQx.cell 0 1 w5.heap.size _ _ _ rfl rfl rfl, hQx.cell 0 2 w5.heap.size _ _ _ rfl rfl rfl, hQx.cell 0 3 w5.heap.size _ _ _ rfl rfl rfl, hQx.cell 0 4 w5.heap.size _ _ _ rfl rfl rfl⟩
    clear hQx
    clear HU HS HN HF HX
    refine wp_region_reads (fun w' => (∃ oo2 oo3, Blks w w' [.cells #[.int .i64 i, .int .i64 z, .int .i64 s, .slice oa P.length ca, .int .i64 v, .slice od D.length cd, .int .i64 l, .int .i64 u] 29, .cells #[.int .i64 ti, .int .i64 k, .int .i64 f, .int .i64 t, .int .i64 y, .int .i64 r] 39, oo2, oo3, .cells #[.int .i64 i, .int .i64 z, .int .i64 s, .slice oa P.length ca, .int .i64 v, .slice od D.length cd, .int .i64 l, .int .i64 u] 48]) ∧ Tap5 w' ⟨w5.heap.size, 0, none⟩ ⟨ti, i, s + 1, m, z⟩) [0, 1, 3] 4 (by rfl) (by kernel_rfl) (by kernel_rfl) (by kernel_rfl) (fun c d v a w h => by cases d <;> exact h) ?_ ?_
    · exact ⟨⟨_, _, HGa.out⟩, HQa.out⟩
    refine wpPureH_step (gtV i z s oa P.length ca v od D.length cd l u) rfl rfl (fun w' hS => ?_) ?_
    · obtain ⟨⟨oo2, oo3, hS1⟩, hS2⟩ := hS
      have k0 := hS1.cell 4 0 (w.heap.size + 1 + 1 + 1 + 1) _ _ _ rfl rfl rfl
      have k1 := hS1.cell 4 1 (w.heap.size + 1 + 1 + 1 + 1) _ _ _ rfl rfl rfl
      have k2 := hS1.cell 4 2 (w.heap.size + 1 + 1 + 1 + 1) _ _ _ rfl rfl rfl
      have k3 := hS1.cell 4 3 (w.heap.size + 1 + 1 + 1 + 1) _ _ _ rfl rfl rfl
      have k4 := hS1.cell 4 4 (w.heap.size + 1 + 1 + 1 + 1) _ _ _ rfl rfl rfl
      have k5 := hS1.cell 4 5 (w.heap.size + 1 + 1 + 1 + 1) _ _ _ rfl rfl rfl
      have k6 := hS1.cell 4 6 (w.heap.size + 1 + 1 + 1 + 1) _ _ _ rfl rfl rfl
      have k7 := hS1.cell 4 7 (w.heap.size + 1 + 1 + 1 + 1) _ _ _ rfl rfl rfl
      obtain ⟨q0, q1, q2, q3, q4⟩ := hS2
      simp only [Nat.zero_add] at q0 q1 q2 q3 q4
      go_simp
    refine wpPureH_step (tp ti i (s + 1) m z) rfl rfl (fun w' hS => ?_) ?_
    · obtain ⟨⟨oo2, oo3, hS1⟩, hS2⟩ := hS
      have k0 := hS1.cell 4 0 (w.heap.size + 1 + 1 + 1 + 1) _ _ _ rfl rfl rfl
      have k1 := hS1.cell 4 1 (w.heap.size + 1 + 1 + 1 + 1) _ _ _ rfl rfl rfl
      have k2 := hS1.cell 4 2 (w.heap.size + 1 + 1 + 1 + 1) _ _ _ rfl rfl rfl
      have k3 := hS1.cell 4 3 (w.heap.size + 1 + 1 + 1 + 1) _ _ _ rfl rfl rfl
      have k4 := hS1.cell 4 4 (w.heap.size + 1 + 1 + 1 + 1) _ _ _ rfl rfl rfl
      have k5 := hS1.cell 4 5 (w.heap.size + 1 + 1 + 1 + 1) _ _ _ rfl rfl rfl
      have k6 := hS1.cell 4 6 (w.heap.size + 1 + 1 + 1 + 1) _ _ _ rfl rfl rfl
      have k7 := hS1.cell 4 7 (w.heap.size + 1 + 1 + 1 + 1) _ _ _ rfl rfl rfl
      obtain ⟨q0, q1, q2, q3, q4⟩ := hS2
      simp only [Nat.zero_add] at q0 q1 q2 q3 q4
      go_simp
    refine wpPureH_step (tp ti i (s + 1) m z) rfl rfl (fun w' hS => ?_) ?_
    · obtain ⟨⟨oo2, oo3, hS1⟩, hS2⟩ := hS
      have k0 := hS1.cell 4 0 (w.heap.size + 1 + 1 + 1 + 1) _ _ _ rfl rfl rfl
      have k1 := hS1.cell 4 1 (w.heap.size + 1 + 1 + 1 + 1) _ _ _ rfl rfl rfl
      have k2 := hS1.cell 4 2 (w.heap.size + 1 + 1 + 1 + 1) _ _ _ rfl rfl rfl
      have k3 := hS1.cell 4 3 (w.heap.size + 1 + 1 + 1 + 1) _ _ _ rfl rfl rfl
      have k4 := hS1.cell 4 4 (w.heap.size + 1 + 1 + 1 + 1) _ _ _ rfl rfl rfl
      have k5 := hS1.cell 4 5 (w.heap.size + 1 + 1 + 1 + 1) _ _ _ rfl rfl rfl
      have k6 := hS1.cell 4 6 (w.heap.size + 1 + 1 + 1 + 1) _ _ _ rfl rfl rfl
      have k7 := hS1.cell 4 7 (w.heap.size + 1 + 1 + 1 + 1) _ _ _ rfl rfl rfl
      obtain ⟨q0, q1, q2, q3, q4⟩ := hS2
      simp only [Nat.zero_add] at q0 q1 q2 q3 q4
      go_simp
    refine wpPureH_nil ?_
    clear HG1w5 HQ
    generalize World.drew _ = wa at *
    refine one_readyH (i := 2) (by kernel_rfl) rfl rfl (fun K hK => ?_)
    go_simp
    refine (HW.out wa (HP.out.below HGa.out.2.2) (HD.out.below HGa.out.2.2)).mono ?_
    rintro e wb ⟨⟨x, rfl, ⟨o1, c1, o2, c2, rfl, hT, hfT, hI, hfI⟩⟩, hb⟩
    have HGb : Hid (Blks w wb [.cells #[.int .i64 i, .int .i64 z, .int .i64 s, .slice oa P.length ca, .int .i64 v, .slice od D.length cd, .int .i64 l, .int .i64 u] 29, .cells #[.int .i64 ti, .int .i64 k, .int .i64 f, .int .i64 t, .int .i64 y, .int .i64 r] 39, .cells #[.int .i64 0, .int .i64 0, .int .i64 0, .slice none 0 0, .int .i64 0, .slice none 0 0, .int .i64 0, .int .i64 0] 29, .cells #[.int .i64 0, .int .i64 0, .int .i64 0, .int .i64 0, .int .i64 0] 35, .cells #[.int .i64 i, .int .i64 z, .int .i64 s, .slice oa P.length ca, .int .i64 v, .slice od D.length cd, .int .i64 l, .int .i64 u] 48]) := hide (HGa.out.on hb)
    have HQb := hide (HQa.out.below hb HQa.out.lt)
    have hsz := HGa.out.2.1
    simp only [List.length_cons, List.length_nil] at hsz
    have HT := hide (And.intro hT (hfT.monoD (show w.heap.size + 1 + 1 + 1 + 1 + 1 ≤ wa.heap.size by omega)))
    have HI := hide (And.intro hI (hfI.monoD (show w.heap.size + 1 + 1 + 1 + 1 + 1 ≤ wa.heap.size by omega)))
    have hsq : w.heap.size + 1 + 1 + 1 + 1 + 1 ≤ w5.heap.size := by have := HG1w5sz; omega
    clear hb hT hfT hI hfI HGa HQa hsz
    refine hK _ _ ⟨⟨_, _, HGb.out⟩, HQb.out⟩ ?_
    clear hK K
    have r0 := HGb.out.cell 2 0 (w.heap.size + 1 + 1) _ _ _ rfl rfl rfl
    have f0 := HGb.out.frozen 2 0 (w.heap.size + 1 + 1) _ _ rfl rfl
    have r1 := HGb.out.cell 2 1 (w.heap.size + 1 + 1) _ _ _ rfl rfl rfl
    have f1 := HGb.out.frozen 2 1 (w.heap.size + 1 + 1) _ _ rfl rfl
    have r2 := HGb.out.cell 2 2 (w.heap.size + 1 + 1) _ _ _ rfl rfl rfl
    have f2 := HGb.out.frozen 2 2 (w.heap.size + 1 + 1) _ _ rfl rfl
    have r3 := HGb.out.cell 2 3 (w.heap.size + 1 + 1) _ _ _ rfl rfl rfl
    have f3 := HGb.out.frozen 2 3 (w.heap.size + 1 + 1) _ _ rfl rfl
    have r4 := HGb.out.cell 2 4 (w.heap.size + 1 + 1) _ _ _ rfl rfl rfl
    have f4 := HGb.out.frozen 2 4 (w.heap.size + 1 + 1) _ _ rfl rfl
    have r5 := HGb.out.cell 2 5 (w.heap.size + 1 + 1) _ _ _ rfl rfl rfl
    have f5 := HGb.out.frozen 2 5 (w.heap.size + 1 + 1) _ _ rfl rfl
    have r6 := HGb.out.cell 2 6 (w.heap.size + 1 + 1) _ _ _ rfl rfl rfl
    have f6 := HGb.out.frozen 2 6 (w.heap.size + 1 + 1) _ _ rfl rfl
    have r7 := HGb.out.cell 2 7 (w.heap.size + 1 + 1) _ _ _ rfl rfl rfl
    have f7 := HGb.out.frozen 2 7 (w.heap.size + 1 + 1) _ _ rfl rfl
    refine one_readyH (i := 4) (by kernel_rfl) rfl rfl (fun K hK => ?_)
    go_simp
    have HGc : Hid (Blks w ((((((((wb.setCell ⟨w.heap.size + 1 + 1, 0, none⟩ (.int .i64 i)).setCell ⟨w.heap.size + 1 + 1, 1, none⟩ (.int .i64 z)).setCell ⟨w.heap.size + 1 + 1, 2, none⟩ (.int .i64 (s + 1))).setCell ⟨w.heap.size + 1 + 1, 3, none⟩ (.slice o1 M.length c1)).setCell ⟨w.heap.size + 1 + 1, 4, none⟩ (.int .i64 v)).setCell ⟨w.heap.size + 1 + 1, 5, none⟩ (.slice o2 D.length c2)).setCell ⟨w.heap.size + 1 + 1, 6, none⟩ (.int .i64 (l - 1))).setCell ⟨w.heap.size + 1 + 1, 7, none⟩ (.int .i64 u)) [.cells #[.int .i64 i, .int .i64 z, .int .i64 s, .slice oa P.length ca, .int .i64 v, .slice od D.length cd, .int .i64 l, .int .i64 u] 29, .cells #[.int .i64 ti, .int .i64 k, .int .i64 f, .int .i64 t, .int .i64 y, .int .i64 r] 39, .cells #[.int .i64 i, .int .i64 z, .int .i64 (s + 1), .slice o1 M.length c1, .int .i64 v, .slice o2 D.length c2, .int .i64 (l - 1), .int .i64 u] 29, .cells #[.int .i64 0, .int .i64 0, .int .i64 0, .int .i64 0, .int .i64 0] 35, .cells #[.int .i64 i, .int .i64 z, .int .i64 s, .slice oa P.length ca, .int .i64 v, .slice od D.length cd, .int .i64 l, .int .i64 u] 48]) := hide (HGb.out.put8 2 (w.heap.size + 1 + 1) _ _ _ _ _ _ _ _ (.int .i64 i) (.int .i64 z) (.int .i64 (s + 1)) (.slice o1 M.length c1) (.int .i64 v) (.slice o2 D.length c2) (.int .i64 (l - 1)) (.int .i64 u) _ rfl rfl)
    have HTc : Hid (TapsV ((((((((wb.setCell ⟨w.heap.size + 1 + 1, 0, none⟩ (.int .i64 i)).setCell ⟨w.heap.size + 1 + 1, 1, none⟩ (.int .i64 z)).setCell ⟨w.heap.size + 1 + 1, 2, none⟩ (.int .i64 (s + 1))).setCell ⟨w.heap.size + 1 + 1, 3, none⟩ (.slice o1 M.length c1)).setCell ⟨w.heap.size + 1 + 1, 4, none⟩ (.int .i64 v)).setCell ⟨w.heap.size + 1 + 1, 5, none⟩ (.slice o2 D.length c2)).setCell ⟨w.heap.size + 1 + 1, 6, none⟩ (.int .i64 (l - 1))).setCell ⟨w.heap.size + 1 + 1, 7, none⟩ (.int .i64 u)) (.slice o1 M.length c1) M) := by
      refine hide ?_
      repeat (first | with_reducible exact HT.out.1 | with_reducible refine TapsV.setD ?_ HT.out.2 (by simp; try omega) _)
    have HIc : Hid (IntsV ((((((((wb.setCell ⟨w.heap.size + 1 + 1, 0, none⟩ (.int .i64 i)).setCell ⟨w.heap.size + 1 + 1, 1, none⟩ (.int .i64 z)).setCell ⟨w.heap.size + 1 + 1, 2, none⟩ (.int .i64 (s + 1))).setCell ⟨w.heap.size + 1 + 1, 3, none⟩ (.slice o1 M.length c1)).setCell ⟨w.heap.size + 1 + 1, 4, none⟩ (.int .i64 v)).setCell ⟨w.heap.size + 1 + 1, 5, none⟩ (.slice o2 D.length c2)).setCell ⟨w.heap.size + 1 + 1, 6, none⟩ (.int .i64 (l - 1))).setCell ⟨w.heap.size + 1 + 1, 7, none⟩ (.int .i64 u)) (.slice o2 D.length c2) D) := by
      refine hide ?_
      repeat (first | with_reducible exact HI.out.1 | with_reducible refine IntsV.setD ?_ HI.out.2 (by simp; try omega) _)
    have HQc : Hid (Tap5 ((((((((wb.setCell ⟨w.heap.size + 1 + 1, 0, none⟩ (.int .i64 i)).setCell ⟨w.heap.size + 1 + 1, 1, none⟩ (.int .i64 z)).setCell ⟨w.heap.size + 1 + 1, 2, none⟩ (.int .i64 (s + 1))).setCell ⟨w.heap.size + 1 + 1, 3, none⟩ (.slice o1 M.length c1)).setCell ⟨w.heap.size + 1 + 1, 4, none⟩ (.int .i64 v)).setCell ⟨w.heap.size + 1 + 1, 5, none⟩ (.slice o2 D.length c2)).setCell ⟨w.heap.size + 1 + 1, 6, none⟩ (.int .i64 (l - 1))).setCell ⟨w.heap.size + 1 + 1, 7, none⟩ (.int .i64 u)) ⟨w5.heap.size, 0, none⟩ ⟨ti, i, s + 1, m, z⟩) := by
      refine hide ?_
      repeat (first | with_reducible exact HQb.out | with_reducible refine Tap5.setne ?_ _ (by simp; omega) _)
    refine hK _ _ ⟨⟨_, _, HGc.out⟩, HQc.out⟩ ?_
    clear hK K HGb HQb r0 f0 r1 f1 r2 f2 r3 f3 r4 f4 r5 f5 r6 f6 r7 f7
    generalize ((((((((wb.setCell ⟨w.heap.size + 1 + 1, 0, none⟩ (.int .i64 i)).setCell ⟨w.heap.size + 1 + 1, 1, none⟩ (.int .i64 z)).setCell ⟨w.heap.size + 1 + 1, 2, none⟩ (.int .i64 (s + 1))).setCell ⟨w.heap.size + 1 + 1, 3, none⟩ (.slice o1 M.length c1)).setCell ⟨w.heap.size + 1 + 1, 4, none⟩ (.int .i64 v)).setCell ⟨w.heap.size + 1 + 1, 5, none⟩ (.slice o2 D.length c2)).setCell ⟨w.heap.size + 1 + 1, 6, none⟩ (.int .i64 (l - 1))).setCell ⟨w.heap.size + 1 + 1, 7, none⟩ (.int .i64 u)) = wc at *
    have r0 := HGc.out.cell 3 0 (w.heap.size + 1 + 1 + 1) _ _ _ rfl rfl rfl
    have f0 := HGc.out.frozen 3 0 (w.heap.size + 1 + 1 + 1) _ _ rfl rfl
    have r1 := HGc.out.cell 3 1 (w.heap.size + 1 + 1 + 1) _ _ _ rfl rfl rfl
    have f1 := HGc.out.frozen 3 1 (w.heap.size + 1 + 1 + 1) _ _ rfl rfl
    have r2 := HGc.out.cell 3 2 (w.heap.size + 1 + 1 + 1) _ _ _ rfl rfl rfl
    have f2 := HGc.out.frozen 3 2 (w.heap.size + 1 + 1 + 1) _ _ rfl rfl
    have r3 := HGc.out.cell 3 3 (w.heap.size + 1 + 1 + 1) _ _ _ rfl rfl rfl
    have f3 := HGc.out.frozen 3 3 (w.heap.size + 1 + 1 + 1) _ _ rfl rfl
    have r4 := HGc.out.cell 3 4 (w.heap.size + 1 + 1 + 1) _ _ _ rfl rfl rfl
    have f4 := HGc.out.frozen 3 4 (w.heap.size + 1 + 1 + 1) _ _ rfl rfl
    refine one_readyH (i := 5) (by kernel_rfl) rfl rfl (fun K hK => ?_)
    go_simp
    have HGd : Hid (Blks w (((((wc.setCell ⟨w.heap.size + 1 + 1 + 1, 0, none⟩ (.int .i64 ti)).setCell ⟨w.heap.size + 1 + 1 + 1, 1, none⟩ (.int .i64 i)).setCell ⟨w.heap.size + 1 + 1 + 1, 2, none⟩ (.int .i64 (s + 1))).setCell ⟨w.heap.size + 1 + 1 + 1, 3, none⟩ (.int .i64 m)).setCell ⟨w.heap.size + 1 + 1 + 1, 4, none⟩ (.int .i64 z)) [.cells #[.int .i64 i, .int .i64 z, .int .i64 s, .slice oa P.length ca, .int .i64 v, .slice od D.length cd, .int .i64 l, .int .i64 u] 29, .cells #[.int .i64 ti, .int .i64 k, .int .i64 f, .int .i64 t, .int .i64 y, .int .i64 r] 39, .cells #[.int .i64 i, .int .i64 z, .int .i64 (s + 1), .slice o1 M.length c1, .int .i64 v, .slice o2 D.length c2, .int .i64 (l - 1), .int .i64 u] 29, .cells #[.int .i64 ti, .int .i64 i, .int .i64 (s + 1), .int .i64 m, .int .i64 z] 35, .cells #[.int .i64 i, .int .i64 z, .int .i64 s, .slice oa P.length ca, .int .i64 v, .slice od D.length cd, .int .i64 l, .int .i64 u] 48]) := hide (HGc.out.put5 3 (w.heap.size + 1 + 1 + 1) _ _ _ _ _ (.int .i64 ti) (.int .i64 i) (.int .i64 (s + 1)) (.int .i64 m) (.int .i64 z) _ rfl rfl)
    have HTd : Hid (TapsV (((((wc.setCell ⟨w.heap.size + 1 + 1 + 1, 0, none⟩ (.int .i64 ti)).setCell ⟨w.heap.size + 1 + 1 + 1, 1, none⟩ (.int .i64 i)).setCell ⟨w.heap.size + 1 + 1 + 1, 2, none⟩ (.int .i64 (s + 1))).setCell ⟨w.heap.size + 1 + 1 + 1, 3, none⟩ (.int .i64 m)).setCell ⟨w.heap.size + 1 + 1 + 1, 4, none⟩ (.int .i64 z)) (.slice o1 M.length c1) M) := by
      refine hide ?_
      repeat (first | with_reducible exact HTc.out | with_reducible refine TapsV.setD ?_ HT.out.2 (by simp; try omega) _)
    have HId : Hid (IntsV (((((wc.setCell ⟨w.heap.size + 1 + 1 + 1, 0, none⟩ (.int .i64 ti)).setCell ⟨w.heap.size + 1 + 1 + 1, 1, none⟩ (.int .i64 i)).setCell ⟨w.heap.size + 1 + 1 + 1, 2, none⟩ (.int .i64 (s + 1))).setCell ⟨w.heap.size + 1 + 1 + 1, 3, none⟩ (.int .i64 m)).setCell ⟨w.heap.size + 1 + 1 + 1, 4, none⟩ (.int .i64 z)) (.slice o2 D.length c2) D) := by
      refine hide ?_
      repeat (first | with_reducible exact HIc.out | with_reducible refine IntsV.setD ?_ HI.out.2 (by simp; try omega) _)
    have HQd : Hid (Tap5 (((((wc.setCell ⟨w.heap.size + 1 + 1 + 1, 0, none⟩ (.int .i64 ti)).setCell ⟨w.heap.size + 1 + 1 + 1, 1, none⟩ (.int .i64 i)).setCell ⟨w.heap.size + 1 + 1 + 1, 2, none⟩ (.int .i64 (s + 1))).setCell ⟨w.heap.size + 1 + 1 + 1, 3, none⟩ (.int .i64 m)).setCell ⟨w.heap.size + 1 + 1 + 1, 4, none⟩ (.int .i64 z)) ⟨w5.heap.size, 0, none⟩ ⟨ti, i, s + 1, m, z⟩) := by
      refine hide ?_
      repeat (first | with_reducible exact HQc.out | with_reducible refine Tap5.setne ?_ _ (by simp; omega) _)
    refine hK _ _ ⟨⟨_, _, HGd.out⟩, HQd.out⟩ ?_
    clear hK K HGc HQc HTc HIc r0 f0 r1 f1 r2 f2 r3 f3 r4 f4
    generalize (((((wc.setCell ⟨w.heap.size + 1 + 1 + 1, 0, none⟩ (.int .i64 ti)).setCell ⟨w.heap.size + 1 + 1 + 1, 1, none⟩ (.int .i64 i)).setCell ⟨w.heap.size + 1 + 1 + 1, 2, none⟩ (.int .i64 (s + 1))).setCell ⟨w.heap.size + 1 + 1 + 1, 3, none⟩ (.int .i64 m)).setCell ⟨w.heap.size + 1 + 1 + 1, 4, none⟩ (.int .i64 z)) = wd at *
    refine one_readyH (i := 6) (by kernel_rfl) rfl rfl (fun K hK => ?_)
    go_simp
    refine hK _ _ ⟨⟨_, _, HGd.out⟩, HQd.out⟩ ?_
    clear hK K
    refine wpAnyH_done (by kernel_rfl) ?_ _
    have g0 := HGd.out.cell 2 0 (w.heap.size + 1 + 1) _ _ _ rfl rfl rfl
    have g1 := HGd.out.cell 2 1 (w.heap.size + 1 + 1) _ _ _ rfl rfl rfl
    have g2 := HGd.out.cell 2 2 (w.heap.size + 1 + 1) _ _ _ rfl rfl rfl
    have g3 := HGd.out.cell 2 3 (w.heap.size + 1 + 1) _ _ _ rfl rfl rfl
    have g4 := HGd.out.cell 2 4 (w.heap.size + 1 + 1) _ _ _ rfl rfl rfl
    have g5 := HGd.out.cell 2 5 (w.heap.size + 1 + 1) _ _ _ rfl rfl rfl
    have g6 := HGd.out.cell 2 6 (w.heap.size + 1 + 1) _ _ _ rfl rfl rfl
    have g7 := HGd.out.cell 2 7 (w.heap.size + 1 + 1) _ _ _ rfl rfl rfl
    have h0 := HGd.out.cell 3 0 (w.heap.size + 1 + 1 + 1) _ _ _ rfl rfl rfl
    have h1 := HGd.out.cell 3 1 (w.heap.size + 1 + 1 + 1) _ _ _ rfl rfl rfl
    have h2 := HGd.out.cell 3 2 (w.heap.size + 1 + 1 + 1) _ _ _ rfl rfl rfl
    have h3 := HGd.out.cell 3 3 (w.heap.size + 1 + 1 + 1) _ _ _ rfl rfl rfl
    have h4 := HGd.out.cell 3 4 (w.heap.size + 1 + 1 + 1) _ _ _ rfl rfl rfl
    go_wp2_with fail
    refine bodyPost_ret (v := .tuple #[gtV i z (s + 1) o1 M.length c1 v o2 D.length c2 (l - 1) u, tp ti i (s + 1) m z, .int .i64 0]) (by simp [results, Try.results6, go_sem, *]) rfl ⟨⟨_, rfl, ⟨o1, c1, o2, c2, rfl, HTd.out, HT.out.2.monoD (by omega), HId.out, HI.out.2.monoD (by omega)⟩⟩, HGd.out.2.2⟩
end Go.Proofs.Ytlnmheooicancaa
