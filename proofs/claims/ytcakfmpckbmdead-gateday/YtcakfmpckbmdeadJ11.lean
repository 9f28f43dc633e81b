/-
  The walk of GateDay.
-/
import Derived.Test.YtcakfmpckbmdeadJ9
import Derived.Test.YtcakfmpckbmdeadJ10
namespace Go.Proofs.Ytcakfmpckbmdead
open Go.RowKit

set_option maxHeartbeats 3200000 in
theorem gateDay_walk (i z s : Int) (oa : Option Addr) (P : List TP) (ca : Nat) (v : Int) (od : Option Addr) (D : List Int) (cd : Nat) (l u : Int) (ti k f t y r m : Int) (w : World) (ha : TapsOk w oa P ca) (hd : IntsOk w od D cd) :
    Calls Try.prog 5 #[gtV i z s oa P.length ca v od D.length cd l u, tk ti k f t y r, .int .i64 m] w fun e w' => e = .returned (.bool true) ∧ Below w.heap.size w w' := by
  obtain ⟨hP, hlP, hcP, hnP⟩ := ha
  obtain ⟨hD, hlD, hcD, hnD⟩ := hd
  have HP := hide hP
  have HD := hide hD
  clear hcP hcD hnD hP hD
  by_cases hE : tapG i z s P v D l u ⟨ti, k, f, t, y, r⟩ m = 0
  · have HT := hide (fun W (h : TapsAt W oa P) (h' : IntsAt W od D) => gateTap_ok i z s oa P ca v od D cd l u ti k f t y r m W h h' hlP hlD hnP hE)
    have hA := tapG_again hE
    simp only [] at hA
    have hl12 : P.length ≤ 12 := (errS_right (chkG_right (unfG_right (tapG_right hE).1).1).1).2.2.2
    have hlM : (P ++ [(⟨ti, i, s + 1, m, z⟩ : TP)]).length ≤ 9223372036854775807 := by simp; omega
    have HT2 := hide (fun W oa ca od cd (h : TapsAt W oa (P ++ [(⟨ti, i, s + 1, m, z⟩ : TP)])) (h' : IntsAt W od D) hn h0 => gateTap_ok i z (s + 1) oa (P ++ [(⟨ti, i, s + 1, m, z⟩ : TP)]) ca v od D cd (l - 1) u ti k f t y r m W h h' hlM hlD hn h0)
    have HT3 := hide (fun W oa ca od cd (h : TapsAt W oa (P ++ [(⟨ti, i, s + 1, m, z⟩ : TP)])) (h' : IntsAt W od D) h0 => gateTap_err i z (s + 1) oa (P ++ [(⟨ti, i, s + 1, m, z⟩ : TP)]) ca v od D cd (l - 1) u ti k f t y r m W h h' hlM hlD h0)
    generalize hM : P ++ [(⟨ti, i, s + 1, m, z⟩ : TP)] = M at *
    clear hM hE hlM hlP hlD hnP hl12
    have hp : (l - 1 == 0) = true ∧ tapG i z (s + 1) M v D (l - 1) u ⟨ti, k, f, t, y, r⟩ m = 10 ∨ (l - 1 == 0) = false ∧ (k != 2) = true ∧ tapG i z (s + 1) M v D (l - 1) u ⟨ti, k, f, t, y, r⟩ m = 10 ∨ (l - 1 == 0) = false ∧ (k != 2) = false ∧ tapG i z (s + 1) M v D (l - 1) u ⟨ti, k, f, t, y, r⟩ m = 2 ∨ (l - 1 == 0) = false ∧ (k != 2) = false ∧ tapG i z (s + 1) M v D (l - 1) u ⟨ti, k, f, t, y, r⟩ m = 0 := by
      rw [hA]
      by_cases h1 : l - 1 = 0
      · left; exact ⟨by simpa using h1, if_pos (Or.inl h1)⟩
      · right
        have h1' : (l - 1 == 0) = false := by simpa using h1
        by_cases h2 : k = 2
        · right
          have h2' : (k != 2) = false := by simpa using h2
          rw [if_neg (by omega)]
          by_cases h3 : P.length = 11 ∨ s = 98
          · left; exact ⟨h1', h2', if_pos h3⟩
          · right; exact ⟨h1', h2', if_neg h3⟩
        · left
          exact ⟨h1', by simpa using h2, if_pos (Or.inr h2)⟩
    clear hA
    generalize hX : tapG i z (s + 1) M v D (l - 1) u ⟨ti, k, f, t, y, r⟩ m = X at *
    clear hX
    rcases hp with ⟨h1, rfl⟩ | ⟨h1, h2, rfl⟩ | ⟨h1, h2, rfl⟩ | ⟨h1, h2, rfl⟩
    all_goals
      go_enter Try.func5, Try.ntmps5
      go_wp2_with fail
      have HG1 := hide (((Blks.nil w).more (.cells #[.int .i64 i, .int .i64 z, .int .i64 s, .slice oa P.length ca, .int .i64 v, .slice od D.length cd, .int .i64 l, .int .i64 u] 29) (by simp)).more (.cells #[.int .i64 ti, .int .i64 k, .int .i64 f, .int .i64 t, .int .i64 y, .int .i64 r] 39) (by simp))
      refine (HT.out _ (HP.out.below HG1.out.2.2) (HD.out.below HG1.out.2.2)).mono ?_
      rintro e w1 ⟨⟨x, rfl, ⟨o1, c1, o2, c2, rfl, ⟨o1', c1', e1, hT⟩, -, ⟨o2', c2', e2, hI⟩, -⟩⟩, hb⟩
      have HG1w1 := hide (HG1.out.on hb)
      simp only [Value.slice.injEq] at e1 e2
      obtain ⟨rfl, -, rfl⟩ := e1
      obtain ⟨rfl, -, rfl⟩ := e2
      have HT1 := hide hT
      have HI1 := hide hI
      clear hT hI
      clear hb HG1
      have lG1_0 := HG1w1.out.lt 0 w.heap.size (by simp) rfl
      have cG1_0_0 := HG1w1.out.cell 0 0 w.heap.size _ _ _ rfl rfl rfl
      have cG1_0_1 := HG1w1.out.cell 0 1 w.heap.size _ _ _ rfl rfl rfl
      have cG1_0_2 := HG1w1.out.cell 0 2 w.heap.size _ _ _ rfl rfl rfl
      have cG1_0_3 := HG1w1.out.cell 0 3 w.heap.size _ _ _ rfl rfl rfl
      have cG1_0_4 := HG1w1.out.cell 0 4 w.heap.size _ _ _ rfl rfl rfl
      have cG1_0_5 := HG1w1.out.cell 0 5 w.heap.size _ _ _ rfl rfl rfl
      have cG1_0_6 := HG1w1.out.cell 0 6 w.heap.size _ _ _ rfl rfl rfl
      have cG1_0_7 := HG1w1.out.cell 0 7 w.heap.size _ _ _ rfl rfl rfl
      have lG1_1 := HG1w1.out.lt 1 (w.heap.size + 1) (by simp) rfl
      have cG1_1_0 := HG1w1.out.cell 1 0 (w.heap.size + 1) _ _ _ rfl rfl rfl
      have cG1_1_1 := HG1w1.out.cell 1 1 (w.heap.size + 1) _ _ _ rfl rfl rfl
      have cG1_1_2 := HG1w1.out.cell 1 2 (w.heap.size + 1) _ _ _ rfl rfl rfl
      have cG1_1_3 := HG1w1.out.cell 1 3 (w.heap.size + 1) _ _ _ rfl rfl rfl
      have cG1_1_4 := HG1w1.out.cell 1 4 (w.heap.size + 1) _ _ _ rfl rfl rfl
      have cG1_1_5 := HG1w1.out.cell 1 5 (w.heap.size + 1) _ _ _ rfl rfl rfl
      go_wp2_with fail
      have HG2 := hide (((Blks.nil w1).more (.cells #[.int .i64 i, .int .i64 z, .int .i64 (s + 1), .slice o1 M.length c1, .int .i64 v, .slice o2 D.length c2, .int .i64 (l - 1), .int .i64 u] 29) (by simp)).more (.cells #[.int .i64 ti, .int .i64 i, .int .i64 (s + 1), .int .i64 m, .int .i64 z] 35) (by simp))
      refine (gateBegun_any _).mono ?_
      rintro e w2 ⟨rfl, hb⟩
      have HG2w2 := hide (HG2.out.on hb)
      have HG1w2 := hide (HG1w1.out.on HG2w2.out.2.2)
      clear lG1_0 cG1_0_0 cG1_0_1 cG1_0_2 cG1_0_3 cG1_0_4 cG1_0_5 cG1_0_6 cG1_0_7 lG1_1 cG1_1_0 cG1_1_1 cG1_1_2 cG1_1_3 cG1_1_4 cG1_1_5
      clear hb HG1w1 HG2
      have lG1_0 := HG1w2.out.lt 0 w.heap.size (by simp) rfl
      have cG1_0_0 := HG1w2.out.cell 0 0 w.heap.size _ _ _ rfl rfl rfl
      have cG1_0_1 := HG1w2.out.cell 0 1 w.heap.size _ _ _ rfl rfl rfl
      have cG1_0_2 := HG1w2.out.cell 0 2 w.heap.size _ _ _ rfl rfl rfl
      have cG1_0_3 := HG1w2.out.cell 0 3 w.heap.size _ _ _ rfl rfl rfl
      have cG1_0_4 := HG1w2.out.cell 0 4 w.heap.size _ _ _ rfl rfl rfl
      have cG1_0_5 := HG1w2.out.cell 0 5 w.heap.size _ _ _ rfl rfl rfl
      have cG1_0_6 := HG1w2.out.cell 0 6 w.heap.size _ _ _ rfl rfl rfl
      have cG1_0_7 := HG1w2.out.cell 0 7 w.heap.size _ _ _ rfl rfl rfl
      have lG1_1 := HG1w2.out.lt 1 (w.heap.size + 1) (by simp) rfl
      have cG1_1_0 := HG1w2.out.cell 1 0 (w.heap.size + 1) _ _ _ rfl rfl rfl
      have cG1_1_1 := HG1w2.out.cell 1 1 (w.heap.size + 1) _ _ _ rfl rfl rfl
      have cG1_1_2 := HG1w2.out.cell 1 2 (w.heap.size + 1) _ _ _ rfl rfl rfl
      have cG1_1_3 := HG1w2.out.cell 1 3 (w.heap.size + 1) _ _ _ rfl rfl rfl
      have cG1_1_4 := HG1w2.out.cell 1 4 (w.heap.size + 1) _ _ _ rfl rfl rfl
      have cG1_1_5 := HG1w2.out.cell 1 5 (w.heap.size + 1) _ _ _ rfl rfl rfl
      have lG2_0 := HG2w2.out.lt 0 w1.heap.size (by simp) rfl
      have cG2_0_0 := HG2w2.out.cell 0 0 w1.heap.size _ _ _ rfl rfl rfl
      have cG2_0_1 := HG2w2.out.cell 0 1 w1.heap.size _ _ _ rfl rfl rfl
      have cG2_0_2 := HG2w2.out.cell 0 2 w1.heap.size _ _ _ rfl rfl rfl
      have cG2_0_3 := HG2w2.out.cell 0 3 w1.heap.size _ _ _ rfl rfl rfl
      have cG2_0_4 := HG2w2.out.cell 0 4 w1.heap.size _ _ _ rfl rfl rfl
      have cG2_0_5 := HG2w2.out.cell 0 5 w1.heap.size _ _ _ rfl rfl rfl
      have cG2_0_6 := HG2w2.out.cell 0 6 w1.heap.size _ _ _ rfl rfl rfl
      have cG2_0_7 := HG2w2.out.cell 0 7 w1.heap.size _ _ _ rfl rfl rfl
      have lG2_1 := HG2w2.out.lt 1 (w1.heap.size + 1) (by simp) rfl
      have cG2_1_0 := HG2w2.out.cell 1 0 (w1.heap.size + 1) _ _ _ rfl rfl rfl
      have cG2_1_1 := HG2w2.out.cell 1 1 (w1.heap.size + 1) _ _ _ rfl rfl rfl
      have cG2_1_2 := HG2w2.out.cell 1 2 (w1.heap.size + 1) _ _ _ rfl rfl rfl
      have cG2_1_3 := HG2w2.out.cell 1 3 (w1.heap.size + 1) _ _ _ rfl rfl rfl
      have cG2_1_4 := HG2w2.out.cell 1 4 (w1.heap.size + 1) _ _ _ rfl rfl rfl
      go_wp2_with fail
    · refine (HT3.out _ o1 c1 o2 c2 (HT1.out.1.below HG2w2.out.2.2) (HI1.out.1.below HG2w2.out.2.2) (by decide)).mono ?_
      rintro e w3 ⟨rfl, hb⟩
      have HG1w3 := hide (HG1w2.out.on hb)
      have HG2w3 := hide (HG2w2.out.on hb)
      clear lG1_0 cG1_0_0 cG1_0_1 cG1_0_2 cG1_0_3 cG1_0_4 cG1_0_5 cG1_0_6 cG1_0_7 lG1_1 cG1_1_0 cG1_1_1 cG1_1_2 cG1_1_3 cG1_1_4 cG1_1_5 lG2_0 cG2_0_0 cG2_0_1 cG2_0_2 cG2_0_3 cG2_0_4 cG2_0_5 cG2_0_6 cG2_0_7 lG2_1 cG2_1_0 cG2_1_1 cG2_1_2 cG2_1_3 cG2_1_4
      clear hb HG1w2 HG2w2
      have lG1_0 := HG1w3.out.lt 0 w.heap.size (by simp) rfl
      have cG1_0_0 := HG1w3.out.cell 0 0 w.heap.size _ _ _ rfl rfl rfl
      have cG1_0_1 := HG1w3.out.cell 0 1 w.heap.size _ _ _ rfl rfl rfl
      have cG1_0_2 := HG1w3.out.cell 0 2 w.heap.size _ _ _ rfl rfl rfl
      have cG1_0_3 := HG1w3.out.cell 0 3 w.heap.size _ _ _ rfl rfl rfl
      have cG1_0_4 := HG1w3.out.cell 0 4 w.heap.size _ _ _ rfl rfl rfl
      have cG1_0_5 := HG1w3.out.cell 0 5 w.heap.size _ _ _ rfl rfl rfl
      have cG1_0_6 := HG1w3.out.cell 0 6 w.heap.size _ _ _ rfl rfl rfl
      have cG1_0_7 := HG1w3.out.cell 0 7 w.heap.size _ _ _ rfl rfl rfl
      have lG1_1 := HG1w3.out.lt 1 (w.heap.size + 1) (by simp) rfl
      have cG1_1_0 := HG1w3.out.cell 1 0 (w.heap.size + 1) _ _ _ rfl rfl rfl
      have cG1_1_1 := HG1w3.out.cell 1 1 (w.heap.size + 1) _ _ _ rfl rfl rfl
      have cG1_1_2 := HG1w3.out.cell 1 2 (w.heap.size + 1) _ _ _ rfl rfl rfl
      have cG1_1_3 := HG1w3.out.cell 1 3 (w.heap.size + 1) _ _ _ rfl rfl rfl
      have cG1_1_4 := HG1w3.out.cell 1 4 (w.heap.size + 1) _ _ _ rfl rfl rfl
      have cG1_1_5 := HG1w3.out.cell 1 5 (w.heap.size + 1) _ _ _ rfl rfl rfl
      have lG2_0 := HG2w3.out.lt 0 w1.heap.size (by simp) rfl
      have cG2_0_0 := HG2w3.out.cell 0 0 w1.heap.size _ _ _ rfl rfl rfl
      have cG2_0_1 := HG2w3.out.cell 0 1 w1.heap.size _ _ _ rfl rfl rfl
      have cG2_0_2 := HG2w3.out.cell 0 2 w1.heap.size _ _ _ rfl rfl rfl
      have cG2_0_3 := HG2w3.out.cell 0 3 w1.heap.size _ _ _ rfl rfl rfl
      have cG2_0_4 := HG2w3.out.cell 0 4 w1.heap.size _ _ _ rfl rfl rfl
      have cG2_0_5 := HG2w3.out.cell 0 5 w1.heap.size _ _ _ rfl rfl rfl
      have cG2_0_6 := HG2w3.out.cell 0 6 w1.heap.size _ _ _ rfl rfl rfl
      have cG2_0_7 := HG2w3.out.cell 0 7 w1.heap.size _ _ _ rfl rfl rfl
      have lG2_1 := HG2w3.out.lt 1 (w1.heap.size + 1) (by simp) rfl
      have cG2_1_0 := HG2w3.out.cell 1 0 (w1.heap.size + 1) _ _ _ rfl rfl rfl
      have cG2_1_1 := HG2w3.out.cell 1 1 (w1.heap.size + 1) _ _ _ rfl rfl rfl
      have cG2_1_2 := HG2w3.out.cell 1 2 (w1.heap.size + 1) _ _ _ rfl rfl rfl
      have cG2_1_3 := HG2w3.out.cell 1 3 (w1.heap.size + 1) _ _ _ rfl rfl rfl
      have cG2_1_4 := HG2w3.out.cell 1 4 (w1.heap.size + 1) _ _ _ rfl rfl rfl
      go_wp2_with fail
      go_ret
      refine ⟨rfl, ?_⟩
      repeat (with_reducible refine Below.alloc ?_ (by first | omega | (simp; omega)) _)
      exact HG1w3.out.2.2
    · refine (HT3.out _ o1 c1 o2 c2 (HT1.out.1.below HG2w2.out.2.2) (HI1.out.1.below HG2w2.out.2.2) (by decide)).mono ?_
      rintro e w3 ⟨rfl, hb⟩
      have HG1w3 := hide (HG1w2.out.on hb)
      have HG2w3 := hide (HG2w2.out.on hb)
      clear lG1_0 cG1_0_0 cG1_0_1 cG1_0_2 cG1_0_3 cG1_0_4 cG1_0_5 cG1_0_6 cG1_0_7 lG1_1 cG1_1_0 cG1_1_1 cG1_1_2 cG1_1_3 cG1_1_4 cG1_1_5 lG2_0 cG2_0_0 cG2_0_1 cG2_0_2 cG2_0_3 cG2_0_4 cG2_0_5 cG2_0_6 cG2_0_7 lG2_1 cG2_1_0 cG2_1_1 cG2_1_2 cG2_1_3 cG2_1_4
      clear hb HG1w2 HG2w2
      have lG1_0 := HG1w3.out.lt 0 w.heap.size (by simp) rfl
      have cG1_0_0 := HG1w3.out.cell 0 0 w.heap.size _ _ _ rfl rfl rfl
      have cG1_0_1 := HG1w3.out.cell 0 1 w.heap.size _ _ _ rfl rfl rfl
      have cG1_0_2 := HG1w3.out.cell 0 2 w.heap.size _ _ _ rfl rfl rfl
      have cG1_0_3 := HG1w3.out.cell 0 3 w.heap.size _ _ _ rfl rfl rfl
      have cG1_0_4 := HG1w3.out.cell 0 4 w.heap.size _ _ _ rfl rfl rfl
      have cG1_0_5 := HG1w3.out.cell 0 5 w.heap.size _ _ _ rfl rfl rfl
      have cG1_0_6 := HG1w3.out.cell 0 6 w.heap.size _ _ _ rfl rfl rfl
      have cG1_0_7 := HG1w3.out.cell 0 7 w.heap.size _ _ _ rfl rfl rfl
      have lG1_1 := HG1w3.out.lt 1 (w.heap.size + 1) (by simp) rfl
      have cG1_1_0 := HG1w3.out.cell 1 0 (w.heap.size + 1) _ _ _ rfl rfl rfl
      have cG1_1_1 := HG1w3.out.cell 1 1 (w.heap.size + 1) _ _ _ rfl rfl rfl
      have cG1_1_2 := HG1w3.out.cell 1 2 (w.heap.size + 1) _ _ _ rfl rfl rfl
      have cG1_1_3 := HG1w3.out.cell 1 3 (w.heap.size + 1) _ _ _ rfl rfl rfl
      have cG1_1_4 := HG1w3.out.cell 1 4 (w.heap.size + 1) _ _ _ rfl rfl rfl
      have cG1_1_5 := HG1w3.out.cell 1 5 (w.heap.size + 1) _ _ _ rfl rfl rfl
      have lG2_0 := HG2w3.out.lt 0 w1.heap.size (by simp) rfl
      have cG2_0_0 := HG2w3.out.cell 0 0 w1.heap.size _ _ _ rfl rfl rfl
      have cG2_0_1 := HG2w3.out.cell 0 1 w1.heap.size _ _ _ rfl rfl rfl
      have cG2_0_2 := HG2w3.out.cell 0 2 w1.heap.size _ _ _ rfl rfl rfl
      have cG2_0_3 := HG2w3.out.cell 0 3 w1.heap.size _ _ _ rfl rfl rfl
      have cG2_0_4 := HG2w3.out.cell 0 4 w1.heap.size _ _ _ rfl rfl rfl
      have cG2_0_5 := HG2w3.out.cell 0 5 w1.heap.size _ _ _ rfl rfl rfl
      have cG2_0_6 := HG2w3.out.cell 0 6 w1.heap.size _ _ _ rfl rfl rfl
      have cG2_0_7 := HG2w3.out.cell 0 7 w1.heap.size _ _ _ rfl rfl rfl
      have lG2_1 := HG2w3.out.lt 1 (w1.heap.size + 1) (by simp) rfl
      have cG2_1_0 := HG2w3.out.cell 1 0 (w1.heap.size + 1) _ _ _ rfl rfl rfl
      have cG2_1_1 := HG2w3.out.cell 1 1 (w1.heap.size + 1) _ _ _ rfl rfl rfl
      have cG2_1_2 := HG2w3.out.cell 1 2 (w1.heap.size + 1) _ _ _ rfl rfl rfl
      have cG2_1_3 := HG2w3.out.cell 1 3 (w1.heap.size + 1) _ _ _ rfl rfl rfl
      have cG2_1_4 := HG2w3.out.cell 1 4 (w1.heap.size + 1) _ _ _ rfl rfl rfl
      go_wp2_with fail
      go_ret
      refine ⟨rfl, ?_⟩
      repeat (with_reducible refine Below.alloc ?_ (by first | omega | (simp; omega)) _)
      exact HG1w3.out.2.2
    · refine (HT3.out _ o1 c1 o2 c2 (HT1.out.1.below HG2w2.out.2.2) (HI1.out.1.below HG2w2.out.2.2) (by decide)).mono ?_
      rintro e w3 ⟨rfl, hb⟩
      have HG1w3 := hide (HG1w2.out.on hb)
      have HG2w3 := hide (HG2w2.out.on hb)
      clear lG1_0 cG1_0_0 cG1_0_1 cG1_0_2 cG1_0_3 cG1_0_4 cG1_0_5 cG1_0_6 cG1_0_7 lG1_1 cG1_1_0 cG1_1_1 cG1_1_2 cG1_1_3 cG1_1_4 cG1_1_5 lG2_0 cG2_0_0 cG2_0_1 cG2_0_2 cG2_0_3 cG2_0_4 cG2_0_5 cG2_0_6 cG2_0_7 lG2_1 cG2_1_0 cG2_1_1 cG2_1_2 cG2_1_3 cG2_1_4
      clear hb HG1w2 HG2w2
      have lG1_0 := HG1w3.out.lt 0 w.heap.size (by simp) rfl
      have cG1_0_0 := HG1w3.out.cell 0 0 w.heap.size _ _ _ rfl rfl rfl
      have cG1_0_1 := HG1w3.out.cell 0 1 w.heap.size _ _ _ rfl rfl rfl
      have cG1_0_2 := HG1w3.out.cell 0 2 w.heap.size _ _ _ rfl rfl rfl
      have cG1_0_3 := HG1w3.out.cell 0 3 w.heap.size _ _ _ rfl rfl rfl
      have cG1_0_4 := HG1w3.out.cell 0 4 w.heap.size _ _ _ rfl rfl rfl
      have cG1_0_5 := HG1w3.out.cell 0 5 w.heap.size _ _ _ rfl rfl rfl
      have cG1_0_6 := HG1w3.out.cell 0 6 w.heap.size _ _ _ rfl rfl rfl
      have cG1_0_7 := HG1w3.out.cell 0 7 w.heap.size _ _ _ rfl rfl rfl
      have lG1_1 := HG1w3.out.lt 1 (w.heap.size + 1) (by simp) rfl
      have cG1_1_0 := HG1w3.out.cell 1 0 (w.heap.size + 1) _ _ _ rfl rfl rfl
      have cG1_1_1 := HG1w3.out.cell 1 1 (w.heap.size + 1) _ _ _ rfl rfl rfl
      have cG1_1_2 := HG1w3.out.cell 1 2 (w.heap.size + 1) _ _ _ rfl rfl rfl
      have cG1_1_3 := HG1w3.out.cell 1 3 (w.heap.size + 1) _ _ _ rfl rfl rfl
      have cG1_1_4 := HG1w3.out.cell 1 4 (w.heap.size + 1) _ _ _ rfl rfl rfl
      have cG1_1_5 := HG1w3.out.cell 1 5 (w.heap.size + 1) _ _ _ rfl rfl rfl
      have lG2_0 := HG2w3.out.lt 0 w1.heap.size (by simp) rfl
      have cG2_0_0 := HG2w3.out.cell 0 0 w1.heap.size _ _ _ rfl rfl rfl
      have cG2_0_1 := HG2w3.out.cell 0 1 w1.heap.size _ _ _ rfl rfl rfl
      have cG2_0_2 := HG2w3.out.cell 0 2 w1.heap.size _ _ _ rfl rfl rfl
      have cG2_0_3 := HG2w3.out.cell 0 3 w1.heap.size _ _ _ rfl rfl rfl
      have cG2_0_4 := HG2w3.out.cell 0 4 w1.heap.size _ _ _ rfl rfl rfl
      have cG2_0_5 := HG2w3.out.cell 0 5 w1.heap.size _ _ _ rfl rfl rfl
      have cG2_0_6 := HG2w3.out.cell 0 6 w1.heap.size _ _ _ rfl rfl rfl
      have cG2_0_7 := HG2w3.out.cell 0 7 w1.heap.size _ _ _ rfl rfl rfl
      have lG2_1 := HG2w3.out.lt 1 (w1.heap.size + 1) (by simp) rfl
      have cG2_1_0 := HG2w3.out.cell 1 0 (w1.heap.size + 1) _ _ _ rfl rfl rfl
      have cG2_1_1 := HG2w3.out.cell 1 1 (w1.heap.size + 1) _ _ _ rfl rfl rfl
      have cG2_1_2 := HG2w3.out.cell 1 2 (w1.heap.size + 1) _ _ _ rfl rfl rfl
      have cG2_1_3 := HG2w3.out.cell 1 3 (w1.heap.size + 1) _ _ _ rfl rfl rfl
      have cG2_1_4 := HG2w3.out.cell 1 4 (w1.heap.size + 1) _ _ _ rfl rfl rfl
      go_wp2_with fail
      go_ret
      refine ⟨rfl, ?_⟩
      repeat (with_reducible refine Below.alloc ?_ (by first | omega | (simp; omega)) _)
      exact HG1w3.out.2.2
    · refine (HT2.out _ o1 c1 o2 c2 (HT1.out.1.below HG2w2.out.2.2) (HI1.out.1.below HG2w2.out.2.2) HT1.out.2.2 trivial).mono ?_
      rintro e w3 ⟨⟨x, rfl, ⟨o3, c3, o4, c4, rfl, -⟩⟩, hb⟩
      have HG1w3 := hide (HG1w2.out.on hb)
      have HG2w3 := hide (HG2w2.out.on hb)
      clear lG1_0 cG1_0_0 cG1_0_1 cG1_0_2 cG1_0_3 cG1_0_4 cG1_0_5 cG1_0_6 cG1_0_7 lG1_1 cG1_1_0 cG1_1_1 cG1_1_2 cG1_1_3 cG1_1_4 cG1_1_5 lG2_0 cG2_0_0 cG2_0_1 cG2_0_2 cG2_0_3 cG2_0_4 cG2_0_5 cG2_0_6 cG2_0_7 lG2_1 cG2_1_0 cG2_1_1 cG2_1_2 cG2_1_3 cG2_1_4
      clear hb HG1w2 HG2w2
      have lG1_0 := HG1w3.out.lt 0 w.heap.size (by simp) rfl
      have cG1_0_0 := HG1w3.out.cell 0 0 w.heap.size _ _ _ rfl rfl rfl
      have cG1_0_1 := HG1w3.out.cell 0 1 w.heap.size _ _ _ rfl rfl rfl
      have cG1_0_2 := HG1w3.out.cell 0 2 w.heap.size _ _ _ rfl rfl rfl
      have cG1_0_3 := HG1w3.out.cell 0 3 w.heap.size _ _ _ rfl rfl rfl
      have cG1_0_4 := HG1w3.out.cell 0 4 w.heap.size _ _ _ rfl rfl rfl
      have cG1_0_5 := HG1w3.out.cell 0 5 w.heap.size _ _ _ rfl rfl rfl
      have cG1_0_6 := HG1w3.out.cell 0 6 w.heap.size _ _ _ rfl rfl rfl
      have cG1_0_7 := HG1w3.out.cell 0 7 w.heap.size _ _ _ rfl rfl rfl
      have lG1_1 := HG1w3.out.lt 1 (w.heap.size + 1) (by simp) rfl
      have cG1_1_0 := HG1w3.out.cell 1 0 (w.heap.size + 1) _ _ _ rfl rfl rfl
      have cG1_1_1 := HG1w3.out.cell 1 1 (w.heap.size + 1) _ _ _ rfl rfl rfl
      have cG1_1_2 := HG1w3.out.cell 1 2 (w.heap.size + 1) _ _ _ rfl rfl rfl
      have cG1_1_3 := HG1w3.out.cell 1 3 (w.heap.size + 1) _ _ _ rfl rfl rfl
      have cG1_1_4 := HG1w3.out.cell 1 4 (w.heap.size + 1) _ _ _ rfl rfl rfl
      have cG1_1_5 := HG1w3.out.cell 1 5 (w.heap.size + 1) _ _ _ rfl rfl rfl
      have lG2_0 := HG2w3.out.lt 0 w1.heap.size (by simp) rfl
      have cG2_0_0 := HG2w3.out.cell 0 0 w1.heap.size _ _ _ rfl rfl rfl
      have cG2_0_1 := HG2w3.out.cell 0 1 w1.heap.size _ _ _ rfl rfl rfl
      have cG2_0_2 := HG2w3.out.cell 0 2 w1.heap.size _ _ _ rfl rfl rfl
      have cG2_0_3 := HG2w3.out.cell 0 3 w1.heap.size _ _ _ rfl rfl rfl
      have cG2_0_4 := HG2w3.out.cell 0 4 w1.heap.size _ _ _ rfl rfl rfl
      have cG2_0_5 := HG2w3.out.cell 0 5 w1.heap.size _ _ _ rfl rfl rfl
      have cG2_0_6 := HG2w3.out.cell 0 6 w1.heap.size _ _ _ rfl rfl rfl
      have cG2_0_7 := HG2w3.out.cell 0 7 w1.heap.size _ _ _ rfl rfl rfl
      have lG2_1 := HG2w3.out.lt 1 (w1.heap.size + 1) (by simp) rfl
      have cG2_1_0 := HG2w3.out.cell 1 0 (w1.heap.size + 1) _ _ _ rfl rfl rfl
      have cG2_1_1 := HG2w3.out.cell 1 1 (w1.heap.size + 1) _ _ _ rfl rfl rfl
      have cG2_1_2 := HG2w3.out.cell 1 2 (w1.heap.size + 1) _ _ _ rfl rfl rfl
      have cG2_1_3 := HG2w3.out.cell 1 3 (w1.heap.size + 1) _ _ _ rfl rfl rfl
      have cG2_1_4 := HG2w3.out.cell 1 4 (w1.heap.size + 1) _ _ _ rfl rfl rfl
      go_wp2_with fail
      go_ret
      refine ⟨rfl, ?_⟩
      repeat (with_reducible refine Below.alloc ?_ (by first | omega | (simp; omega)) _)
      exact HG1w3.out.2.2
  · have HT := hide (fun W (h : TapsAt W oa P) (h' : IntsAt W od D) => gateTap_err i z s oa P ca v od D cd l u ti k f t y r m W h h' hlP hlD hE)
    have hE' : (tapG i z s P v D l u ⟨ti, k, f, t, y, r⟩ m != 0) = true := by simpa using hE
    generalize tapG i z s P v D l u ⟨ti, k, f, t, y, r⟩ m = E at *
    clear hE hnP
    go_enter Try.func5, Try.ntmps5
    go_wp2_with fail
    have HG1 := hide (((Blks.nil w).more (.cells #[.int .i64 i, .int .i64 z, .int .i64 s, .slice oa P.length ca, .int .i64 v, .slice od D.length cd, .int .i64 l, .int .i64 u] 29) (by simp)).more (.cells #[.int .i64 ti, .int .i64 k, .int .i64 f, .int .i64 t, .int .i64 y, .int .i64 r] 39) (by simp))
    refine (HT.out _ (HP.out.below HG1.out.2.2) (HD.out.below HG1.out.2.2)).mono ?_
    rintro e w1 ⟨rfl, hb⟩
    have HG1w1 := hide (HG1.out.on hb)
    clear hb HG1
    have lG1_0 := HG1w1.out.lt 0 w.heap.size (by simp) rfl
    have cG1_0_0 := HG1w1.out.cell 0 0 w.heap.size _ _ _ rfl rfl rfl
    have cG1_0_1 := HG1w1.out.cell 0 1 w.heap.size _ _ _ rfl rfl rfl
    have cG1_0_2 := HG1w1.out.cell 0 2 w.heap.size _ _ _ rfl rfl rfl
    have cG1_0_3 := HG1w1.out.cell 0 3 w.heap.size _ _ _ rfl rfl rfl
    have cG1_0_4 := HG1w1.out.cell 0 4 w.heap.size _ _ _ rfl rfl rfl
    have cG1_0_5 := HG1w1.out.cell 0 5 w.heap.size _ _ _ rfl rfl rfl
    have cG1_0_6 := HG1w1.out.cell 0 6 w.heap.size _ _ _ rfl rfl rfl
    have cG1_0_7 := HG1w1.out.cell 0 7 w.heap.size _ _ _ rfl rfl rfl
    have lG1_1 := HG1w1.out.lt 1 (w.heap.size + 1) (by simp) rfl
    have cG1_1_0 := HG1w1.out.cell 1 0 (w.heap.size + 1) _ _ _ rfl rfl rfl
    have cG1_1_1 := HG1w1.out.cell 1 1 (w.heap.size + 1) _ _ _ rfl rfl rfl
    have cG1_1_2 := HG1w1.out.cell 1 2 (w.heap.size + 1) _ _ _ rfl rfl rfl
    have cG1_1_3 := HG1w1.out.cell 1 3 (w.heap.size + 1) _ _ _ rfl rfl rfl
    have cG1_1_4 := HG1w1.out.cell 1 4 (w.heap.size + 1) _ _ _ rfl rfl rfl
    have cG1_1_5 := HG1w1.out.cell 1 5 (w.heap.size + 1) _ _ _ rfl rfl rfl
    go_wp2_with fail
    have HG2 := hide (((Blks.nil w1).more (.cells #[.int .i64 0, .int .i64 0, .int .i64 0, .slice none 0 0, .int .i64 0, .slice none 0 0, .int .i64 0, .int .i64 0] 29) (by simp)).more (.cells #[.int .i64 0, .int .i64 0, .int .i64 0, .int .i64 0, .int .i64 0] 35) (by simp))
    refine (gateBegun_any _).mono ?_
    rintro e w2 ⟨rfl, hb⟩
    have HG2w2 := hide (HG2.out.on hb)
    have HG1w2 := hide (HG1w1.out.on HG2w2.out.2.2)
    clear lG1_0 cG1_0_0 cG1_0_1 cG1_0_2 cG1_0_3 cG1_0_4 cG1_0_5 cG1_0_6 cG1_0_7 lG1_1 cG1_1_0 cG1_1_1 cG1_1_2 cG1_1_3 cG1_1_4 cG1_1_5
    clear hb HG1w1 HG2
    have lG1_0 := HG1w2.out.lt 0 w.heap.size (by simp) rfl
    have cG1_0_0 := HG1w2.out.cell 0 0 w.heap.size _ _ _ rfl rfl rfl
    have cG1_0_1 := HG1w2.out.cell 0 1 w.heap.size _ _ _ rfl rfl rfl
    have cG1_0_2 := HG1w2.out.cell 0 2 w.heap.size _ _ _ rfl rfl rfl
    have cG1_0_3 := HG1w2.out.cell 0 3 w.heap.size _ _ _ rfl rfl rfl
    have cG1_0_4 := HG1w2.out.cell 0 4 w.heap.size _ _ _ rfl rfl rfl
    have cG1_0_5 := HG1w2.out.cell 0 5 w.heap.size _ _ _ rfl rfl rfl
    have cG1_0_6 := HG1w2.out.cell 0 6 w.heap.size _ _ _ rfl rfl rfl
    have cG1_0_7 := HG1w2.out.cell 0 7 w.heap.size _ _ _ rfl rfl rfl
    have lG1_1 := HG1w2.out.lt 1 (w.heap.size + 1) (by simp) rfl
    have cG1_1_0 := HG1w2.out.cell 1 0 (w.heap.size + 1) _ _ _ rfl rfl rfl
    have cG1_1_1 := HG1w2.out.cell 1 1 (w.heap.size + 1) _ _ _ rfl rfl rfl
    have cG1_1_2 := HG1w2.out.cell 1 2 (w.heap.size + 1) _ _ _ rfl rfl rfl
    have cG1_1_3 := HG1w2.out.cell 1 3 (w.heap.size + 1) _ _ _ rfl rfl rfl
    have cG1_1_4 := HG1w2.out.cell 1 4 (w.heap.size + 1) _ _ _ rfl rfl rfl
    have cG1_1_5 := HG1w2.out.cell 1 5 (w.heap.size + 1) _ _ _ rfl rfl rfl
    have lG2_0 := HG2w2.out.lt 0 w1.heap.size (by simp) rfl
    have cG2_0_0 := HG2w2.out.cell 0 0 w1.heap.size _ _ _ rfl rfl rfl
    have cG2_0_1 := HG2w2.out.cell 0 1 w1.heap.size _ _ _ rfl rfl rfl
    have cG2_0_2 := HG2w2.out.cell 0 2 w1.heap.size _ _ _ rfl rfl rfl
    have cG2_0_3 := HG2w2.out.cell 0 3 w1.heap.size _ _ _ rfl rfl rfl
    have cG2_0_4 := HG2w2.out.cell 0 4 w1.heap.size _ _ _ rfl rfl rfl
    have cG2_0_5 := HG2w2.out.cell 0 5 w1.heap.size _ _ _ rfl rfl rfl
    have cG2_0_6 := HG2w2.out.cell 0 6 w1.heap.size _ _ _ rfl rfl rfl
    have cG2_0_7 := HG2w2.out.cell 0 7 w1.heap.size _ _ _ rfl rfl rfl
    have lG2_1 := HG2w2.out.lt 1 (w1.heap.size + 1) (by simp) rfl
    have cG2_1_0 := HG2w2.out.cell 1 0 (w1.heap.size + 1) _ _ _ rfl rfl rfl
    have cG2_1_1 := HG2w2.out.cell 1 1 (w1.heap.size + 1) _ _ _ rfl rfl rfl
    have cG2_1_2 := HG2w2.out.cell 1 2 (w1.heap.size + 1) _ _ _ rfl rfl rfl
    have cG2_1_3 := HG2w2.out.cell 1 3 (w1.heap.size + 1) _ _ _ rfl rfl rfl
    have cG2_1_4 := HG2w2.out.cell 1 4 (w1.heap.size + 1) _ _ _ rfl rfl rfl
    go_wp2_with fail
    go_ret
    exact ⟨rfl, HG1w2.out.2.2⟩
end Go.Proofs.Ytcakfmpckbmdead
